/-
  General pieces, joined: DD DE DF DG DH DI DJ DK DL XV DM DN DO DP DQ DR DS DT DW.
-/
import Derived.Test.YtniogaimhkcedaaDoorBaseD
import Derived.Maps.OwnSet
import Derived.WalkSpells
/-
  Names of terms: strings.TrimLeft at a byte 0, term.nameOf, term.numberOf.
-/
namespace Go.Proofs.YtniogaimhkcedaaDoor.sh
open Go Go.RowKit
set_option linter.unusedVariables false
set_option linter.unusedSimpArgs false

theorem map_inj8 {l m : List Nat} (hl : Bytes l) (hm : Bytes m) (h : (l.map fun n => UInt8.ofNat n) = m.map fun n => UInt8.ofNat n) : l = m := strOf_same hl hm (by rw [← strOf_mk l, ← strOf_mk m, h])
theorem u8_zero {n : Nat} (h : n < 256) : (UInt8.ofNat n == 0) = decide (n = 0) := by
  by_cases h0 : n = 0
  · subst h0; rfl
  · rw [decide_eq_false h0]
    refine beq_eq_false_iff_ne.2 fun e => h0 ?_
    have := congrArg UInt8.toNat e
    simp at this
    omega
/-- Without the bytes 0 ahead. -/
def dropZ (l : List Nat) : List Nat := l.dropWhile (fun n => decide (n = 0))
theorem dropZ_map : ∀ {l : List Nat}, Bytes l → (l.map fun n => UInt8.ofNat n).dropWhile (· == 0) = (dropZ l).map fun n => UInt8.ofNat n
  | [], _ => rfl
  | x :: l, h => by
    have hx : x < 256 := h 0 x rfl
    have hl : Bytes l := fun i y hy => h (i + 1) y hy
    unfold dropZ
    rw [List.map_cons, List.dropWhile_cons, List.dropWhile_cons, u8_zero hx]
    by_cases h0 : x = 0
    · rw [if_pos (by simpa using h0), if_pos (by simpa using h0)]
      exact dropZ_map hl
    · rw [if_neg (by simpa using h0), if_neg (by simpa using h0)]
      rfl
theorem sTrim0 {l : List Nat} (h : Bytes l) (w : World) :
    Calls Tryd.prog 72 #[.string (strOf l), .int .u8 0] w fun e w' => e = .returned (.string (strOf (dropZ l))) ∧ w' = w := by
  have h1 := sTrimB l 0 w
  unfold Lib.trimLeftB at h1
  rw [dropZ_map h, strOf_mk] at h1
  exact h1
theorem drop_zeros : ∀ (k : Nat) {t : List Nat}, t.head? ≠ some 0 → dropZ (List.replicate k 0 ++ t) = t
  | 0, [], _ => rfl
  | 0, x :: t, h => by
    have hx : ¬ x = 0 := fun e => h (by rw [e]; rfl)
    show dropZ (x :: t) = _
    unfold dropZ
    rw [List.dropWhile_cons, if_neg (by simpa using hx)]
  | k + 1, t, h => by
    show dropZ (0 :: (List.replicate k 0 ++ t)) = t
    unfold dropZ
    rw [List.dropWhile_cons, if_pos (by rfl)]
    exact drop_zeros k h
theorem dropZ_form : ∀ l : List Nat, ∃ k, l = List.replicate k 0 ++ dropZ l ∧ (dropZ l).head? ≠ some 0
  | [] => ⟨0, rfl, by simp [dropZ]⟩
  | x :: l => by
    by_cases h0 : x = 0
    · obtain ⟨k, h1, h2⟩ := dropZ_form l
      have e : dropZ (x :: l) = dropZ l := by
        unfold dropZ
        rw [List.dropWhile_cons, if_pos (by simpa using h0)]
      refine ⟨k + 1, ?_, by rw [e]; exact h2⟩
      rw [e, List.replicate_succ, List.cons_append, ← h1, h0]
    · have e : dropZ (x :: l) = x :: l := by
        unfold dropZ
        rw [List.dropWhile_cons, if_neg (by simpa using h0)]
      exact ⟨0, by rw [e]; rfl, by rw [e]; simpa using h0⟩
theorem dropZ_bytes {l : List Nat} (h : Bytes l) : Bytes (dropZ l) := by
  obtain ⟨k, h1, _⟩ := dropZ_form l
  rw [h1] at h
  exact bytes_of_all fun x hx => h.all x (List.mem_append_right _ hx)
theorem bigL_num : ∀ (k n : Nat), n < 256 ^ k → bigL n k = List.replicate (k - (numT n k).length) 0 ++ numT n k
  | 0, n, h => by simp at h; subst h; rfl
  | k + 1, n, h => by
    have hd : n / 256 < 256 ^ k := by rw [Nat.pow_succ] at h; omega
    have ih := bigL_num k (n / 256) hd
    unfold bigL numT
    by_cases h0 : n = 0
    · subst h0
      rw [if_pos rfl]
      rw [show 0 / 256 = 0 from rfl, numT_zero] at ih
      rw [show 0 / 256 = 0 from rfl, ih]
      simp [List.replicate_succ']
    · rw [if_neg h0, ih, List.length_append, List.length_singleton, List.append_assoc, show k + 1 - ((numT (n / 256) k).length + 1) = k - (numT (n / 256) k).length by omega]
/-- The number of a name; 0 of what is none. -/
def noL (l : List Nat) : Nat := if l.take 4 = [116, 101, 114, 109] ∧ l.length = 32 then rdV (dropZ (l.drop 4)) else 0
theorem termN_drop (n : Nat) (h : n < 18446744073709551616) : (termN n).drop 4 = List.replicate (28 - (numL n).length) 0 ++ numL n := by
  have h1 := bigL_num 8 n h
  have h2 := numL_len n
  unfold termN
  rw [List.append_assoc, List.drop_append_of_le_length (by decide), show ([116, 101, 114, 109] : List Nat).drop 4 = [] from rfl, List.nil_append, h1]
  show List.replicate 20 0 ++ (List.replicate (8 - (numL n).length) 0 ++ numL n) = _
  rw [← List.append_assoc, List.replicate_append_replicate, show 20 + (8 - (numL n).length) = 28 - (numL n).length by omega]
theorem noL_name {n : Nat} (h : n < 18446744073709551616) : noL (termN n) = n := by
  unfold noL
  rw [if_pos ⟨by unfold termN; rfl, termN_len n⟩, termN_drop n h, drop_zeros _ (numL_head n h)]
  unfold rdV
  rw [if_pos ⟨numL_len n, numL_head n h⟩]
  exact numL_read n h
theorem noL_of {l : List Nat} (hy : Bytes l) (h : noL l ≠ 0) : l = termN (noL l) ∧ noL l < 18446744073709551616 := by
  unfold noL at h ⊢
  by_cases h1 : l.take 4 = [116, 101, 114, 109] ∧ l.length = 32
  · rw [if_pos h1] at h ⊢
    obtain ⟨k, e1, e2⟩ := dropZ_form (l.drop 4)
    have hb := dropZ_bytes (hy.drop 4)
    unfold rdV at h ⊢
    by_cases hR : Reads (dropZ (l.drop 4))
    · rw [if_pos hR] at h ⊢
      have hlt : readT (dropZ (l.drop 4)) < 18446744073709551616 := by
        have h2 := readT_lt _ _ rfl hb
        have h3 : 256 ^ (dropZ (l.drop 4)).length ≤ 256 ^ 8 := Nat.pow_le_pow_right (by decide) hR.1
        omega
      refine ⟨?_, hlt⟩
      have e3 := numL_of _ hb hR.1 hR.2
      have e4 := termN_drop _ hlt
      rw [e3] at e4
      have hk : k = 28 - (dropZ (l.drop 4)).length := by
        have := congrArg List.length e1
        rw [List.length_drop, List.length_append, List.length_replicate, h1.2] at this
        omega
      rw [← hk, ← e1] at e4
      have e5 : (termN (readT (dropZ (l.drop 4)))).take 4 = l.take 4 := by rw [h1.1]; unfold termN; rfl
      rw [← List.take_append_drop 4 (termN _), e5, e4, List.take_append_drop]
    · rw [if_neg hR] at h; exact absurd rfl h
  · rw [if_neg h1] at h; exact absurd rfl h
theorem findN_no {N : Nat} {l : List Nat} (hy : Bytes l) (hN : N < 18446744073709551616) : findN N l = if noL l ≤ N then noL l else 0 := by
  by_cases h0 : noL l = 0
  · rw [h0, if_pos (Nat.zero_le _)]
    refine findN_none fun i h1 h2 e => ?_
    have := noL_name (n := i) (by omega)
    rw [e, h0] at this
    omega
  · obtain ⟨e1, e2⟩ := noL_of hy h0
    by_cases h : noL l ≤ N
    · rw [if_pos h]
      conv => lhs; rw [e1]
      exact findN_at N _ hN (by omega) h
    · rw [if_neg h]
      refine findN_none fun i h1 h2 e => ?_
      have := noL_name (n := i) (by omega)
      rw [e] at this
      omega

set_option maxRecDepth 100000 in
set_option maxHeartbeats 1000000 in
theorem TrimD {l : List Nat} {w : World} (hl : Bytes l) :
    Calls Tryd.prog 64 #[.string (strOf l), .string ⟨#[0]⟩] w fun e w' => e = .returned (.string (strOf (dropZ l))) ∧ w' = w := by
  have CT := sTrim0 hl w
  have KL : Kept _ := ⟨hl⟩
  by_cases h0 : l = []
  · subst h0
    have B1 : Kept (true = decide (([] : List Nat) = [])) := ⟨rfl⟩
    clear hl CT
    go_enter Tryd.func64, Tryd.ntmps64
    go_wp2_with (first | ((with_reducible refine wv_val (d := 8) ?hd ?hw (.bool true) ?hr ?_); (case hd => rfl); (case hw => kernel_rfl); (case hr => intro w; exact run_seq (l := []) (m := []) rfl (by kernel_rfl) rfl nil_bytes nil_bytes B1.out w); simp only [Act.put, List.setIfInBounds_toArray, List.set_cons_succ, List.set_cons_zero]))
    go_ret
    exact ⟨rfl, rfl⟩
  · have B1 : Kept (false = decide (l = [])) := ⟨(decide_eq_false h0).symm⟩
    have B2 : Kept (false = decide (([0] : List Nat) = [])) := ⟨rfl⟩
    have Y0 : Kept (Bytes [0]) := ⟨bytes_of_all (fun x hx => by simp at hx; omega)⟩
    have K1 : Kept (1 = ([0] : List Nat).length) := ⟨rfl⟩
    have K2 : Kept (([0] : List Nat)[0]? = some 0) := ⟨rfl⟩
    clear h0 hl
    go_enter Tryd.func64, Tryd.ntmps64
    go_wp2_with (first | ((with_reducible refine wv_val (d := 8) ?hd ?hw (.bool false) ?hr ?_); (case hd => rfl); (case hw => kernel_rfl); (case hr => intro w; exact run_seq (m := []) rfl (by kernel_rfl) rfl KL.out nil_bytes B1.out w); simp only [Act.put, List.setIfInBounds_toArray, List.set_cons_succ, List.set_cons_zero]) | ((with_reducible refine wv_val (d := 11) ?hd ?hw (.bool false) ?hr ?_); (case hd => rfl); (case hw => kernel_rfl); (case hr => intro w; exact run_seq (l := [0]) (m := []) rfl (by kernel_rfl) rfl Y0.out nil_bytes B2.out w); simp only [Act.put, List.setIfInBounds_toArray, List.set_cons_succ, List.set_cons_zero]) | ((with_reducible refine wv_val (d := 15) ?hd ?hw (.int .i64 ((1 : Nat) : Int)) ?hr ?_); (case hd => rfl); (case hw => kernel_rfl); (case hr => intro w; exact run_slen (l := [0]) rfl (by kernel_rfl) K1.out w); simp only [Act.put, List.setIfInBounds_toArray, List.set_cons_succ, List.set_cons_zero]) | ((with_reducible refine wv_val (d := 19) ?hd ?hw (.int .u8 ((0 : Nat) : Int)) ?hr ?_); (case hd => rfl); (case hw => kernel_rfl); (case hr => intro w; exact run_sidx (l := [0]) (i := 0) rfl (by kernel_rfl) rfl Y0.out K2.out w); simp only [Act.put, List.setIfInBounds_toArray, List.set_cons_succ, List.set_cons_zero]) | ((with_reducible refine wv_val (d := 24) ?hd ?hw (.int .u8 ((0 : Nat) : Int)) ?hr ?_); (case hd => rfl); (case hw => kernel_rfl); (case hr => intro w; exact run_sidx (l := [0]) (i := 0) rfl (by kernel_rfl) rfl Y0.out K2.out w); simp only [Act.put, List.setIfInBounds_toArray, List.set_cons_succ, List.set_cons_zero]))
    refine CT.mono ?_
    rintro e w2 ⟨rfl, rfl⟩
    go_wp2_with fail
    go_ret
    exact ⟨rfl, rfl⟩

theorem rep_map : ∀ c : Nat, Lib.repeatL ([0].map fun n : Nat => UInt8.ofNat n) c = (List.replicate c 0).map fun n : Nat => UInt8.ofNat n
  | 0 => rfl
  | c + 1 => by
    unfold Lib.repeatL
    rw [rep_map c, List.replicate_succ]
    rfl
theorem RepD {c : Nat} {w : World} (hc : c ≤ 28) :
    Calls Tryd.prog 56 #[.string ⟨#[0]⟩, .int .i64 (c : Int)] w fun e w' => e = .returned (.string (strOf (List.replicate c 0))) ∧ Below w.heap.size w w' := by
  have h := sRep (l := [0]) (c := c) w (by simp; omega) (by omega)
  rw [rep_map, strOf_mk] at h
  exact h
theorem zeros_bytes (c : Nat) : Bytes (List.replicate c 0) := bytes_of_all fun x hx => by rw [List.eq_of_mem_replicate hx]; decide
set_option maxRecDepth 100000 in
set_option maxHeartbeats 1000000 in
theorem nameOfD {n : Nat} {w : World} (hn : n < 18446744073709551616) :
    Calls Tryd.prog 37 #[.int .u64 (n : Int)] w fun e w' => e = .returned (.string (strOf (termN n))) ∧ Below w.heap.size w w' := by
  have CN := NumD (w := w) hn
  have hz8 := numL_len n
  have hD := termN_drop n hn
  have hH : (termN n).take 4 = [116, 101, 114, 109] := by unfold termN; rfl
  obtain ⟨D, hDe⟩ : ∃ D, D = numL n := ⟨_, rfl⟩
  rw [← hDe] at CN hz8 hD
  obtain ⟨z, hz⟩ : ∃ z, z = D.length := ⟨_, rfl⟩
  rw [← hz] at hz8 hD
  obtain ⟨c, hc⟩ : ∃ c, c = 28 - z := ⟨_, rfl⟩
  rw [← hc] at hD
  have hc28 : c ≤ 28 := by omega
  have CR := fun w1 : World => RepD (w := w1) hc28
  obtain ⟨R, hR⟩ : ∃ R, R = List.replicate c 0 := ⟨_, rfl⟩
  rw [← hR] at CR hD
  obtain ⟨T, hT⟩ : ∃ T, T = termN n := ⟨_, rfl⟩
  rw [← hT] at hD hH ⊢
  obtain ⟨P, hP⟩ : ∃ P, P = [116, 101, 114, 109] ++ R := ⟨_, rfl⟩
  have KT : Kept (T = P ++ D) := ⟨by rw [hP, List.append_assoc, ← hD, ← hH, List.take_append_drop]⟩
  have KP : Kept _ := ⟨hP⟩
  have KZ : Kept _ := ⟨hz⟩
  have KC : Kept _ := ⟨hc⟩
  have KCN : Kept _ := ⟨CN⟩
  have KCR : Kept _ := ⟨CR⟩
  have B1 : Kept (([116, 101, 114, 109] : List Nat).length + R.length < 4611686018427387904) := ⟨by rw [hR, List.length_replicate]; simp; omega⟩
  have B2 : Kept (P.length + D.length < 4611686018427387904) := ⟨by rw [hP, hR, List.length_append, List.length_replicate, ← hz]; simp; omega⟩
  clear hD hH hDe hz hc hR hT hP CN CR
  go_enter Tryd.func37, Tryd.ntmps37
  go_wp2_with fail
  refine KCN.out.mono ?_
  rintro e w1 ⟨rfl, q1⟩
  go_wp2_with (first | ((with_reducible refine wv_val (d := 7) ?hd ?hw (.int .i64 (z : Int)) ?hr ?_); (case hd => rfl); (case hw => kernel_rfl); (case hr => intro w; exact run_slen rfl (by kernel_rfl) KZ.out w); simp only [Act.put, List.setIfInBounds_toArray, List.set_cons_succ, List.set_cons_zero]) | ((with_reducible refine wv_val (d := 8) ?hd ?hw (.int .i64 (c : Int)) ?hr ?_); (case hd => rfl); (case hw => kernel_rfl); (case hr => intro w; exact run_subC 28 rfl (by kernel_rfl) KC.out (by omega) (by decide) w); simp only [Act.put, List.setIfInBounds_toArray, List.set_cons_succ, List.set_cons_zero]))
  refine (KCR.out w1).mono ?_
  rintro e w2 ⟨rfl, q2⟩
  go_wp2_with (first | ((with_reducible refine wv_val (d := 10) ?hd ?hw (.string (strOf P)) ?hr ?_); (case hd => rfl); (case hw => kernel_rfl); (case hr => intro w; exact run_scat (l := [116, 101, 114, 109]) rfl (by kernel_rfl) (by kernel_rfl) B1.out KP.out w); simp only [Act.put, List.setIfInBounds_toArray, List.set_cons_succ, List.set_cons_zero]) | ((with_reducible refine wv_val (d := 12) ?hd ?hw (.string (strOf T)) ?hr ?_); (case hd => rfl); (case hw => kernel_rfl); (case hr => intro w; exact run_scat rfl (by kernel_rfl) (by kernel_rfl) B2.out KT.out w); simp only [Act.put, List.setIfInBounds_toArray, List.set_cons_succ, List.set_cons_zero]))
  go_ret
  exact ⟨rfl, q1.trans (q2.mono q1.size)⟩

theorem hasP_eq {l : List Nat} (hl : Bytes l) : Lib.hasPrefix (l.map fun n => UInt8.ofNat n) ([116, 101, 114, 109].map fun n : Nat => UInt8.ofNat n) = decide (l.take 4 = [116, 101, 114, 109]) := by
  unfold Lib.hasPrefix
  have hT : Bytes [116, 101, 114, 109] := bytes_of_all (fun x hx => by simp at hx; omega)
  by_cases h : l.take 4 = [116, 101, 114, 109]
  · rw [decide_eq_true h, List.isPrefixOf_iff_prefix, List.prefix_iff_eq_take, List.length_map, ← List.map_take]
    exact congrArg _ h.symm
  · rw [decide_eq_false h]
    refine Bool.eq_false_iff.2 fun e => h ?_
    rw [List.isPrefixOf_iff_prefix, List.prefix_iff_eq_take, List.length_map, ← List.map_take] at e
    exact (map_inj8 hT (hl.take _) e).symm
theorem CutD {l : List Nat} (hl : Bytes l) (w : World) :
    Calls Tryd.prog 62 #[.string (strOf l), .string ⟨#[116, 101, 114, 109]⟩] w fun e w' => e = .returned (.tuple #[.string (strOf (if l.take 4 = [116, 101, 114, 109] then l.drop 4 else l)), .bool (decide (l.take 4 = [116, 101, 114, 109]))]) ∧ w' = w := by
  have h := sCut l [116, 101, 114, 109] w
  unfold Lib.trimPrefix at h
  rw [hasP_eq hl] at h
  refine h.mono ?_
  rintro e w' ⟨rfl, rfl⟩
  refine ⟨?_, rfl⟩
  by_cases h : l.take 4 = [116, 101, 114, 109]
  · rw [if_pos h, decide_eq_true h, if_pos rfl, List.length_map, ← List.map_drop, strOf_mk]
    rfl
  · rw [if_neg h, decide_eq_false h, if_neg (by decide), strOf_mk]
set_option maxRecDepth 100000 in
set_option maxHeartbeats 1000000 in
theorem numberOfD {l : List Nat} {w : World} (hl : Bytes l) (hL : l.length ≤ maxLen) :
    Calls Tryd.prog 49 #[.string (strOf l)] w fun e w' => e = .returned (.int .u64 (noL l : Int)) ∧ w' = w := by
  have CC := CutD hl w
  obtain ⟨N, hN⟩ : ∃ N, N = noL l := ⟨_, rfl⟩
  rw [← hN]
  by_cases h4 : l.take 4 = [116, 101, 114, 109]
  case neg =>
    rw [if_neg h4, decide_eq_false h4] at CC
    have K0 : Kept (N = 0) := ⟨by rw [hN]; unfold noL; rw [if_neg (fun h => h4 h.1)]⟩
    have KCC : Kept _ := ⟨CC⟩
    clear hN h4 CC
    go_enter Tryd.func49, Tryd.ntmps49
    go_wp2_with fail
    refine KCC.out.mono ?_
    rintro e w1 ⟨rfl, hw⟩
    obtain rfl := hw.symm
    go_wp2_with fail
    go_ret
    exact ⟨by rw [K0.out]; rfl, rfl⟩
  case pos =>
    rw [if_pos h4, decide_eq_true h4] at CC
    obtain ⟨m, hm⟩ : ∃ m, m = l.length := ⟨_, rfl⟩
    have KM : Kept _ := ⟨hm⟩
    by_cases h32 : m = 32
    case neg =>
      have K0 : Kept (N = 0) := ⟨by rw [hN]; unfold noL; rw [if_neg (fun h => h32 (hm.trans h.2))]⟩
      have B1 : Kept (true = !decide ((m : Int) = 32)) := ⟨by rw [decide_eq_false (by omega)]; rfl⟩
      have KCC : Kept _ := ⟨CC⟩
      clear hN h4 CC h32 hm
      go_enter Tryd.func49, Tryd.ntmps49
      go_wp2_with fail
      refine KCC.out.mono ?_
      rintro e w1 ⟨rfl, hw⟩
      obtain rfl := hw.symm
      go_wp2_with (first | ((with_reducible refine wv_val (d := 16) ?hd ?hw (.int .i64 (m : Int)) ?hr ?_); (case hd => rfl); (case hw => kernel_rfl); (case hr => intro w; exact run_slen rfl (by kernel_rfl) KM.out w); simp only [Act.put, List.setIfInBounds_toArray, List.set_cons_succ, List.set_cons_zero]) | ((with_reducible refine wv_val (d := 17) ?hd ?hw (.bool true) ?hr ?_); (case hd => rfl); (case hw => kernel_rfl); (case hr => intro w; exact run_neI rfl (by kernel_rfl) rfl B1.out w); simp only [Act.put, List.setIfInBounds_toArray, List.set_cons_succ, List.set_cons_zero]))
      go_ret
      exact ⟨by rw [K0.out]; rfl, rfl⟩
    case pos =>
      have B1 : Kept (false = !decide ((m : Int) = 32)) := ⟨by rw [decide_eq_true (by omega)]; rfl⟩
      have CT := fun w1 : World => TrimD (w := w1) (hl.drop 4)
      obtain ⟨T, hT⟩ : ∃ T, T = dropZ (l.drop 4) := ⟨_, rfl⟩
      have CR := fun w1 : World => ReadD (s := T) (w := w1) (by rw [hT]; exact dropZ_bytes (hl.drop 4)) (by
        obtain ⟨k, e1, _⟩ := dropZ_form (l.drop 4)
        have := congrArg List.length e1
        rw [List.length_append, List.length_drop, List.length_replicate, ← hT, ← hm] at this
        unfold maxLen
        omega)
      rw [← hT] at CT
      have hV : N = rdV T := by rw [hN]; unfold noL; rw [if_pos ⟨h4, by omega⟩, hT]
      rw [← hV] at CR
      have KE : Kept ((rdE T = 0) ∨ (rdE T = 4 ∧ N = 0)) := ⟨by
        rw [hV]
        unfold rdE rdV
        by_cases hR : Reads T
        · exact .inl (if_pos hR)
        · exact .inr ⟨if_neg hR, if_neg hR⟩⟩
      obtain ⟨E, hE⟩ : ∃ E, E = rdE T := ⟨_, rfl⟩
      rw [← hE] at CR KE
      have KCC : Kept _ := ⟨CC⟩
      have KCT : Kept _ := ⟨CT⟩
      have KCR : Kept _ := ⟨CR⟩
      clear hN h4 CC h32 hm hT CT CR hV hE
      rcases KE.out with hE | ⟨hE, hN0⟩
      · subst hE
        clear KE
        go_enter Tryd.func49, Tryd.ntmps49
        go_wp2_with fail
        refine KCC.out.mono ?_
        rintro e w1 ⟨rfl, hw⟩
        obtain rfl := hw.symm
        go_wp2_with (first | ((with_reducible refine wv_val (d := 16) ?hd ?hw (.int .i64 (m : Int)) ?hr ?_); (case hd => rfl); (case hw => kernel_rfl); (case hr => intro w; exact run_slen rfl (by kernel_rfl) KM.out w); simp only [Act.put, List.setIfInBounds_toArray, List.set_cons_succ, List.set_cons_zero]) | ((with_reducible refine wv_val (d := 17) ?hd ?hw (.bool false) ?hr ?_); (case hd => rfl); (case hw => kernel_rfl); (case hr => intro w; exact run_neI rfl (by kernel_rfl) rfl B1.out w); simp only [Act.put, List.setIfInBounds_toArray, List.set_cons_succ, List.set_cons_zero]))
        refine (KCT.out w).mono ?_
        rintro e w2 ⟨rfl, hw⟩
        obtain rfl := hw.symm
        go_wp2_with fail
        refine (KCR.out w).mono ?_
        rintro e w3 ⟨rfl, hw⟩
        obtain rfl := hw.symm
        go_wp2_with fail
        go_ret
        exact ⟨rfl, rfl⟩
      · subst hE hN0
        clear KE
        go_enter Tryd.func49, Tryd.ntmps49
        go_wp2_with fail
        refine KCC.out.mono ?_
        rintro e w1 ⟨rfl, hw⟩
        obtain rfl := hw.symm
        go_wp2_with (first | ((with_reducible refine wv_val (d := 16) ?hd ?hw (.int .i64 (m : Int)) ?hr ?_); (case hd => rfl); (case hw => kernel_rfl); (case hr => intro w; exact run_slen rfl (by kernel_rfl) KM.out w); simp only [Act.put, List.setIfInBounds_toArray, List.set_cons_succ, List.set_cons_zero]) | ((with_reducible refine wv_val (d := 17) ?hd ?hw (.bool false) ?hr ?_); (case hd => rfl); (case hw => kernel_rfl); (case hr => intro w; exact run_neI rfl (by kernel_rfl) rfl B1.out w); simp only [Act.put, List.setIfInBounds_toArray, List.set_cons_succ, List.set_cons_zero]))
        refine (KCT.out w).mono ?_
        rintro e w2 ⟨rfl, hw⟩
        obtain rfl := hw.symm
        go_wp2_with fail
        refine (KCR.out w).mono ?_
        rintro e w3 ⟨rfl, hw⟩
        obtain rfl := hw.symm
        go_wp2_with fail
        go_ret
        exact ⟨rfl, rfl⟩
end Go.Proofs.YtniogaimhkcedaaDoor.sh
/-
  What a table of terms is in memory: a struct, a map, a slice; what calls leave of it; (*Table).made.
-/
namespace Go.Proofs.YtniogaimhkcedaaDoor.sh
open Go Go.RowKit Go.Maps
set_option linter.unusedVariables false
set_option linter.unusedSimpArgs false

/-- A term that a table may have. -/
def GoodT (t : TermL) : Prop := t.1 < 256 ∧ (∀ p ∈ t.2, Bytes p) ∧ Fits t.2
def keyL (t : TermL) : List Nat := joinL t.1 t.2
def litL (l : List Nat) : Lit := .string (l.map fun n => UInt8.ofNat n)
theorem keyL_bytes {t : TermL} (h : GoodT t) : Bytes (keyL t) := joinL_bytes h.1 h.2.1 h.2.2
theorem keyL_inj {t u : TermL} (h : GoodT t) (h2 : GoodT u) (e : litL (keyL t) = litL (keyL u)) : t = u := by
  unfold litL at e
  have := map_inj8 (keyL_bytes h) (keyL_bytes h2) (by simpa using e)
  obtain ⟨e1, e2⟩ := join_one this
  exact Prod.ext e1 e2
theorem good_of {t : TermL} (h : Formed t) (hF : Fits t.2) : GoodT t := by
  refine ⟨?_, h.1, hF⟩
  rcases h.2 with ⟨e, _⟩ | ⟨e, _⟩ | ⟨e, _⟩ | e | e <;> omega
theorem good_mem {ts : List TermL} (h : Terms ts) {t : TermL} (ht : t ∈ ts) : GoodT t := good_of (h.2 t ht) (h.1.2 t ht)
/-- The numbers of terms as a map: the last one first. -/
def numR : List TermL → DataW Unit
  | [] => .map []
  | t :: r => (numR r).put (litL (keyL t)) (.lit (.int .u64 ((r.length + 1 : Nat) : Int)))
def numD (ts : List TermL) : DataW Unit := numR ts.reverse
theorem numD_nil : numD [] = .map [] := rfl
theorem numD_snoc (ts : List TermL) (t : TermL) : numD (ts ++ [t]) = (numD ts).put (litL (keyL t)) (.lit (.int .u64 ((ts.length + 1 : Nat) : Int))) := by
  unfold numD
  rw [List.reverse_append]
  show (numR ts.reverse).put _ (.lit (.int .u64 ((ts.reverse.length + 1 : Nat) : Int))) = _
  rw [List.length_reverse]
theorem numR_isMap : ∀ r : List TermL, IsMap (numR r)
  | [] => isMap_empty
  | t :: r => (numR_isMap r).put _ _
theorem isKey_lit (l : List Nat) : WideAt.IsKeyLit (litL l) := trivial
theorem numR_has : ∀ (r : List TermL), (∀ t ∈ r, GoodT t) → ∀ u, GoodT u → Maps.has (numR r) (litL (keyL u)) = decide (u ∈ r)
  | [], _, u, _ => rfl
  | t :: r, h, u, hu => by
    have hr := numR_has r (fun x hx => h x (List.mem_cons_of_mem _ hx)) u hu
    show Maps.has ((numR r).put (litL (keyL t)) _) _ = _
    by_cases e : u = t
    · subst e
      rw [has_put_same (numR_isMap r) (isKey_lit _), decide_eq_true List.mem_cons_self]
    · rw [has_put_other (fun e2 => e (keyL_inj hu (h t List.mem_cons_self) e2)), hr]
      exact decide_eq_decide.2 ⟨fun h => List.mem_cons_of_mem _ h, fun h => by
        rcases List.mem_cons.1 h with h | h
        · exact absurd h e
        · exact h⟩
theorem numR_at : ∀ (r : List TermL), (∀ t ∈ r, GoodT t) → r.Nodup → ∀ u ∈ r, ∀ z, (numR r).atKey (litL (keyL u)) z = .lit (.int .u64 ((r.reverse.idxOf u + 1 : Nat) : Int))
  | [], _, _, u, hu, _ => by cases hu
  | t :: r, h, hn, u, hu, z => by
    rw [List.nodup_cons] at hn
    show DataW.atKey ((numR r).put (litL (keyL t)) _) _ z = _
    by_cases e : u = t
    · subst e
      rw [atKey_put_same (numR_isMap r) (isKey_lit _), List.reverse_cons, List.idxOf_append, if_neg (by simpa using hn.1), List.length_reverse]
      simp
    · have hu2 : u ∈ r := by
        rcases List.mem_cons.1 hu with h | h
        · exact absurd h e
        · exact h
      have hr := numR_at r (fun x hx => h x (List.mem_cons_of_mem _ hx)) hn.2 u hu2 z
      rw [atKey_put_other (fun e2 => e (keyL_inj (h u hu) (h t List.mem_cons_self) e2)), hr, List.reverse_cons, List.idxOf_append, if_pos (by simpa using hu2)]
theorem numD_has {ts : List TermL} (h : Terms ts) {u : TermL} (hu : GoodT u) : Maps.has (numD ts) (litL (keyL u)) = decide (u ∈ ts) := by
  unfold numD
  rw [numR_has _ (fun t ht => good_mem h (by simpa using ht)) u hu]
  exact decide_eq_decide.2 (by simp)
theorem numD_at {ts : List TermL} (h : Terms ts) {u : TermL} (hu : u ∈ ts) (z : DataW Unit) : (numD ts).atKey (litL (keyL u)) z = .lit (.int .u64 ((ts.idxOf u + 1 : Nat) : Int)) := by
  unfold numD
  rw [numR_at _ (fun t ht => good_mem h (by simpa using ht)) ((List.reverse_perm ts).symm.nodup h.1.1) u (by simpa using hu) z, List.reverse_reverse]

/-- Blocks below w's size, but for M, are what they were. -/
structure Out (M : Nat → Prop) (w w' : World) : Prop where
  os : w'.os = w.os
  tape : w'.tape = w.tape
  output : w'.output = w.output
  size : w.heap.size ≤ w'.heap.size
  block : ∀ k, k < w.heap.size → ¬ M k → w'.heap[k]? = w.heap[k]?
/-- .. and M' has no block that was there and not M's. -/
def Turn (M : Nat → Prop) (w : World) (M' : Nat → Prop) (w' : World) : Prop := Out M w w' ∧ ∀ b, M' b → M b ∨ w.heap.size ≤ b
theorem Turn.of_below {M : Nat → Prop} {w w' : World} (h : Below w.heap.size w w') : Turn M w M w' := ⟨⟨h.os, h.tape, h.output, h.size, fun k hk _ => h.block k hk⟩, fun b hb => .inl hb⟩
theorem Turn.refl (M : Nat → Prop) (w : World) : Turn M w M w := Turn.of_below (Below.refl _ _)
theorem Turn.trans {M M1 M2 : Nat → Prop} {w w1 w2 : World} (h : Turn M w M1 w1) (h2 : Turn M1 w1 M2 w2) : Turn M w M2 w2 :=
  ⟨⟨h2.1.os.trans h.1.os, h2.1.tape.trans h.1.tape, h2.1.output.trans h.1.output, Nat.le_trans h.1.size h2.1.size, fun k hk hM => (h2.1.block k (Nat.lt_of_lt_of_le hk h.1.size) (fun hk1 => by
      rcases h.2 k hk1 with h | h
      · exact hM h
      · omega)).trans (h.1.block k hk hM)⟩, fun b hb => by
    rcases h2.2 b hb with h3 | h3
    · exact h.2 b h3
    · exact .inr (Nat.le_trans h.1.size h3)⟩
theorem Turn.size {M M' : Nat → Prop} {w w' : World} (h : Turn M w M' w') : w.heap.size ≤ w'.heap.size := h.1.size
theorem Turn.not {M M' : Nat → Prop} {w w' : World} (h : Turn M w M' w') {b : Nat} (hb : ¬ M b) (hl : b < w.heap.size) : ¬ M' b := fun h2 => by
  rcases h.2 b h2 with h3 | h3
  · exact hb h3
  · omega
theorem Turn.blk {M M' : Nat → Prop} {w w' : World} (h : Turn M w M' w') {g : Nat} {t : TypeId} {A : Array Value} (hb : Blk w g t A) (hM : ¬ M g) : Blk w' g t A := (h.1.block g hb.lt hM).trans hb
theorem Turn.vrow {M M' : Nat → Prop} {w w' : World} (h : Turn M w M' w') {base : Nat} {e : TypeId} {vs : List Value} {v : Value} (hr : VRow base e vs v w) (hM : ∀ b, blkOf v = some b → ¬ M b) : VRow base e vs v w' := by
  obtain ⟨h1, h2⟩ := hr
  refine ⟨h1, ?_⟩
  rcases h2 with h3 | ⟨g, cap, cur, rfl, hb, hg, r⟩
  · exact .inl h3
  · exact .inr ⟨g, cap, cur, rfl, hb, (h.1.block g (Array.getElem?_eq_some_iff.1 hg).1 (hM g rfl)).trans hg, r⟩
theorem Turn.vals {M M' : Nat → Prop} {w w' : World} (h : Turn M w M' w') {vs : List Value} {v : Value} (hr : ValsV v w vs) (hM : ∀ b, blkOf v = some b → ¬ M b) : ValsV v w' vs := by
  obtain ⟨p, c, rfl, hlc, hp⟩ := hr
  refine ⟨p, c, rfl, hlc, fun hne => ?_⟩
  obtain ⟨A, rfl, hA, hc⟩ := hp hne
  exact ⟨A, rfl, Nat.lt_of_lt_of_le hA h.size, fun j x hx => (World.cell?_of_block (by rw [add_block]; exact h.1.block _ hA (hM _ rfl))).trans (hc j x hx)⟩

/-- The struct, the map and the slice of a table. -/
def TabAt (tb B mb : Nat) (v : Value) (ts : List TermL) (M : Nat → Prop) (w : World) : Prop :=
  Blk w tb 78 #[.map (some mb), v] ∧ (B ≤ tb ∧ B ≤ mb ∧ tb ≠ mb) ∧ w.ownsMap Tryd.prog 9 (plainElem (H := Unit) Tryd.prog 44) mb ts.length (numD ts) ∧ VRow B 9 (strs (ts.map keyL)) v w ∧ (blkOf v ≠ some tb ∧ blkOf v ≠ some mb) ∧ ∀ b, M b ↔ (b = tb ∨ b = mb ∨ blkOf v = some b)
/-- A table that has these terms; M: its blocks, all from B on. -/
structure Tab (tb B : Nat) (ts : List TermL) (M : Nat → Prop) (w : World) : Prop where
  at' : ∃ mb v, TabAt tb B mb v ts M w
  terms : Terms ts
theorem Tab.range {tb B : Nat} {ts : List TermL} {M : Nat → Prop} {w : World} (h : Tab tb B ts M w) {b : Nat} (hb : M b) : B ≤ b ∧ b < w.heap.size := by
  obtain ⟨mb, v, h1, h2, h3, h4, h5, h6⟩ := h.at'
  rcases (h6 b).1 hb with rfl | rfl | hb
  · exact ⟨h2.1, h1.lt⟩
  · exact ⟨h2.2.1, h3.lt⟩
  · exact h4.range b hb
theorem TabAt.under {tb B mb : Nat} {v : Value} {ts : List TermL} {M : Nat → Prop} {w w' : World} (h : TabAt tb B mb v ts M w) (hb : Below w.heap.size w w') : TabAt tb B mb v ts M w' := by
  obtain ⟨h1, h2, h3, h4, h5, h6⟩ := h
  exact ⟨h1.under hb, h2, h3.kept (row := none) (grown_none hb) (by simp), h4.under hb, h5, h6⟩
theorem Tab.under {tb B : Nat} {ts : List TermL} {M : Nat → Prop} {w w' : World} (h : Tab tb B ts M w) (hb : Below w.heap.size w w') : Tab tb B ts M w' := by
  obtain ⟨mb, v, h1⟩ := h.at'
  exact ⟨⟨mb, v, h1.under hb⟩, h.terms⟩
theorem Tab.below {tb B : Nat} {ts : List TermL} {M M' : Nat → Prop} {w w' : World} (h : Tab tb B ts M w) (ht : Turn M w M' w') : Below B w w' :=
  ⟨ht.1.os, ht.1.tape, ht.1.output, ht.1.size, fun k hk => by
    obtain ⟨mb, v, h1, h2, _⟩ := h.at'
    have hlt := h1.lt
    exact ht.1.block k (by have := h2.1; omega) (fun hM => by have := (h.range hM).1; omega)⟩
theorem Tab.ptr {tb B : Nat} {ts : List TermL} {M : Nat → Prop} {w : World} (h : Tab tb B ts M w) : tb < w.heap.size := by
  obtain ⟨mb, v, h1, _⟩ := h.at'
  exact h1.lt

section
variable {ops : Array Oper} {rest : List Oper} {o : Oper} {a : Act} {w : World} {Q : Exit → Act → World → Prop}
theorem law_str : Keyed Tryd.prog 9 := string_keyed Tryd.underlying9
theorem zero_u64 (w : World) : (zeroValue 44).run Tryd.prog w = .ok (.int .u64 0) w := by kernel_rfl
theorem key_lit {l : List Nat} (hl : l.length ≤ maxLen) : keyOf Tryd.prog 9 (.string (strOf l)) = some (litL l) := by
  have h := WideMaps.keyOf_string_mk (P := Tryd.prog) (k := 9) Tryd.underlying9 (s := strOf l) (by rw [strOf_size]; exact hl)
  rw [sa_data] at h
  exact h
/-- 'n, had := m[s]'. -/
theorem wl_lookT (hg : o.guard = none) (m x : Operand) (ho : o.op = Op.lookup 76 m x true) (mb n : Nat) (D : DataW Unit) (hm : a.eval m = .map (some mb)) (hown : w.ownsMap Tryd.prog 9 (plainElem (H := Unit) Tryd.prog 44) mb n D)
    (J : List Nat) (hx : a.eval x = .string (strOf J)) (hJ : J.length ≤ maxLen) (c : Nat) (b : Bool) (hb : Maps.has D (litL J) = b) (hc : D.atKey (litL J) (.lit (.int .u64 0)) = .lit (.int .u64 (c : Int)))
    (h : wpList Tryd.prog ops Q rest (a.put o.dst (.tuple #[.int .u64 (c : Int), .bool b])) w) : wpList Tryd.prog ops Q (o :: rest) a w :=
  wpList_lookup_own_ok_int w hg m x 76 ho 9 44 .u64 law_str Tryd.underlying76 Tryd.underlying44 (zero_u64 w) mb n D hm hown _ _ hx (key_lit hJ) fun c' hat _ => by
    rw [hc] at hat
    simp only [DataW.lit.injEq, Lit.int.injEq, true_and] at hat
    subst hat
    rw [hb]
    exact h
/-- 'm[s] = n'. -/
theorem wl_updT (hg : o.guard = none) (m x y : Operand) (ho : o.op = Op.mapUpdate 76 m x y) (mb n : Nat) (D : DataW Unit) (hm : a.eval m = .map (some mb)) (hown : w.ownsMap Tryd.prog 9 (plainElem (H := Unit) Tryd.prog 44) mb n D) (hn : n < 1000001)
    (J : List Nat) (hx : a.eval x = .string (strOf J)) (hJ : J.length ≤ maxLen) (c : Nat) (hy : a.eval y = .int .u64 (c : Int)) (hc : c < 1000001)
    (h : ∀ w', w'.ownsMap Tryd.prog 9 (plainElem (H := Unit) Tryd.prog 44) mb (n + 1) (D.put (litL J) (.lit (.int .u64 (c : Int)))) → w.grownBy w' (some mb) → w.heap.size = w'.heap.size → wpList Tryd.prog ops Q rest (a.put o.dst undef) w') : wpList Tryd.prog ops Q (o :: rest) a w :=
  wpList_mapUpdate_in w hg m x y 76 ho 9 44 law_str Tryd.underlying76 (plainElem Tryd.prog 44) mb n D hm hown (by unfold maxLen; omega) _ _ _ hx hy (key_lit hJ) _ [] (plainElem_int Tryd.underlying44 (by simp [Lit.wf, IntKind.min, IntKind.max, IntKind.signed, IntKind.bits]; omega)) fun w' h1 h2 => h w' h1 h2.grown (by
    obtain ⟨es, ck, es', ck', _, rfl⟩ := h2
    simp [ChangeMaps.setBlock])
end
theorem run_c3U {o : Oper} {a : Act} {x : Operand} {n : Nat} (ho : o.op = .convert 3 44 x) (hx : a.eval x = .int .i64 (n : Int)) (hn : n < 4611686018427387904) (w : World) : (execOp a.eval o).run Tryd.prog w = .ok (.value (.int .u64 (n : Int))) w := by
  unfold execOp
  simp only [ho, hx]
  simp [go_sem, IntKind.wrap_u64]
  omega
theorem run_mneq {o : Oper} {a : Act} {x : Operand} {u : TypeId} {p : Option Nat} {b : Bool} (ho : o.op = .binOp .neq 76 x (.const (.map none)) u) (hx : a.eval x = .map p) (hb : b = p.isSome) (w : World) : (execOp a.eval o).run Tryd.prog w = .ok (.value (.bool b)) w := by
  have e3 : a.eval (.const (.map none)) = .map none := rfl
  unfold execOp
  simp only [ho, hx, e3]
  rw [hb]
  have h := run_neq_map_nil w 76 _ _ p Tryd.underlying76
  simp [go_sem, h]
  try (cases p <;> rfl)
theorem ag_map : ∀ w, (isAgg 76).run Tryd.prog w = .ok false w := Tryd.isAgg76

set_option maxRecDepth 100000 in
set_option maxHeartbeats 1000000 in
theorem madeD {tb mb : Nat} {v : Value} {w : World} (h : Blk w tb 78 #[.map (some mb), v]) :
    Calls Tryd.prog 36 #[.pointer (some ⟨tb, 0, none⟩)] w fun e w' => e = .returned (.bool true) ∧ w' = w := by
  have c0 : Kept (w.cell? ⟨tb, 0, none⟩ = some (.map (some mb))) := ⟨h.cell rfl⟩
  clear h
  go_enter Tryd.func36, Tryd.ntmps36
  go_wp2_with (first | ((with_reducible refine wv_elem (d := 9) ?hd ?hw 76 ag_map (.tmp 8) ?ho (⟨tb, 0, none⟩) ?hx (.map (some mb)) ?hc ?_); (case hd => rfl); (case hw => kernel_rfl); (case ho => rfl); (case hx => kernel_rfl); (case hc => exact c0.out); simp only [Act.put, List.setIfInBounds_toArray, List.set_cons_succ, List.set_cons_zero]) | ((with_reducible refine wv_val (d := 10) ?hd ?hw (.bool true) ?hr ?_); (case hd => rfl); (case hw => kernel_rfl); (case hr => intro w; exact run_mneq (p := some mb) rfl (by kernel_rfl) rfl w); simp only [Act.put, List.setIfInBounds_toArray, List.set_cons_succ, List.set_cons_zero]))
  go_ret
  exact ⟨rfl, rfl⟩
/-- A table that no call made. -/
def Nobody (p : Option Addr) (w : World) : Prop := p = none ∨ ∃ b, p = some ⟨b, 0, none⟩ ∧ Blk w b 78 #[.map none, .slice none 0 0]
theorem Nobody.under {p : Option Addr} {w w' : World} (h : Nobody p w) (hb : Below w.heap.size w w') : Nobody p w' := by
  rcases h with h | ⟨b, h1, h2⟩
  · exact .inl h
  · exact .inr ⟨b, h1, h2.under hb⟩
set_option maxRecDepth 100000 in
set_option maxHeartbeats 1000000 in
theorem madeN {p : Option Addr} {w : World} (h : Nobody p w) :
    Calls Tryd.prog 36 #[.pointer p] w fun e w' => e = .returned (.bool false) ∧ w' = w := by
  rcases h with rfl | ⟨b, rfl, h⟩
  · go_enter Tryd.func36, Tryd.ntmps36
    go_wp2_with fail
    go_ret
    exact ⟨rfl, rfl⟩
  · have c0 : Kept (w.cell? ⟨b, 0, none⟩ = some (.map none)) := ⟨h.cell rfl⟩
    clear h
    go_enter Tryd.func36, Tryd.ntmps36
    go_wp2_with (first | ((with_reducible refine wv_elem (d := 9) ?hd ?hw 76 ag_map (.tmp 8) ?ho (⟨b, 0, none⟩) ?hx (.map none) ?hc ?_); (case hd => rfl); (case hw => kernel_rfl); (case ho => rfl); (case hx => kernel_rfl); (case hc => exact c0.out); simp only [Act.put, List.setIfInBounds_toArray, List.set_cons_succ, List.set_cons_zero]) | ((with_reducible refine wv_val (d := 10) ?hd ?hw (.bool false) ?hr ?_); (case hd => rfl); (case hw => kernel_rfl); (case hr => intro w; exact run_mneq (p := none) rfl (by kernel_rfl) rfl w); simp only [Act.put, List.setIfInBounds_toArray, List.set_cons_succ, List.set_cons_zero]))
    go_ret
    exact ⟨rfl, rfl⟩
set_option maxRecDepth 100000 in
set_option maxHeartbeats 1000000 in
theorem NewD {w : World} :
    Calls Tryd.prog 26 #[] w fun e w' => (∃ tb M, e = .returned (.pointer (some ⟨tb, 0, none⟩)) ∧ Tab tb w.heap.size [] M w') ∧ Below w.heap.size w w' := by
  have hmm := @run_makeMap Tryd.prog
  have fin : ∀ w2, w2 = (w.alloc (.map #[] 0)).alloc (.cells #[.map (some w.heap.size), .slice none 0 0] 78) → (∃ tb M, Ending.returned (.pointer (some ⟨w.heap.size + 1, 0, none⟩)) = .returned (.pointer (some ⟨tb, 0, none⟩)) ∧ Tab tb w.heap.size [] M w2) ∧ Below w.heap.size w w2 := fun w2 h => by
    subst h
    have hs : (w.alloc (.map #[] 0)).heap.size = w.heap.size + 1 := by simp
    refine ⟨⟨w.heap.size + 1, fun b => b = w.heap.size + 1 ∨ b = w.heap.size, rfl, ⟨⟨w.heap.size, .slice none 0 0, ?_, ⟨by omega, by omega, by omega⟩, ?_, vrow_nil _ _ _, ⟨by simp [blkOf], by simp [blkOf]⟩, fun b => by simp [blkOf]⟩, terms_nil⟩⟩, ?_⟩
    · rw [← hs]; exact blk_new _ _ _
    · exact (World.ownsMap_made w _ _ _).alloc _
    · exact ((Below.refl _ _).alloc (Nat.le_refl _) _).alloc (by rw [hs]; omega) _
  have KF : Kept _ := ⟨fin⟩
  clear fin
  go_enter Tryd.func26, Tryd.ntmps26
  go_wp2_with fail
  go_ret
  exact KF.out _ rfl
end Go.Proofs.YtniogaimhkcedaaDoor.sh
/-
  (*Table).name: what a table has behind it, and what it answers.
-/
namespace Go.Proofs.YtniogaimhkcedaaDoor.sh
open Go Go.RowKit Go.Maps
set_option linter.unusedVariables false
set_option linter.unusedSimpArgs false

theorem Turn.grown {M : Nat → Prop} {w w' : World} {r : Option Nat} (h : w.grownBy w' r) (hr : ∀ b, r = some b → M b) : Turn M w M w' :=
  ⟨⟨h.os, h.tape, h.output, h.size, fun k hk hM => h.block k hk (fun e => hM (hr k e.symm))⟩, fun b hb => .inl hb⟩
theorem Turn.swap {M M1 M' : Nat → Prop} {w w' : World} (h : Turn M w M1 w') (hM : ∀ b, M' b → M b ∨ w.heap.size ≤ b) : Turn M w M' w' := ⟨h.1, hM⟩
theorem kind_lt {t : TermL} (h : Formed t) : t.1 < 256 := by
  rcases h.2 with ⟨e, _⟩ | ⟨e, _⟩ | ⟨e, _⟩ | e | e <;> omega
/-- What a call of name, or of what stands on it, leaves. -/
def Puts (tb B : Nat) (ts : List TermL) (M : Nat → Prop) (w : World) (us : List TermL) (w' : World) : Prop := ∃ M', Tab tb B us M' w' ∧ Turn M w M' w'
theorem keys_len (ts : List TermL) : (strs (ts.map keyL)).length = ts.length := by rw [strs_len, List.length_map]
theorem one_new (J : List Nat) (w : World) : ValsV (.slice (some ⟨w.heap.size, 0, none⟩) 1 1) (w.alloc (.cells #[.string (strOf J)] 9)) [.string (strOf J)] := vrow_vals (vrow_lit (base := 0) w #[.string (strOf J)] 1 rfl (Nat.zero_le _) (by decide))
/-- The table with one term more, from its pieces. -/
theorem tab_more {tb B mb n : Nat} {p : Option Addr} {c : Nat} {V' : Value} {ts : List TermL} {t : TermL} {M : Nat → Prop} {w w1 w2 w3 w4 w5 : World} (hT : Terms ts) (ht : Formed t) (hF : Fits t.2) (hm : t ∉ ts) (q1 : Below w.heap.size w w1) (hA : TabAt tb B mb (.slice p n c) ts M w1) (hlt : ∀ b, M b → b < w.heap.size)
    (hr : VRow B 9 (strs (ts.map keyL) ++ [.string (strOf (keyL t))]) V' w2) (hg : (w1.alloc (.cells #[.string (strOf (keyL t))] 9)).grownBy w2 (blkOf (.slice p n c))) (hne : blkOf V' = blkOf (.slice p n c) ∨ blkOf V' = some (w1.alloc (.cells #[.string (strOf (keyL t))] 9)).heap.size)
    (hb : Blk w3 tb 78 #[.map (some mb), V']) (hp : Put w2 w3 tb) (ho : w4.ownsMap Tryd.prog 9 (plainElem (H := Unit) Tryd.prog 44) mb (ts.length + 1) ((numD ts).put (litL (keyL t)) (.lit (.int .u64 ((ts.length + 1 : Nat) : Int))))) (hg4 : w3.grownBy w4 (some mb)) (q5 : Below w4.heap.size w4 w5) : Puts tb B ts M w (putL ts t).1 w5 := by
  obtain ⟨a1, a2, a3, a4, a5, a6⟩ := hA
  have hs1 : (w1.alloc (.cells #[.string (strOf (keyL t))] 9)).heap.size = w1.heap.size + 1 := by simp
  have hM : ∀ b, blkOf (.slice p n c) = some b → M b := fun b h => (a6 b).2 (.inr (.inr h))
  have hmb : mb < w.heap.size := hlt mb ((a6 mb).2 (.inr (.inl rfl)))
  have htb : tb < w.heap.size := hlt tb ((a6 tb).2 (.inl rfl))
  have hsz := q1.size
  have n1 : blkOf V' ≠ some tb := fun h => by
    rcases hne with e | e
    · rw [e] at h; exact a5.1 h
    · rw [e, hs1] at h; simp at h; omega
  have n2 : blkOf V' ≠ some mb := fun h => by
    rcases hne with e | e
    · rw [e] at h; exact a5.2 h
    · rw [e, hs1] at h; simp at h; omega
  have hT3 : Turn M w M w4 := (((Turn.of_below q1).trans (Turn.of_below ((Below.refl _ _).alloc (Nat.le_refl _) _))).trans (Turn.grown hg hM)).trans ((Turn.grown hp.grown (fun b h => by cases h; exact (a6 _).2 (.inl rfl))).trans (Turn.grown hg4 (fun b h => by cases h; exact (a6 _).2 (.inr (.inl rfl)))))
  refine ⟨fun b => b = tb ∨ b = mb ∨ blkOf V' = some b, ⟨⟨mb, V', ?_, a2, ?_, ?_, ⟨n1, n2⟩, fun b => Iff.rfl⟩, putL_terms hT ht⟩, ?_⟩
  · exact Blk.under (blk_grown hg4 hb (by simpa using fun e => a2.2.2 e)) q5
  · rw [putL_new hF hm, numD_snoc, List.length_append]
    exact ho.kept (row := none) (grown_none q5) (by simp)
  · rw [putL_new hF hm, List.map_append, strs_append]
    exact ((hr.keeps hp.grown (.inr n1)).keeps hg4 (.inr n2)).under q5
  · refine (hT3.swap fun b h => ?_).trans (Turn.of_below q5)
    rcases h with h | h | h
    · exact .inl ((a6 b).2 (.inl h))
    · exact .inl ((a6 b).2 (.inr (.inl h)))
    · rcases hne with e | e
      · exact .inl ((a6 b).2 (.inr (.inr (e ▸ h))))
      · rw [e, hs1] at h; simp at h; exact .inr (by omega)

set_option maxRecDepth 100000 in
set_option maxHeartbeats 4000000 in
theorem nameD {tb B k : Nat} {ts : List TermL} {M : Nat → Prop} {ll : List (List Nat)} {V : Value} {w : World} (hT : Tab tb B ts M w) (hk : Formed (k, ll)) (hV : ValsV V w (strs ll)) (hl : ∀ l ∈ ll, l.length ≤ maxLen) (hn : ts.length < 1000000) :
    Calls Tryd.prog 42 #[.pointer (some ⟨tb, 0, none⟩), .int .u8 (k : Int), V] w fun e w' => e = .returned (.string (strOf (putL ts (k, ll)).2)) ∧ Puts tb B ts M w (putL ts (k, ll)).1 w' := by
  have hk8 : k < 256 := kind_lt hk
  obtain ⟨mb, v, hA⟩ := hT.at'
  have CM := madeD hA.1
  have CJ := JoinD hk8 hV (fun l h => ⟨hk.1 l h, hl l h⟩)
  obtain ⟨N, hN⟩ : ∃ N, N = (putL ts (k, ll)).2 := ⟨_, rfl⟩
  rw [← hN]
  obtain ⟨us, hus⟩ : ∃ us, us = (putL ts (k, ll)).1 := ⟨_, rfl⟩
  rw [← hus]
  have hV' := hV
  obtain ⟨pV, cV, rfl, _⟩ := vals_form hV' (strs_len ll)
  obtain ⟨nV, hnV⟩ : ∃ n, n = ll.length := ⟨_, rfl⟩
  rw [← hnV] at CJ ⊢
  clear hnV
  by_cases hF : Fits ll
  case neg =>
    rw [joinS_not hF, joinE_not hF] at CJ
    have hP := putL_not (ts := ts) (t := (k, ll)) hF
    rw [hP] at hN hus
    subst hN hus
    have KT : Kept _ := ⟨hT⟩
    have KCM : Kept _ := ⟨CM⟩
    have KCJ : Kept _ := ⟨CJ⟩
    clear hT CM CJ hA hP hV hV' hk hl hF
    go_enter Tryd.func42, Tryd.ntmps42
    go_wp2_with fail
    refine KCM.out.mono ?_
    rintro e w1 ⟨rfl, hw⟩
    obtain rfl := hw.symm
    go_wp2_with fail
    refine KCJ.out.mono ?_
    rintro e w1 ⟨rfl, q1⟩
    go_wp2_with fail
    go_ret
    exact ⟨rfl, M, KT.out.under q1, Turn.of_below q1⟩
  case pos =>
    rw [joinS_fits hF, joinE_fits hF] at CJ
    have hJL := join_lenB (k := k) hF
    have hG : GoodT (k, ll) := good_of hk hF
    have hhas := numD_has hT.terms hG
    have hgot := fun h => numD_at hT.terms (u := (k, ll)) h (.lit (.int .u64 0))
    have hlt : ∀ b, M b → b < w.heap.size := fun b h => (hT.range h).2
    have e1 : keyL (k, ll) = joinL k ll := rfl
    rw [e1] at hhas hgot
    obtain ⟨J, hJ⟩ : ∃ J, J = joinL k ll := ⟨_, rfl⟩
    rw [← hJ] at CJ hJL hhas hgot
    have KJ : Kept _ := ⟨hJ⟩
    have KJL : Kept _ := ⟨hJL⟩
    have KCM : Kept _ := ⟨CM⟩
    have KCJ : Kept _ := ⟨CJ⟩
    have KT : Kept _ := ⟨hT⟩
    have KLT : Kept _ := ⟨hlt⟩
    have KF : Kept _ := ⟨hF⟩
    have KK : Kept _ := ⟨hk⟩
    by_cases hm : (k, ll) ∈ ts
    case pos =>
      rw [decide_eq_true hm] at hhas
      have hgot' := hgot hm
      obtain ⟨c, hc⟩ : ∃ c, c = ts.idxOf (k, ll) + 1 := ⟨_, rfl⟩
      have hcl : c < 18446744073709551616 := by have := List.idxOf_lt_length_of_mem hm; omega
      have CN := fun w1 : World => nameOfD (w := w1) hcl
      have hP := putL_old (ts := ts) (t := (k, ll)) hF hm
      rw [hP] at hN hus
      rw [← hc] at hN hgot'
      have hN' : N = termN c := hN
      subst hus
      rw [← hN'] at CN
      have KH : Kept _ := ⟨hhas⟩
      have KG : Kept _ := ⟨hgot'⟩
      have KCN : Kept _ := ⟨CN⟩
      have KA : Kept _ := ⟨hA⟩
      clear hT CM CJ hA hP hV hV' hk hl hF hm hgot hgot' hhas CN hN hN' hc hJ hJL hlt hG e1 hcl
      go_enter Tryd.func42, Tryd.ntmps42
      go_wp2_with fail
      refine KCM.out.mono ?_
      rintro e w1 ⟨rfl, hw⟩
      obtain rfl := hw.symm
      go_wp2_with fail
      refine KCJ.out.mono ?_
      rintro e w1 ⟨rfl, q1⟩
      have A1 := KA.out.under q1
      have c0 : Kept (w1.cell? ⟨tb, 0, none⟩ = some (.map (some mb))) := ⟨A1.1.cell rfl⟩
      have KO : Kept _ := ⟨A1.2.2.1⟩
      clear A1
      go_wp2_with (first | ((with_reducible refine wv_elem (d := 26) ?hd ?hw 76 ag_map (.tmp 25) ?ho (⟨tb, 0, none⟩) ?hx (.map (some mb)) ?hc ?_); (case hd => rfl); (case hw => kernel_rfl); (case ho => rfl); (case hx => kernel_rfl); (case hc => exact c0.out); simp only [Act.put, List.setIfInBounds_toArray, List.set_cons_succ, List.set_cons_zero]) | (at_lookup; refine wl_lookT rfl (.tmp 26) (.tmp 27) rfl mb _ _ (by kernel_rfl) KO.out J (by kernel_rfl) KJL.out c true KH.out KG.out ?_; simp only [Act.put, List.setIfInBounds_toArray, List.set_cons_succ, List.set_cons_zero]))
      refine (KCN.out w1).mono ?_
      rintro e w2 ⟨rfl, q2⟩
      replace q2 := q1.trans (q2.mono q1.size)
      go_wp2_with fail
      go_ret
      exact ⟨rfl, M, KT.out.under q2, Turn.of_below q2⟩
    case neg =>
      rw [decide_eq_false hm] at hhas
      have hgot' := atKey_of_not_has hhas (.lit (.int .u64 0))
      obtain ⟨m, hmm⟩ : ∃ m, m = ts.length := ⟨_, rfl⟩
      obtain ⟨c, hc⟩ : ∃ c, c = m + 1 := ⟨_, rfl⟩
      have hcl : c < 18446744073709551616 := by omega
      have CN := fun w1 : World => nameOfD (w := w1) hcl
      have hP := putL_new (ts := ts) (t := (k, ll)) hF hm
      rw [hP] at hN
      have hN' : N = termN c := by rw [hN, hc, hmm]
      rw [← hN'] at CN
      have hA' := hA
      obtain ⟨_, _, _, hr0, _⟩ := hA'
      obtain ⟨p, cc, rfl, hcc⟩ := vals_form (vrow_vals hr0) (keys_len ts)
      rw [← hmm] at hA hcc
      have KH : Kept _ := ⟨hhas⟩
      have KG : Kept (_ = DataW.lit (.int .u64 ((0 : Nat) : Int))) := ⟨hgot'⟩
      have KCN : Kept _ := ⟨CN⟩
      have KA : Kept _ := ⟨hA⟩
      have KM : Kept _ := ⟨hm⟩
      have Kmm : Kept _ := ⟨hmm⟩
      have Kc : Kept _ := ⟨hc⟩
      have Kus : Kept _ := ⟨hus⟩
      have hc6 : c < 1000001 := by omega
      have hcI : c < 4611686018427387904 := by omega
      have hm6 : m < 1000001 := by omega
      have Kap : Kept ((strs (ts.map keyL)).length + ([Value.string (strOf J)] : List Value).length ≤ 1099511627776) := ⟨by rw [keys_len, ← hmm]; simp; omega⟩
      have Kap2 : Kept ((strs (ts.map keyL) ++ [Value.string (strOf J)]).length = c) := ⟨by rw [List.length_append, keys_len, ← hmm, hc]; rfl⟩
      have K1c : Kept (∀ x ∈ ([Value.string (strOf J)] : List Value), x.oneCell' = true) := ⟨fun x hx => by simp at hx; subst hx; rfl⟩
      have hB : Kept (B ≤ w.heap.size) := ⟨by have := hA.2.1.1; have := hlt tb ((hA.2.2.2.2.2 tb).2 (.inl rfl)); omega⟩
      clear hT CM CJ hA hP hV hV' hk hl hF hm hgot hgot' hhas CN hN hN' hJ hJL hlt hG e1 hr0 hus hmm hc
      go_enter Tryd.func42, Tryd.ntmps42
      go_wp2_with fail
      refine KCM.out.mono ?_
      rintro e w1 ⟨rfl, hw⟩
      obtain rfl := hw.symm
      go_wp2_with fail
      refine KCJ.out.mono ?_
      rintro e w1 ⟨rfl, q1⟩
      have A1 := KA.out.under q1
      have c0 : Kept (w1.cell? ⟨tb, 0, none⟩ = some (.map (some mb))) := ⟨A1.1.cell rfl⟩
      have c1 : Kept (w1.cell? ⟨tb, 1, none⟩ = some (.slice p m cc)) := ⟨A1.1.cell rfl⟩
      have KO : Kept _ := ⟨A1.2.2.1⟩
      have KR : Kept _ := ⟨A1.2.2.2.1⟩
      have KA1 : Kept _ := ⟨A1⟩
      have hB1 : Kept (B ≤ (w1.alloc (.cells #[.string (strOf J)] 9)).heap.size) := ⟨by have := hB.out; have := q1.size; simp; omega⟩
      clear A1
      go_wp2_with (first | ((with_reducible refine wv_elem (d := 26) ?hd ?hw 76 ag_map (.tmp 25) ?ho (⟨tb, 0, none⟩) ?hx (.map (some mb)) ?hc ?_); (case hd => rfl); (case hw => kernel_rfl); (case ho => rfl); (case hx => kernel_rfl); (case hc => exact c0.out); simp only [Act.put, List.setIfInBounds_toArray, List.set_cons_succ, List.set_cons_zero]) | (at_lookup; refine wl_lookT rfl (.tmp 26) (.tmp 27) rfl mb _ _ (by kernel_rfl) KO.out J (by kernel_rfl) KJL.out 0 false KH.out KG.out ?_; simp only [Act.put, List.setIfInBounds_toArray, List.set_cons_succ, List.set_cons_zero]) | ((with_reducible refine wv_elem (d := 37) ?hd ?hw 29 ag_strs (.tmp 36) ?ho (⟨tb, 1, none⟩) ?hx (.slice p m cc) ?hc ?_); (case hd => rfl); (case hw => kernel_rfl); (case ho => rfl); (case hx => kernel_rfl); (case hc => exact c1.out); simp only [Act.put, List.setIfInBounds_toArray, List.set_cons_succ, List.set_cons_zero]) | (refine wl_build1S rfl (.tmp 38) rfl J (by kernel_rfl) ?_; simp only [Act.put, List.setIfInBounds_toArray, List.set_cons_succ, List.set_cons_zero]) | ((refine wl_appV (by kernel_rfl) (.tmp 37) (.tmp 39) 29 9 (.string .empty) 16 rfl Tryd.underlying29 inf_str rfl (by decide) B _ [.string (strOf J)] _ _ (by kernel_rfl) (by kernel_rfl) (KR.out.alloc _) (one_new J w1) K1c.out Kap.out hB1.out ?_); intro v' w2 hr' hg' hne'; obtain ⟨p2, c2, rfl, hc2⟩ := vals_form (vrow_vals hr') Kap2.out; have hbT := KA1.out.1.alloc (.cells #[.string (strOf J)] 9); have hbT2 := blk_grown hg' hbT (fun e => KA1.out.2.2.2.2.1.1 e.symm); simp only [Act.put, List.setIfInBounds_toArray, List.set_cons_succ, List.set_cons_zero]) | ((refine wl_set1 rfl 29 sz_strs (.tmp 42) (.tmp 40) rfl tb 1 (.slice p2 c c2) (by kernel_rfl) (by kernel_rfl) rfl _ hbT2 (by simp) ?_); intro w3 hb3 hp3; have ho3 := ((KO.out.alloc (.cells #[.string (strOf J)] 9)).kept hg' (fun e => KA1.out.2.2.2.2.1.2 e.symm)).kept hp3.grown (fun e => KA1.out.2.1.2.2 (by simpa using e.symm)); simp only [Act.put, List.setIfInBounds_toArray, List.set_cons_succ, List.set_cons_zero]) | ((with_reducible refine wv_elem (d := 46) ?hd ?hw 29 ag_strs (.tmp 45) ?ho (⟨tb, 1, none⟩) ?hx (.slice p2 c c2) ?hc ?_); (case hd => rfl); (case hw => kernel_rfl); (case ho => rfl); (case hx => kernel_rfl); (case hc => exact (hb3.cell rfl)); simp only [Act.put, List.setIfInBounds_toArray, List.set_cons_succ, List.set_cons_zero]) | ((with_reducible refine wv_val (d := 48) ?hd ?hw (.int .u64 (c : Int)) ?hr ?_); (case hd => rfl); (case hw => kernel_rfl); (case hr => intro w; exact run_c3U rfl (by kernel_rfl) hcI w); simp only [Act.put, List.setIfInBounds_toArray, List.set_cons_succ, List.set_cons_zero]) | ((with_reducible refine wv_elem (d := 52) ?hd ?hw 76 ag_map (.tmp 51) ?ho (⟨tb, 0, none⟩) ?hx (.map (some mb)) ?hc ?_); (case hd => rfl); (case hw => kernel_rfl); (case ho => rfl); (case hx => kernel_rfl); (case hc => exact (hb3.cell rfl)); simp only [Act.put, List.setIfInBounds_toArray, List.set_cons_succ, List.set_cons_zero]) | (at_mapUpdate; (refine wl_updT rfl (.tmp 52) (.tmp 53) (.tmp 54) rfl mb _ _ (by kernel_rfl) ho3 (by rw [← Kmm.out]; exact hm6) J (by kernel_rfl) KJL.out c (by kernel_rfl) hc6 ?_); intro w4 ho4 hg4 hs4; simp only [Act.put, List.setIfInBounds_toArray, List.set_cons_succ, List.set_cons_zero]))
      refine (KCN.out w4).mono ?_
      rintro e w5 ⟨rfl, q5⟩
      go_wp2_with fail
      go_ret
      refine ⟨rfl, ?_⟩
      rw [Kus.out]
      refine tab_more KT.out.terms KK.out KF.out KM.out q1 KA1.out KLT.out (V' := .slice p2 c c2) (w2 := w2) (w3 := w3) (w4 := w4) ?_ ?_ ?_ hb3 hp3 ?_ hg4 q5
      · rw [show keyL (k, ll) = J from KJ.out.symm]; exact hr'
      · rw [show keyL (k, ll) = J from KJ.out.symm]; exact hg'
      · rw [show keyL (k, ll) = J from KJ.out.symm]; exact hne'
      · rw [show keyL (k, ll) = J from KJ.out.symm]
        rw [show c = ts.length + 1 by rw [Kc.out, Kmm.out]] at ho4
        exact ho4
end Go.Proofs.YtniogaimhkcedaaDoor.sh
/-
  What a table answers: Atom, Pub, Hash, Seal, Parts; of a table that no call made, nothing.
-/
namespace Go.Proofs.YtniogaimhkcedaaDoor.sh
open Go Go.RowKit Go.Maps
set_option linter.unusedVariables false
set_option linter.unusedSimpArgs false

section
variable {ops : Array Oper} {rest : List Oper} {o : Oper} {a : Act} {w : World} {Q : Exit → Act → World → Prop}
theorem run_bs1 (s0 : List Nat) (w : World) : (Instr.buildSlice 29 1 #[(0, .string (strOf s0))]).run Tryd.prog w = .ok (.slice (some ⟨w.heap.size, 0, none⟩) 1 1) (w.alloc (.cells #[.string (strOf s0)] 9)) := by kernel_rfl
/-- A slice of 1 texts is built. -/
theorem wl_bs1 (hw : Region.wanted o (yielded ops a.tmps) = true) (x0 : Operand) (ho : o.op = .buildSlice 29 1 #[(0, x0)]) (s0 : List Nat) (h0 : a.eval x0 = .string (strOf s0))
    (h : wpList Tryd.prog ops Q rest (a.put o.dst (.slice (some ⟨w.heap.size, 0, none⟩) 1 1)) (w.alloc (.cells #[.string (strOf s0)] 9))) : wpList Tryd.prog ops Q (o :: rest) a w :=
  BigFrame.wpList_want hw fun K hK => by
    have hrun : (execOp a.eval o).run Tryd.prog w = .ok (.value (.slice (some ⟨w.heap.size, 0, none⟩) 1 1)) (w.alloc (.cells #[.string (strOf s0)] 9)) := by
      unfold execOp
      simp only [ho]
      simp [h0, run_bs1]
    unfold Oper.wp
    rw [hrun]
    exact hK _ _ h
theorem new1 (s0 : List Nat) (w : World) : ValsV (.slice (some ⟨w.heap.size, 0, none⟩) 1 1) (w.alloc (.cells #[.string (strOf s0)] 9)) (strs [s0]) := vrow_vals (vrow_lit (base := 0) w #[.string (strOf s0)] 1 rfl (Nat.zero_le _) (by decide))

theorem run_bs2 (s0 s1 : List Nat) (w : World) : (Instr.buildSlice 29 2 #[(0, .string (strOf s0)), (1, .string (strOf s1))]).run Tryd.prog w = .ok (.slice (some ⟨w.heap.size, 0, none⟩) 2 2) (w.alloc (.cells #[.string (strOf s0), .string (strOf s1)] 9)) := by kernel_rfl
/-- A slice of 2 texts is built. -/
theorem wl_bs2 (hw : Region.wanted o (yielded ops a.tmps) = true) (x0 x1 : Operand) (ho : o.op = .buildSlice 29 2 #[(0, x0), (1, x1)]) (s0 s1 : List Nat) (h0 : a.eval x0 = .string (strOf s0)) (h1 : a.eval x1 = .string (strOf s1))
    (h : wpList Tryd.prog ops Q rest (a.put o.dst (.slice (some ⟨w.heap.size, 0, none⟩) 2 2)) (w.alloc (.cells #[.string (strOf s0), .string (strOf s1)] 9))) : wpList Tryd.prog ops Q (o :: rest) a w :=
  BigFrame.wpList_want hw fun K hK => by
    have hrun : (execOp a.eval o).run Tryd.prog w = .ok (.value (.slice (some ⟨w.heap.size, 0, none⟩) 2 2)) (w.alloc (.cells #[.string (strOf s0), .string (strOf s1)] 9)) := by
      unfold execOp
      simp only [ho]
      simp [h0, h1, run_bs2]
    unfold Oper.wp
    rw [hrun]
    exact hK _ _ h
theorem new2 (s0 s1 : List Nat) (w : World) : ValsV (.slice (some ⟨w.heap.size, 0, none⟩) 2 2) (w.alloc (.cells #[.string (strOf s0), .string (strOf s1)] 9)) (strs [s0, s1]) := vrow_vals (vrow_lit (base := 0) w #[.string (strOf s0), .string (strOf s1)] 2 rfl (Nat.zero_le _) (by decide))

theorem run_bs3 (s0 s1 s2 : List Nat) (w : World) : (Instr.buildSlice 29 3 #[(0, .string (strOf s0)), (1, .string (strOf s1)), (2, .string (strOf s2))]).run Tryd.prog w = .ok (.slice (some ⟨w.heap.size, 0, none⟩) 3 3) (w.alloc (.cells #[.string (strOf s0), .string (strOf s1), .string (strOf s2)] 9)) := by kernel_rfl
/-- A slice of 3 texts is built. -/
theorem wl_bs3 (hw : Region.wanted o (yielded ops a.tmps) = true) (x0 x1 x2 : Operand) (ho : o.op = .buildSlice 29 3 #[(0, x0), (1, x1), (2, x2)]) (s0 s1 s2 : List Nat) (h0 : a.eval x0 = .string (strOf s0)) (h1 : a.eval x1 = .string (strOf s1)) (h2 : a.eval x2 = .string (strOf s2))
    (h : wpList Tryd.prog ops Q rest (a.put o.dst (.slice (some ⟨w.heap.size, 0, none⟩) 3 3)) (w.alloc (.cells #[.string (strOf s0), .string (strOf s1), .string (strOf s2)] 9))) : wpList Tryd.prog ops Q (o :: rest) a w :=
  BigFrame.wpList_want hw fun K hK => by
    have hrun : (execOp a.eval o).run Tryd.prog w = .ok (.value (.slice (some ⟨w.heap.size, 0, none⟩) 3 3)) (w.alloc (.cells #[.string (strOf s0), .string (strOf s1), .string (strOf s2)] 9)) := by
      unfold execOp
      simp only [ho]
      simp [h0, h1, h2, run_bs3]
    unfold Oper.wp
    rw [hrun]
    exact hK _ _ h
theorem new3 (s0 s1 s2 : List Nat) (w : World) : ValsV (.slice (some ⟨w.heap.size, 0, none⟩) 3 3) (w.alloc (.cells #[.string (strOf s0), .string (strOf s1), .string (strOf s2)] 9)) (strs [s0, s1, s2]) := vrow_vals (vrow_lit (base := 0) w #[.string (strOf s0), .string (strOf s1), .string (strOf s2)] 3 rfl (Nat.zero_le _) (by decide))

theorem run_bs4 (s0 s1 s2 s3 : List Nat) (w : World) : (Instr.buildSlice 29 4 #[(0, .string (strOf s0)), (1, .string (strOf s1)), (2, .string (strOf s2)), (3, .string (strOf s3))]).run Tryd.prog w = .ok (.slice (some ⟨w.heap.size, 0, none⟩) 4 4) (w.alloc (.cells #[.string (strOf s0), .string (strOf s1), .string (strOf s2), .string (strOf s3)] 9)) := by kernel_rfl
/-- A slice of 4 texts is built. -/
theorem wl_bs4 (hw : Region.wanted o (yielded ops a.tmps) = true) (x0 x1 x2 x3 : Operand) (ho : o.op = .buildSlice 29 4 #[(0, x0), (1, x1), (2, x2), (3, x3)]) (s0 s1 s2 s3 : List Nat) (h0 : a.eval x0 = .string (strOf s0)) (h1 : a.eval x1 = .string (strOf s1)) (h2 : a.eval x2 = .string (strOf s2)) (h3 : a.eval x3 = .string (strOf s3))
    (h : wpList Tryd.prog ops Q rest (a.put o.dst (.slice (some ⟨w.heap.size, 0, none⟩) 4 4)) (w.alloc (.cells #[.string (strOf s0), .string (strOf s1), .string (strOf s2), .string (strOf s3)] 9))) : wpList Tryd.prog ops Q (o :: rest) a w :=
  BigFrame.wpList_want hw fun K hK => by
    have hrun : (execOp a.eval o).run Tryd.prog w = .ok (.value (.slice (some ⟨w.heap.size, 0, none⟩) 4 4)) (w.alloc (.cells #[.string (strOf s0), .string (strOf s1), .string (strOf s2), .string (strOf s3)] 9)) := by
      unfold execOp
      simp only [ho]
      simp [h0, h1, h2, h3, run_bs4]
    unfold Oper.wp
    rw [hrun]
    exact hK _ _ h
theorem new4 (s0 s1 s2 s3 : List Nat) (w : World) : ValsV (.slice (some ⟨w.heap.size, 0, none⟩) 4 4) (w.alloc (.cells #[.string (strOf s0), .string (strOf s1), .string (strOf s2), .string (strOf s3)] 9)) (strs [s0, s1, s2, s3]) := vrow_vals (vrow_lit (base := 0) w #[.string (strOf s0), .string (strOf s1), .string (strOf s2), .string (strOf s3)] 4 rfl (Nat.zero_le _) (by decide))

end
theorem Puts.from {tb B : Nat} {ts us : List TermL} {M : Nat → Prop} {w w1 w2 : World} (h : Puts tb B ts M w1 us w2) (q : Below w.heap.size w w1) : Puts tb B ts M w us w2 := by
  obtain ⟨M', h1, h2⟩ := h
  exact ⟨M', h1, (Turn.of_below q).trans h2⟩
set_option maxRecDepth 100000 in
set_option maxHeartbeats 1000000 in
theorem nameN {p : Option Addr} {k : Nat} {V : Value} {w : World} (hp : Nobody p w) :
    Calls Tryd.prog 42 #[.pointer p, .int .u8 (k : Int), V] w fun e w' => e = .returned (.string .empty) ∧ w' = w := by
  have KC : Kept _ := ⟨madeN hp⟩
  clear hp
  go_enter Tryd.func42, Tryd.ntmps42
  go_wp2_with fail
  refine KC.out.mono ?_
  rintro e w2 ⟨rfl, rfl⟩
  go_wp2_with fail
  go_ret
  exact ⟨rfl, rfl⟩
set_option maxRecDepth 100000 in
set_option maxHeartbeats 1000000 in
theorem AtomD {tb B : Nat} {ts : List TermL} {M : Nat → Prop} {s : List Nat} {w : World} (hT : Tab tb B ts M w) (hs : Bytes s) (hl : s.length ≤ maxLen) (hn : ts.length < 1000000) :
    Calls Tryd.prog 21 #[.pointer (some ⟨tb, 0, none⟩), .string (strOf s)] w fun e w' => e = .returned (.string (strOf (putL ts (1, [s])).2)) ∧ Puts tb B ts M w (putL ts (1, [s])).1 w' := by
  have q1 := (Below.refl w.heap.size w).alloc (Nat.le_refl _) (.cells #[.string (strOf s)] 9)
  have CN := nameD (k := 1) (hT.under q1) ⟨fun p hp => by simp at hp; subst hp; exact hs, by simp⟩ (new1 s w) (fun l h => by simp at h; subst h; exact hl) hn
  have KC : Kept _ := ⟨CN⟩
  have KQ : Kept _ := ⟨q1⟩
  clear hT hs hl hn q1 CN
  go_enter Tryd.func21, Tryd.ntmps21
  go_wp2_with (first | (refine wl_bs1 (by kernel_rfl) (.tmp 6) rfl (s) (by kernel_rfl) ?_; simp only [Act.put, List.setIfInBounds_toArray, List.set_cons_succ, List.set_cons_zero]))
  refine KC.out.mono ?_
  rintro e w2 ⟨rfl, hP⟩
  go_wp2_with fail
  go_ret
  exact ⟨rfl, hP.from KQ.out⟩
set_option maxRecDepth 100000 in
set_option maxHeartbeats 1000000 in
theorem AtomN {p : Option Addr} {s : List Nat} {w : World} (hp : Nobody p w) :
    Calls Tryd.prog 21 #[.pointer p, .string (strOf s)] w fun e w' => e = .returned (.string .empty) ∧ Below w.heap.size w w' := by
  have q1 := (Below.refl w.heap.size w).alloc (Nat.le_refl _) (.cells #[.string (strOf s)] 9)
  have CN := nameN (k := 1) (V := .slice (some ⟨w.heap.size, 0, none⟩) 1 1) (hp.under q1)
  have KC : Kept _ := ⟨CN⟩
  have KQ : Kept _ := ⟨q1⟩
  clear q1 CN
  go_enter Tryd.func21, Tryd.ntmps21
  go_wp2_with (first | (refine wl_bs1 (by kernel_rfl) (.tmp 6) rfl (s) (by kernel_rfl) ?_; simp only [Act.put, List.setIfInBounds_toArray, List.set_cons_succ, List.set_cons_zero]))
  refine KC.out.mono ?_
  rintro e w2 ⟨rfl, rfl⟩
  go_wp2_with fail
  go_ret
  exact ⟨rfl, KQ.out⟩

set_option maxRecDepth 100000 in
set_option maxHeartbeats 1000000 in
theorem PubD {tb B : Nat} {ts : List TermL} {M : Nat → Prop} {s : List Nat} {w : World} (hT : Tab tb B ts M w) (hs : Bytes s) (hl : s.length ≤ maxLen) (hn : ts.length < 1000000) :
    Calls Tryd.prog 24 #[.pointer (some ⟨tb, 0, none⟩), .string (strOf s)] w fun e w' => e = .returned (.string (strOf (putL ts (2, [s])).2)) ∧ Puts tb B ts M w (putL ts (2, [s])).1 w' := by
  have q1 := (Below.refl w.heap.size w).alloc (Nat.le_refl _) (.cells #[.string (strOf s)] 9)
  have CN := nameD (k := 2) (hT.under q1) ⟨fun p hp => by simp at hp; subst hp; exact hs, by simp⟩ (new1 s w) (fun l h => by simp at h; subst h; exact hl) hn
  have KC : Kept _ := ⟨CN⟩
  have KQ : Kept _ := ⟨q1⟩
  clear hT hs hl hn q1 CN
  go_enter Tryd.func24, Tryd.ntmps24
  go_wp2_with (first | (refine wl_bs1 (by kernel_rfl) (.tmp 6) rfl (s) (by kernel_rfl) ?_; simp only [Act.put, List.setIfInBounds_toArray, List.set_cons_succ, List.set_cons_zero]))
  refine KC.out.mono ?_
  rintro e w2 ⟨rfl, hP⟩
  go_wp2_with fail
  go_ret
  exact ⟨rfl, hP.from KQ.out⟩
set_option maxRecDepth 100000 in
set_option maxHeartbeats 1000000 in
theorem PubN {p : Option Addr} {s : List Nat} {w : World} (hp : Nobody p w) :
    Calls Tryd.prog 24 #[.pointer p, .string (strOf s)] w fun e w' => e = .returned (.string .empty) ∧ Below w.heap.size w w' := by
  have q1 := (Below.refl w.heap.size w).alloc (Nat.le_refl _) (.cells #[.string (strOf s)] 9)
  have CN := nameN (k := 2) (V := .slice (some ⟨w.heap.size, 0, none⟩) 1 1) (hp.under q1)
  have KC : Kept _ := ⟨CN⟩
  have KQ : Kept _ := ⟨q1⟩
  clear q1 CN
  go_enter Tryd.func24, Tryd.ntmps24
  go_wp2_with (first | (refine wl_bs1 (by kernel_rfl) (.tmp 6) rfl (s) (by kernel_rfl) ?_; simp only [Act.put, List.setIfInBounds_toArray, List.set_cons_succ, List.set_cons_zero]))
  refine KC.out.mono ?_
  rintro e w2 ⟨rfl, rfl⟩
  go_wp2_with fail
  go_ret
  exact ⟨rfl, KQ.out⟩

set_option maxRecDepth 100000 in
set_option maxHeartbeats 1000000 in
theorem HashD {tb B : Nat} {ts : List TermL} {M : Nat → Prop} {ll : List (List Nat)} {V : Value} {w : World} (hT : Tab tb B ts M w) (hy : ∀ l ∈ ll, Bytes l) (hV : ValsV V w (strs ll)) (hl : ∀ l ∈ ll, l.length ≤ maxLen) (hn : ts.length < 1000000) :
    Calls Tryd.prog 18 #[.pointer (some ⟨tb, 0, none⟩), V] w fun e w' => e = .returned (.string (strOf (putL ts (4, ll)).2)) ∧ Puts tb B ts M w (putL ts (4, ll)).1 w' := by
  have CN := nameD (k := 4) hT ⟨hy, by simp⟩ hV hl hn
  obtain ⟨p, c, rfl, _⟩ := vals_form hV (strs_len ll)
  have KC : Kept _ := ⟨CN⟩
  obtain ⟨m, hm⟩ : ∃ m, m = ll.length := ⟨_, rfl⟩
  rw [← hm] at KC ⊢
  clear hT hV hl hn CN hm
  go_enter Tryd.func18, Tryd.ntmps18
  go_wp2_with fail
  refine KC.out.mono ?_
  rintro e w2 ⟨rfl, hP⟩
  go_wp2_with fail
  go_ret
  exact ⟨rfl, hP⟩
set_option maxRecDepth 100000 in
set_option maxHeartbeats 1000000 in
theorem HashN {p P : Option Addr} {n c : Nat} {w : World} (hp : Nobody p w) :
    Calls Tryd.prog 18 #[.pointer p, .slice P n c] w fun e w' => e = .returned (.string .empty) ∧ w' = w := by
  have KC : Kept _ := ⟨nameN (k := 4) (V := .slice P n c) hp⟩
  go_enter Tryd.func18, Tryd.ntmps18
  go_wp2_with fail
  refine KC.out.mono ?_
  rintro e w2 ⟨rfl, rfl⟩
  go_wp2_with fail
  go_ret
  exact ⟨rfl, rfl⟩
set_option maxRecDepth 100000 in
set_option maxHeartbeats 1000000 in
theorem SealD {tb B n : Nat} {ts : List TermL} {M : Nat → Prop} {k a t : List Nat} {w : World} (hT : Tab tb B ts M w) (hn64 : n < 18446744073709551616) (hk : Bytes k) (ha : Bytes a) (ht : Bytes t) (hkl : k.length ≤ maxLen) (hal : a.length ≤ maxLen) (htl : t.length ≤ maxLen) (hn : ts.length < 1000000) :
    Calls Tryd.prog 19 #[.pointer (some ⟨tb, 0, none⟩), .string (strOf k), .int .u64 (n : Int), .string (strOf a), .string (strOf t)] w fun e w' => e = .returned (.string (strOf (putL ts (5, [k, numL n, a, t])).2)) ∧ Puts tb B ts M w (putL ts (5, [k, numL n, a, t])).1 w' := by
  have hNL := numL_len n
  have hNY := numL_bytes n
  have CU := NumD (w := w) hn64
  obtain ⟨N, hN⟩ : ∃ N, N = numL n := ⟨_, rfl⟩
  rw [← hN] at CU hNL hNY ⊢
  have CN := fun w1 (q : Below w.heap.size w w1) => nameD (k := 5) (hT.under (q.trans (((Below.refl w1.heap.size w1).alloc (Nat.le_refl _) (.cells #[.string (strOf k), .string (strOf N), .string (strOf a), .string (strOf t)] 9)).mono q.size))) ⟨fun p hp => by simp at hp; rcases hp with rfl | rfl | rfl | rfl <;> assumption, by simp⟩ (new4 k N a t w1) (fun l h => by simp at h; rcases h with rfl | rfl | rfl | rfl <;> first | assumption | (unfold maxLen; omega)) hn
  have KU : Kept _ := ⟨CU⟩
  have KC : Kept _ := ⟨CN⟩
  clear hT hk ha ht hkl hal htl hn CU CN hN hNL hNY
  go_enter Tryd.func19, Tryd.ntmps19
  go_wp2_with fail
  refine KU.out.mono ?_
  rintro e w1 ⟨rfl, q1⟩
  go_wp2_with (first | (refine wl_bs4 (by kernel_rfl) (.tmp 12) (.tmp 14) (.tmp 15) (.tmp 16) rfl (k) (N) (a) (t) (by kernel_rfl) (by kernel_rfl) (by kernel_rfl) (by kernel_rfl) ?_; simp only [Act.put, List.setIfInBounds_toArray, List.set_cons_succ, List.set_cons_zero]))
  refine (KC.out w1 q1).mono ?_
  rintro e w2 ⟨rfl, hP⟩
  go_wp2_with fail
  go_ret
  exact ⟨rfl, hP.from (q1.trans (((Below.refl w1.heap.size w1).alloc (Nat.le_refl _) _).mono q1.size))⟩
set_option maxRecDepth 100000 in
set_option maxHeartbeats 1000000 in
theorem SealN {n : Nat} {p : Option Addr} {k a t : List Nat} {w : World} (hp : Nobody p w) (hn64 : n < 18446744073709551616) :
    Calls Tryd.prog 19 #[.pointer p, .string (strOf k), .int .u64 (n : Int), .string (strOf a), .string (strOf t)] w fun e w' => e = .returned (.string .empty) ∧ Below w.heap.size w w' := by
  have CU := NumD (w := w) hn64
  obtain ⟨N, hN⟩ : ∃ N, N = numL n := ⟨_, rfl⟩
  rw [← hN] at CU
  have CN := fun w1 (q : Below w.heap.size w w1) => nameN (k := 5) (V := .slice (some ⟨w1.heap.size, 0, none⟩) 4 4) (hp.under (q.trans (((Below.refl w1.heap.size w1).alloc (Nat.le_refl _) (.cells #[.string (strOf k), .string (strOf N), .string (strOf a), .string (strOf t)] 9)).mono q.size)))
  have KU : Kept _ := ⟨CU⟩
  have KC : Kept _ := ⟨CN⟩
  clear hp CU CN hN
  go_enter Tryd.func19, Tryd.ntmps19
  go_wp2_with fail
  refine KU.out.mono ?_
  rintro e w1 ⟨rfl, q1⟩
  go_wp2_with (first | (refine wl_bs4 (by kernel_rfl) (.tmp 12) (.tmp 14) (.tmp 15) (.tmp 16) rfl (k) (N) (a) (t) (by kernel_rfl) (by kernel_rfl) (by kernel_rfl) (by kernel_rfl) ?_; simp only [Act.put, List.setIfInBounds_toArray, List.set_cons_succ, List.set_cons_zero]))
  refine (KC.out w1 q1).mono ?_
  rintro e w2 ⟨rfl, rfl⟩
  go_wp2_with fail
  go_ret
  exact ⟨rfl, q1.trans (((Below.refl w1.heap.size w1).alloc (Nat.le_refl _) _).mono q1.size)⟩

/-- The term of a name, if there is one. -/
def partX (ts : List TermL) (s : List Nat) : Option TermL := if findN ts.length s = 0 then none else ts[findN ts.length s - 1]?
theorem partX_none {ts : List TermL} {s : List Nat} (hs : Bytes s) (hN : ts.length < 1000000) (h : noL s = 0 ∨ ts.length < noL s) : partX ts s = none := by
  unfold partX
  rw [if_pos]
  rw [findN_no hs (by omega)]
  rcases h with h | h
  · rw [h]; simp
  · rw [if_neg (by omega)]
theorem partX_some {ts : List TermL} {s : List Nat} (hs : Bytes s) (hN : ts.length < 1000000) (h : noL s ≠ 0) (h2 : noL s ≤ ts.length) : partX ts s = ts[noL s - 1]? := by
  unfold partX
  rw [findN_no hs (by omega), if_pos h2, if_neg h]
theorem run_eq0U {o : Oper} {a : Act} {x : Operand} {n : Nat} {b : Bool} (ho : o.op = .binOp .eql 44 x (.const (.int .u64 0)) 44) (hx : a.eval x = .int .u64 (n : Int)) (hb : b = decide (n = 0)) (w : World) : (execOp a.eval o).run Tryd.prog w = .ok (.value (.bool b)) w := by
  have e3 : a.eval (.const (.int .u64 0)) = .int .u64 0 := rfl
  unfold execOp
  simp only [ho, hx, e3]
  rw [hb]
  by_cases h : n = 0
  · subst h; simp [go_sem]
  · have h2 : ¬ (n : Int) = 0 := by omega
    simp [go_sem, h, h2]
theorem run_gtrU {o : Oper} {a : Act} {x y : Operand} {m n : Nat} {b : Bool} (ho : o.op = .binOp .gtr 44 x y 44) (hx : a.eval x = .int .u64 (m : Int)) (hy : a.eval y = .int .u64 (n : Int)) (hb : b = decide (n < m)) (w : World) : (execOp a.eval o).run Tryd.prog w = .ok (.value (.bool b)) w := by
  unfold execOp
  simp only [ho, hx, hy]
  rw [hb]
  simp [go_sem]
theorem run_sub1U {o : Oper} {a : Act} {x : Operand} {m n : Nat} (ho : o.op = .binOp .sub 44 x (.const (.int .u64 1)) 44) (hx : a.eval x = .int .u64 (m : Int)) (hn : m = n + 1) (hm : m < 18446744073709551616) (w : World) : (execOp a.eval o).run Tryd.prog w = .ok (.value (.int .u64 (n : Int))) w := by
  have e3 : a.eval (.const (.int .u64 1)) = .int .u64 1 := rfl
  have h4 : ((m : Int) - 1) % 18446744073709551616 = (n : Int) := by omega
  unfold execOp
  simp only [ho, hx, e3]
  simp [go_sem, IntKind.wrap_u64, h4]
theorem run_idxU {o : Oper} {a : Act} {x y : Operand} {i l c : Nat} {A : Addr} {t e : TypeId} (ho : o.op = .indexAddr t x y) (hx : a.eval x = .slice (some A) l c) (hy : a.eval y = .int .u64 (i : Int)) (ht : Tryd.prog.underlying t = some (.slice e)) (hi : i < l) (sz : ∀ w, (sizeOf e).run Tryd.prog w = .ok 1 w) (w : World) : (execOp a.eval o).run Tryd.prog w = .ok (.value (.pointer (some (A.add i)))) w := by
  have h1 : ((i : Int) < (l : Int)) := by omega
  unfold execOp
  simp only [ho, hx, hy, Instr.indexAt]
  simp [asIntOf, run_underlying ht, h1, sz, go_sem]
  intro h
  omega
def PPost (x : Option TermL) (w : World) (e : Ending) (w' : World) : Prop :=
  match x with
  | none => e = .returned (.tuple #[.int .u8 0, .slice none 0 0, .bool false]) ∧ Below w.heap.size w w'
  | some t => (∃ V, e = .returned (.tuple #[.int .u8 (t.1 : Int), V, .bool true]) ∧ VRow w.heap.size 9 (strs t.2) V w') ∧ Below w.heap.size w w'
theorem SplitT {t : TermL} {w : World} (hG : GoodT t) :
    Calls Tryd.prog 50 #[.string (strOf (keyL t))] w fun e w' => (∃ V, e = .returned (.tuple #[.int .u8 (t.1 : Int), V, .int .i64 0]) ∧ VRow w.heap.size 9 (strs t.2) V w') ∧ Below w.heap.size w w' := by
  have h := SplitD (w := w) (keyL_bytes hG) (join_lenB hG.2.2)
  refine h.mono ?_
  rintro e w' ⟨⟨V, rfl, hr⟩, hb⟩
  have e : splitL (keyL t) = some (t.1, t.2) := splitL_join hG.2.2
  unfold spK spE spL at *
  rw [e] at hr ⊢
  exact ⟨⟨V, rfl, hr⟩, hb⟩
set_option maxRecDepth 100000 in
set_option maxHeartbeats 2000000 in
theorem PartsD {tb B : Nat} {ts : List TermL} {M : Nat → Prop} {s : List Nat} {w : World} (hT : Tab tb B ts M w) (hs : Bytes s) (hl : s.length ≤ maxLen) (hn : ts.length < 1000000) :
    Calls Tryd.prog 27 #[.pointer (some ⟨tb, 0, none⟩), .string (strOf s)] w fun e w' => PPost (partX ts s) w e w' := by
  obtain ⟨mb, v, hA⟩ := hT.at'
  have hA' := hA
  obtain ⟨_, _, _, hr0, _⟩ := hA'
  obtain ⟨p, cc, rfl, hcc⟩ := vals_form (vrow_vals hr0) (keys_len ts)
  have CU := numberOfD (w := w) hs hl
  have CM := madeD hA.1
  obtain ⟨n, hnn⟩ : ∃ n, n = noL s := ⟨_, rfl⟩
  obtain ⟨m, hm⟩ : ∃ m, m = ts.length := ⟨_, rfl⟩
  rw [← hm] at hA hcc
  rw [← hnn] at CU
  have hn64 : n < 18446744073709551616 := by
    by_cases h0 : n = 0
    · omega
    · rw [hnn]; exact (noL_of hs (by rw [← hnn]; exact h0)).2
  have hm6 : m < 1000000 := by omega
  have hmI : m < 4611686018427387904 := by omega
  have c1 : Kept (w.cell? ⟨tb, 1, none⟩ = some (.slice p m cc)) := ⟨hA.1.cell rfl⟩
  have KU : Kept _ := ⟨CU⟩
  have KM : Kept _ := ⟨CM⟩
  by_cases h0 : n = 0
  · have KP : Kept (partX ts s = none) := ⟨partX_none hs hn (.inl (by rw [← hnn]; exact h0))⟩
    subst h0
    have B0 : Kept (true = decide (0 = 0)) := ⟨rfl⟩
    rw [KP.out]
    clear hT hA hr0 hs hl hnn hm CU CM hn
    go_enter Tryd.func27, Tryd.ntmps27
    go_wp2_with fail
    refine KU.out.mono ?_
    rintro e w1 ⟨rfl, hw⟩
    obtain rfl := hw.symm
    go_wp2_with fail
    refine KM.out.mono ?_
    rintro e w1 ⟨rfl, hw⟩
    obtain rfl := hw.symm
    go_wp2_with (first | ((with_reducible refine wv_val (d := 18) ?hd ?hw (.bool true) ?hr ?_); (case hd => rfl); (case hw => kernel_rfl); (case hr => intro w; exact run_eq0U (n := 0) rfl (by kernel_rfl) B0.out w); simp only [Act.put, List.setIfInBounds_toArray, List.set_cons_succ, List.set_cons_zero]))
    refine bodyPost_ret (v := .tuple #[.int .u8 0, .slice none 0 0, .bool false]) (by simp [results, Tryd.results27, go_sem]) rfl ?_
    exact ⟨rfl, Below.refl _ _⟩
  · have B0 : Kept (false = decide (n = 0)) := ⟨(decide_eq_false h0).symm⟩
    by_cases h1 : m < n
    · have KP : Kept (partX ts s = none) := ⟨partX_none hs hn (.inr (by rw [← hnn, ← hm]; exact h1))⟩
      have B1 : Kept (true = decide (m < n)) := ⟨(decide_eq_true h1).symm⟩
      rw [KP.out]
      clear hT hA hr0 hs hl hnn hm CU CM h0 h1 hn
      go_enter Tryd.func27, Tryd.ntmps27
      go_wp2_with fail
      refine KU.out.mono ?_
      rintro e w1 ⟨rfl, hw⟩
      obtain rfl := hw.symm
      go_wp2_with fail
      refine KM.out.mono ?_
      rintro e w1 ⟨rfl, hw⟩
      obtain rfl := hw.symm
      go_wp2_with (first | ((with_reducible refine wv_val (d := 18) ?hd ?hw (.bool false) ?hr ?_); (case hd => rfl); (case hw => kernel_rfl); (case hr => intro w; exact run_eq0U rfl (by kernel_rfl) B0.out w); simp only [Act.put, List.setIfInBounds_toArray, List.set_cons_succ, List.set_cons_zero]) | ((with_reducible refine wv_elem (d := 25) ?hd ?hw 29 ag_strs (.tmp 24) ?ho (⟨tb, 1, none⟩) ?hx (.slice p m cc) ?hc ?_); (case hd => rfl); (case hw => kernel_rfl); (case ho => rfl); (case hx => kernel_rfl); (case hc => exact c1.out); simp only [Act.put, List.setIfInBounds_toArray, List.set_cons_succ, List.set_cons_zero]) | ((with_reducible refine wv_val (d := 27) ?hd ?hw (.int .u64 (m : Int)) ?hr ?_); (case hd => rfl); (case hw => kernel_rfl); (case hr => intro w; exact run_c3U rfl (by kernel_rfl) hmI w); simp only [Act.put, List.setIfInBounds_toArray, List.set_cons_succ, List.set_cons_zero]) | ((with_reducible refine wv_val (d := 28) ?hd ?hw (.bool true) ?hr ?_); (case hd => rfl); (case hw => kernel_rfl); (case hr => intro w; exact run_gtrU rfl (by kernel_rfl) (by kernel_rfl) B1.out w); simp only [Act.put, List.setIfInBounds_toArray, List.set_cons_succ, List.set_cons_zero]))
      refine bodyPost_ret (v := .tuple #[.int .u8 0, .slice none 0 0, .bool false]) (by simp [results, Tryd.results27, go_sem]) rfl ?_
      exact ⟨rfl, Below.refl _ _⟩
    · have B1 : Kept (false = decide (m < n)) := ⟨(decide_eq_false h1).symm⟩
      obtain ⟨i, hi⟩ : ∃ i, n = i + 1 := ⟨n - 1, by omega⟩
      have him : i < m := by omega
      have KI : Kept _ := ⟨hi⟩
      obtain ⟨t, ht⟩ : ∃ t, ts[i]? = some t := ⟨_, List.getElem?_eq_getElem (by omega)⟩
      have KP : Kept (partX ts s = some t) := ⟨by rw [partX_some hs hn (by rw [← hnn]; exact h0) (by rw [← hnn, ← hm]; omega), ← hnn, hi]; exact ht⟩
      have hG : GoodT t := good_mem hT.terms (List.mem_of_getElem? ht)
      have CS := SplitT (w := w) hG
      have hx : (strs (ts.map keyL))[i]? = some (.string (strOf (keyL t))) := strs_get (by rw [List.getElem?_map, ht]; rfl)
      obtain ⟨A, rfl, hAb, hcell⟩ := vals_at (vrow_vals hr0) hx
      obtain ⟨T, hTT⟩ : ∃ T, T = keyL t := ⟨_, rfl⟩
      rw [← hTT] at CS hcell
      have KS : Kept _ := ⟨CS⟩
      have KC : Kept _ := ⟨hcell⟩
      rw [KP.out]
      clear hT hA hr0 hs hl hnn hm CU CM h0 h1 hn ht hx hcell CS hTT hG hi
      go_enter Tryd.func27, Tryd.ntmps27
      go_wp2_with fail
      refine KU.out.mono ?_
      rintro e w1 ⟨rfl, hw⟩
      obtain rfl := hw.symm
      go_wp2_with fail
      refine KM.out.mono ?_
      rintro e w1 ⟨rfl, hw⟩
      obtain rfl := hw.symm
      go_wp2_with (first | ((with_reducible refine wv_val (d := 18) ?hd ?hw (.bool false) ?hr ?_); (case hd => rfl); (case hw => kernel_rfl); (case hr => intro w; exact run_eq0U rfl (by kernel_rfl) B0.out w); simp only [Act.put, List.setIfInBounds_toArray, List.set_cons_succ, List.set_cons_zero]) | ((with_reducible refine wv_elem (d := 25) ?hd ?hw 29 ag_strs (.tmp 24) ?ho (⟨tb, 1, none⟩) ?hx (.slice (some A) m cc) ?hc ?_); (case hd => rfl); (case hw => kernel_rfl); (case ho => rfl); (case hx => kernel_rfl); (case hc => exact c1.out); simp only [Act.put, List.setIfInBounds_toArray, List.set_cons_succ, List.set_cons_zero]) | ((with_reducible refine wv_val (d := 27) ?hd ?hw (.int .u64 (m : Int)) ?hr ?_); (case hd => rfl); (case hw => kernel_rfl); (case hr => intro w; exact run_c3U rfl (by kernel_rfl) hmI w); simp only [Act.put, List.setIfInBounds_toArray, List.set_cons_succ, List.set_cons_zero]) | ((with_reducible refine wv_val (d := 28) ?hd ?hw (.bool false) ?hr ?_); (case hd => rfl); (case hw => kernel_rfl); (case hr => intro w; exact run_gtrU rfl (by kernel_rfl) (by kernel_rfl) B1.out w); simp only [Act.put, List.setIfInBounds_toArray, List.set_cons_succ, List.set_cons_zero]) | ((with_reducible refine wv_elem (d := 34) ?hd ?hw 29 ag_strs (.tmp 33) ?ho (⟨tb, 1, none⟩) ?hx (.slice (some A) m cc) ?hc ?_); (case hd => rfl); (case hw => kernel_rfl); (case ho => rfl); (case hx => kernel_rfl); (case hc => exact c1.out); simp only [Act.put, List.setIfInBounds_toArray, List.set_cons_succ, List.set_cons_zero]) | ((with_reducible refine wv_val (d := 36) ?hd ?hw (.int .u64 (i : Int)) ?hr ?_); (case hd => rfl); (case hw => kernel_rfl); (case hr => intro w; exact run_sub1U rfl (by kernel_rfl) KI.out hn64 w); simp only [Act.put, List.setIfInBounds_toArray, List.set_cons_succ, List.set_cons_zero]) | ((with_reducible refine wv_val (d := 37) ?hd ?hw (.pointer (some (A.add i))) ?hr ?_); (case hd => rfl); (case hw => kernel_rfl); (case hr => intro w; exact run_idxU rfl (by kernel_rfl) (by kernel_rfl) Tryd.underlying29 him Tryd.sizeOf9 w); simp only [Act.put, List.setIfInBounds_toArray, List.set_cons_succ, List.set_cons_zero]) | ((with_reducible refine wv_elem (d := 38) ?hd ?hw 9 ag_str (.tmp 37) ?ho (A.add i) ?hx (.string (strOf T)) ?hc ?_); (case hd => rfl); (case hw => kernel_rfl); (case ho => rfl); (case hx => kernel_rfl); (case hc => exact KC.out); simp only [Act.put, List.setIfInBounds_toArray, List.set_cons_succ, List.set_cons_zero]))
      refine KS.out.mono ?_
      rintro e w1 ⟨⟨V, rfl, hV⟩, q1⟩
      have KV : Kept _ := ⟨hV⟩
      clear hV
      go_wp2_with fail
      refine bodyPost_ret (v := .tuple #[.int .u8 (t.1 : Int), V, .bool true]) (by simp [results, Tryd.results27, go_sem]) rfl ?_
      exact ⟨⟨V, rfl, KV.out⟩, q1⟩
set_option maxRecDepth 100000 in
set_option maxHeartbeats 2000000 in
theorem PartsN {p : Option Addr} {s : List Nat} {w : World} (hp : Nobody p w) (hs : Bytes s) (hl : s.length ≤ maxLen) :
    Calls Tryd.prog 27 #[.pointer p, .string (strOf s)] w fun e w' => e = .returned (.tuple #[.int .u8 0, .slice none 0 0, .bool false]) ∧ w' = w := by
  have CU := numberOfD (w := w) hs hl
  have CM := madeN hp
  obtain ⟨n, hnn⟩ : ∃ n, n = noL s := ⟨_, rfl⟩
  rw [← hnn] at CU
  have KU : Kept _ := ⟨CU⟩
  have KM : Kept _ := ⟨CM⟩
  clear hnn CU CM
  go_enter Tryd.func27, Tryd.ntmps27
  go_wp2_with fail
  refine KU.out.mono ?_
  rintro e w1 ⟨rfl, hw⟩
  obtain rfl := hw.symm
  go_wp2_with fail
  refine KM.out.mono ?_
  rintro e w1 ⟨rfl, hw⟩
  obtain rfl := hw.symm
  go_wp2_with fail
  refine bodyPost_ret (v := .tuple #[.int .u8 0, .slice none 0 0, .bool false]) (by simp [results, Tryd.results27, go_sem]) rfl ?_
  exact ⟨rfl, rfl⟩
end Go.Proofs.YtniogaimhkcedaaDoor.sh
/-
  (*Table).All, (*Table).Dh.
-/
namespace Go.Proofs.YtniogaimhkcedaaDoor.sh
open Go Go.RowKit Go.Maps
set_option linter.unusedVariables false
set_option linter.unusedSimpArgs false

/-- The names of so many terms. -/
def namesL (i : Nat) : List (List Nat) := (List.range i).map fun j => termN (j + 1)
theorem namesL_len (i : Nat) : (namesL i).length = i := by simp [namesL]
theorem namesL_succ (i : Nat) : namesL (i + 1) = namesL i ++ [termN (i + 1)] := by simp [namesL, List.range_succ]
theorem namesL_get {i n : Nat} (h : i < n) : (namesL n)[i]? = some (termN (i + 1)) := by simp [namesL, h]
theorem namesL_bytes {n : Nat} : ∀ l ∈ namesL n, Bytes l := fun l h => by
  unfold namesL at h
  obtain ⟨j, _, rfl⟩ := List.mem_map.1 h
  exact termN_bytes _
def nmA (i n : Nat) : Array Value := (strs (namesL i) ++ List.replicate (n - i) (Value.string .empty)).toArray
theorem nmA_size {i n : Nat} (h : i ≤ n) : (nmA i n).size = n := by simp [nmA, strs_len, namesL_len]; omega
theorem nmA_set {i n : Nat} (h : i < n) : (nmA i n).setIfInBounds i (.string (strOf (termN (i + 1)))) = nmA (i + 1) n := by
  unfold nmA
  rw [List.setIfInBounds_toArray, namesL_succ, strs_append]
  congr 1
  have hl : (strs (namesL i)).length = i := by rw [strs_len, namesL_len]
  rw [List.set_append_right _ _ (by omega), hl, Nat.sub_self, show n - i = (n - (i + 1)) + 1 by omega, List.replicate_succ, List.set_cons_zero, List.append_assoc]
  rfl
theorem nmA_all (n : Nat) : (nmA n n).toList = strs (namesL n) := by simp [nmA]
theorem made_empty (n : Nat) : madeCells (Value.string .empty).cells n = nmA 0 n := by
  apply Array.ext_getElem?
  intro i
  by_cases h : i < n
  · simp [madeCells, nmA, namesL, strs, Value.cells, h, Nat.mod_one]
  · rw [Array.getElem?_eq_none (by rw [size_madeCells]; omega), Array.getElem?_eq_none (by rw [nmA_size (Nat.zero_le _)]; omega)]
theorem run_mkS (c : Nat) (hc : c < 1000001) (w : World) : (Instr.makeSlice 29 (.int .i64 (c : Int)) (.int .i64 (c : Int))).run Tryd.prog w = .ok (.slice (some ⟨w.heap.size, 0, none⟩) c c) (w.alloc (.cells (nmA 0 c) 9)) := by
  have hi := inf_str
  cases hq : Tryd.prog.info? 9 with
  | none => rw [hq] at hi; cases hi
  | some i =>
    rw [hq] at hi
    simp only [Option.map_some, Option.some.injEq, Prod.mk.injEq] at hi
    obtain ⟨h1, h2, h3⟩ := hi
    have h := run_make (P := Tryd.prog) w 29 9 i (.string .empty) Tryd.underlying29 hq h1 .i64 .i64 (c : Int) (c : Int) (by omega) (Int.le_refl _) (by rw [h3]; omega) (by omega)
    rw [h2, Nat.mul_one, Int.toNat_natCast, made_empty] at h
    exact h
theorem wl_mkS {ops : Array Oper} {rest : List Oper} {o : Oper} {a : Act} {w : World} {Q : Exit → Act → World → Prop} (hgd : o.guard = none) (x : Operand) (ho : o.op = .makeSlice 29 x x) (c : Nat) (hx : a.eval x = .int .i64 (c : Int)) (hc : c < 1000001)
    (h : wpList Tryd.prog ops Q rest (a.put o.dst (.slice (some ⟨w.heap.size, 0, none⟩) c c)) (w.alloc (.cells (nmA 0 c) 9))) : wpList Tryd.prog ops Q (o :: rest) a w :=
  wpList_plain hgd fun K hK => by
    have hrun : (execOp a.eval o).run Tryd.prog w = .ok (.value (.slice (some ⟨w.heap.size, 0, none⟩) c c)) (w.alloc (.cells (nmA 0 c) 9)) := by
      unfold execOp
      simp only [ho, hx]
      simp [run_mkS c hc w]
    unfold Oper.wp
    rw [hrun]
    exact hK _ _ h
theorem vrow_of_blk {base g n : Nat} {e : TypeId} {A : Array Value} {w : World} (h : Blk w g e A) (hn : A.size = n) (hb : base ≤ g) (hm : n ≤ maxLen) : VRow base e A.toList (.slice (some ⟨g, 0, none⟩) n n) w := by
  subst hn
  unfold VRow
  rw [Array.length_toList]
  refine ⟨by simp, .inr ⟨g, A.size, A, rfl, hb, h, Nat.le_refl _, hm, by omega, ?_⟩⟩
  rw [Nat.mul_one, List.take_of_length_le (by simp)]
theorem run_add1U {o : Oper} {a : Act} {x : Operand} {m n : Nat} (ho : o.op = .binOp .add 44 x (.const (.int .u64 1)) 44) (hx : a.eval x = .int .u64 (m : Int)) (hn : n = m + 1) (hm : n < 18446744073709551616) (w : World) : (execOp a.eval o).run Tryd.prog w = .ok (.value (.int .u64 (n : Int))) w := by
  have e3 : a.eval (.const (.int .u64 1)) = .int .u64 1 := rfl
  have h4 : ((m : Int) + 1) % 18446744073709551616 = (n : Int) := by omega
  unfold execOp
  simp only [ho, hx, e3]
  simp [go_sem, IntKind.wrap_u64, h4]
set_option maxRecDepth 100000 in
set_option maxHeartbeats 2000000 in
theorem AllD {tb B : Nat} {ts : List TermL} {M : Nat → Prop} {w : World} (hT : Tab tb B ts M w) (hn : ts.length < 1000000) :
    Calls Tryd.prog 14 #[.pointer (some ⟨tb, 0, none⟩)] w fun e w' => (∃ V, e = .returned V ∧ VRow w.heap.size 9 (strs (namesL ts.length)) V w') ∧ Below w.heap.size w w' := by
  obtain ⟨mb, v, hA⟩ := hT.at'
  have hA' := hA
  obtain ⟨_, _, _, hr0, _⟩ := hA'
  obtain ⟨p, cc, rfl, hcc⟩ := vals_form (vrow_vals hr0) (keys_len ts)
  have CM := madeD hA.1
  obtain ⟨m, hm⟩ : ∃ m, m = ts.length := ⟨_, rfl⟩
  rw [← hm] at hA hcc ⊢
  have hm6 : m < 1000001 := by omega
  have hmI : m < 4611686018427387904 := by omega
  have c1 : Kept (w.cell? ⟨tb, 1, none⟩ = some (.slice p m cc)) := ⟨hA.1.cell rfl⟩
  have KM : Kept _ := ⟨CM⟩
  obtain ⟨H, hH⟩ : ∃ H, H = w.heap.size := ⟨_, rfl⟩
  have KH : Kept _ := ⟨hH⟩
  rw [← hH]
  have hb0 : Kept (Blk (w.alloc (.cells (nmA 0 m) 9)) H 9 (nmA 0 m)) := ⟨by rw [hH]; exact blk_new _ _ _⟩
  have hq0 : Kept (Below H w (w.alloc (.cells (nmA 0 m) 9))) := ⟨by rw [hH]; exact (Below.refl _ _).alloc (Nat.le_refl _) _⟩
  clear hT hA hr0 hm CM hn
  go_enter Tryd.func14, Tryd.ntmps14
  go_wp2_with fail
  refine KM.out.mono ?_
  rintro e w1 ⟨rfl, hw⟩
  obtain rfl := hw.symm
  go_wp2_with (first | ((with_reducible refine wv_elem (d := 11) ?hd ?hw 29 ag_strs (.tmp 10) ?ho (⟨tb, 1, none⟩) ?hx (.slice p m cc) ?hc ?_); (case hd => rfl); (case hw => kernel_rfl); (case ho => rfl); (case hx => kernel_rfl); (case hc => exact c1.out); simp only [Act.put, List.setIfInBounds_toArray, List.set_cons_succ, List.set_cons_zero]) | (refine wl_mkS rfl (.tmp 12) rfl m (by kernel_rfl) hm6 ?_; rw [← KH.out]; simp only [Act.put, List.setIfInBounds_toArray, List.set_cons_succ, List.set_cons_zero]))
  clear c1 hcc hH
  go_loopg [16] m (fun g s16 wr => ∃ i : Nat, i + g = m ∧ s16 = .int .i64 (i : Int) ∧ Blk wr H 9 (nmA i m) ∧ Below H w wr)
  case atStart => exact ⟨0, by omega, rfl, hb0.out, hq0.out⟩
  case round =>
    rename World => wz
    obtain ⟨i, hik, rfl, hbi, hqi⟩ := hrel
    by_cases hk0 : gk = 0
    · obtain rfl : m = i := by omega
      go_wp2_with fail
      go_ret
      refine ⟨⟨_, rfl, ?_⟩, hqi⟩
      rw [← nmA_all]
      exact vrow_of_blk hbi (nmA_size (Nat.le_refl _)) (Nat.le_refl _) (by unfold maxLen; omega)
    · have hin : i < m := by omega
      have hin' : (i : Int) < (m : Int) := by omega
      have hiI : i < 4611686018427387904 := by omega
      obtain ⟨j, hj⟩ : ∃ j, j = i + 1 := ⟨_, rfl⟩
      have KJ : Kept _ := ⟨hj⟩
      have hj64 : j < 18446744073709551616 := by omega
      have CN := nameOfD (w := wz) hj64
      obtain ⟨N, hN⟩ : ∃ N, N = termN j := ⟨_, rfl⟩
      rw [← hN] at CN
      have KCN : Kept _ := ⟨CN⟩
      have KN : Kept _ := ⟨hN⟩
      have KB : Kept _ := ⟨hbi⟩
      have his : Kept (i < (nmA i m).size) := ⟨by rw [nmA_size (by omega)]; exact hin⟩
      clear CN hN hj hbi
      go_wp2_with (first | ((with_reducible refine wv_val (d := 22) ?hd ?hw (.int .u64 (i : Int)) ?hr ?_); (case hd => rfl); (case hw => kernel_rfl); (case hr => intro w; exact run_c3U rfl (by kernel_rfl) hiI w); simp only [Act.put, List.setIfInBounds_toArray, List.set_cons_succ, List.set_cons_zero]) | ((with_reducible refine wv_val (d := 23) ?hd ?hw (.int .u64 (j : Int)) ?hr ?_); (case hd => rfl); (case hw => kernel_rfl); (case hr => intro w; exact run_add1U rfl (by kernel_rfl) KJ.out hj64 w); simp only [Act.put, List.setIfInBounds_toArray, List.set_cons_succ, List.set_cons_zero]))
      refine KCN.out.mono ?_
      rintro e w5 ⟨rfl, q5⟩
      have hb5 := KB.out.under q5
      go_wp2_with (first | ((with_reducible refine wv_val (d := 25) ?hd ?hw (.pointer (some ⟨H, i, none⟩)) ?hr ?_); (case hd => rfl); (case hw => kernel_rfl); (case hr => intro w; exact run_idxS0 rfl (by kernel_rfl) (by kernel_rfl) Tryd.underlying29 hin Tryd.sizeOf9 w); simp only [Act.put, List.setIfInBounds_toArray, List.set_cons_succ, List.set_cons_zero]) | ((refine wl_set1 rfl 9 Tryd.sizeOf9 (.tmp 25) (.tmp 24) rfl H i (.string (strOf N)) (by kernel_rfl) (by kernel_rfl) rfl _ hb5 his.out ?_); intro w6 hb6 hp6; simp only [Act.put, List.setIfInBounds_toArray, List.set_cons_succ, List.set_cons_zero]))
      go_roundg (gk - 1)
      case measure => omega
      case rel =>
        refine ⟨i + 1, by omega, by simp, ?_, ?_⟩
        · rw [KN.out, KJ.out, nmA_set hin] at hb6
          exact hb6
        · have hH2 := hqi.size
          rw [← KH.out] at hH2
          exact (hqi.trans (q5.mono hH2)).trans (hp6.below (Nat.le_refl _))
set_option maxRecDepth 100000 in
set_option maxHeartbeats 2000000 in
theorem AllN {p : Option Addr} {w : World} (hp : Nobody p w) :
    Calls Tryd.prog 14 #[.pointer p] w fun e w' => e = .returned (.slice none 0 0) ∧ w' = w := by
  have KM : Kept _ := ⟨madeN hp⟩
  clear hp
  go_enter Tryd.func14, Tryd.ntmps14
  go_wp2_with fail
  refine KM.out.mono ?_
  rintro e w1 ⟨rfl, hw⟩
  obtain rfl := hw.symm
  go_wp2_with fail
  go_ret
  exact ⟨rfl, rfl⟩

theorem dhL_part (ts : List TermL) (a b : List Nat) : dhL ts a b = (match partX ts b with
    | some (2, [y]) => ((putL ts (3, sort2 a y)).1, (putL ts (3, sort2 a y)).2, decide ((putL ts (3, sort2 a y)).2 ≠ []))
    | _ => (ts, [], false)) := by
  unfold dhL partX
  by_cases h : findN ts.length b = 0
  · rw [if_pos h]
    split
    · rw [if_pos h]
    · rfl
  · rw [if_neg h]
    generalize ts[findN ts.length b - 1]? = q
    split
    · rw [if_neg h]; rfl
    · next hq =>
      split
      · next y => exact absurd rfl (hq y)
      · rfl
theorem dhL_none {ts : List TermL} {a b : List Nat} (h : partX ts b = none) : dhL ts a b = (ts, [], false) := by rw [dhL_part, h]
theorem dhL_kind {ts : List TermL} {a b : List Nat} {t : TermL} (h : partX ts b = some t) (hk : t.1 ≠ 2) : dhL ts a b = (ts, [], false) := by
  rw [dhL_part, h]
  obtain ⟨k, p⟩ := t
  have hk' : k ≠ 2 := hk
  split
  · next y e => cases e; exact absurd rfl hk'
  · rfl
theorem dhL_two {ts : List TermL} {a b y : List Nat} (h : partX ts b = some (2, [y])) : dhL ts a b = ((putL ts (3, sort2 a y)).1, (putL ts (3, sort2 a y)).2, decide ((putL ts (3, sort2 a y)).2 ≠ [])) := (dhL_part ts a b).trans (by rw [h]; rfl)
theorem partX_mem {ts : List TermL} {b : List Nat} {t : TermL} (h : partX ts b = some t) : t ∈ ts := by
  unfold partX at h
  split at h
  · cases h
  · exact List.mem_of_getElem? h
theorem putL_bytes (ts : List TermL) (t : TermL) : Bytes (putL ts t).2 := by
  by_cases hF : Fits t.2
  · by_cases hm : t ∈ ts
    · rw [putL_old hF hm]; exact termN_bytes _
    · rw [putL_new hF hm]; exact termN_bytes _
  · rw [putL_not hF]; exact nil_bytes
theorem putL_len32 (ts : List TermL) (t : TermL) : (putL ts t).2.length ≤ 32 := by
  by_cases hF : Fits t.2
  · by_cases hm : t ∈ ts
    · rw [putL_old hF hm]; exact Nat.le_of_eq (termN_len _)
    · rw [putL_new hF hm]; exact Nat.le_of_eq (termN_len _)
  · rw [putL_not hF]; exact Nat.zero_le _
theorem run_sleq {l m : List Nat} (hl : Bytes l) (hm : Bytes m) (w : World) : (Op.stringOp .leq (strOf l) (strOf m)).run Tryd.prog w = .ok (.bool (lessL l m || decide (l = m))) w := by
  rw [← sa_less hl hm, ← sa_beq hl hm]
  simp [Op.stringOp]
theorem run_sgeq {l m : List Nat} (hl : Bytes l) (hm : Bytes m) (w : World) : (Op.stringOp .geq (strOf l) (strOf m)).run Tryd.prog w = .ok (.bool (!lessL l m)) w := by
  rw [← sa_less hl hm]
  simp [Op.stringOp]
theorem run_smin {o : Oper} {a : Act} {x y : Operand} {l m z : List Nat} {ts : Array TypeId} (ho : o.op = .call { callee := .builtin .min, args := #[x, y], argTypes := ts }) (hx : a.eval x = .string (strOf l)) (hy : a.eval y = .string (strOf m)) (hl : Bytes l) (hm : Bytes m) (hz : z = if lessL m l = true then m else l) (w : World) : (execOp a.eval o).run Tryd.prog w = .ok (.value (.string (strOf z))) w := by
  have h : (Builtin.min_ ts o.type #[.string (strOf l), .string (strOf m)]).run Tryd.prog w = .ok (.string (strOf z)) w := by
    have e := run_sleq hl hm w
    rw [hz]
    by_cases h1 : lessL m l = true
    · have h2 := lessL_asym _ _ h1
      have h3 : l ≠ m := fun h => by rw [h, lessL_irrefl] at h1; cases h1
      simp [Builtin.min_, Builtin.min2, e, asBool, h1, h2, h3]
    · have h1' : lessL m l = false := by simpa using h1
      by_cases h2 : lessL l m = true
      · have h3 : l ≠ m := fun h => by rw [h, lessL_irrefl] at h2; cases h2
        simp [Builtin.min_, Builtin.min2, e, asBool, h1', h2, h3]
      · have h2' : lessL l m = false := by simpa using h2
        have h3 := lessL_tri l m h2' h1'
        subst h3
        simp [Builtin.min_, Builtin.min2, e, asBool, h1']
  unfold execOp
  simp only [ho, resolve, invoke, builtin, Sem.run_bind, Sem.run_pure, Result.andThen_ok, List.map_toArray, List.map_cons, List.map_nil, hx, hy, h]
theorem run_smax {o : Oper} {a : Act} {x y : Operand} {l m z : List Nat} {ts : Array TypeId} (ho : o.op = .call { callee := .builtin .max, args := #[x, y], argTypes := ts }) (hx : a.eval x = .string (strOf l)) (hy : a.eval y = .string (strOf m)) (hl : Bytes l) (hm : Bytes m) (hz : z = if lessL l m = true then m else l) (w : World) : (execOp a.eval o).run Tryd.prog w = .ok (.value (.string (strOf z))) w := by
  have h : (Builtin.max_ ts o.type #[.string (strOf l), .string (strOf m)]).run Tryd.prog w = .ok (.string (strOf z)) w := by
    have e := run_sgeq hl hm w
    rw [hz]
    by_cases h1 : lessL m l = true
    · have h2 := lessL_asym _ _ h1
      have h3 : l ≠ m := fun h => by rw [h, lessL_irrefl] at h1; cases h1
      simp [Builtin.max_, Builtin.max2, e, asBool, h1, h2, h3]
    · have h1' : lessL m l = false := by simpa using h1
      by_cases h2 : lessL l m = true
      · have h3 : l ≠ m := fun h => by rw [h, lessL_irrefl] at h2; cases h2
        simp [Builtin.max_, Builtin.max2, e, asBool, h1', h2, h3]
      · have h2' : lessL l m = false := by simpa using h2
        have h3 := lessL_tri l m h2' h1'
        subst h3
        simp [Builtin.max_, Builtin.max2, e, asBool, h1']
  unfold execOp
  simp only [ho, resolve, invoke, builtin, Sem.run_bind, Sem.run_pure, Result.andThen_ok, List.map_toArray, List.map_cons, List.map_nil, hx, hy, h]
theorem sort2_min (a y : List Nat) : sort2 a y = [if lessL y a = true then y else a, if lessL a y = true then y else a] := by
  unfold sort2
  by_cases h1 : lessL y a = true
  · rw [if_pos h1, if_pos h1, if_neg (by rw [lessL_asym _ _ h1]; decide)]
  · by_cases h2 : lessL a y = true
    · rw [if_neg h1, if_neg h1, if_pos h2]
    · rw [if_neg h1, if_neg h1, if_neg h2, lessL_tri a y (by simpa using h2) (by simpa using h1)]
/-- A public key has one part, of bytes, short enough. -/
theorem pub_form {ts : List TermL} (h : Terms ts) {t : TermL} (ht : t ∈ ts) (hk : t.1 = 2) : ∃ y, t = (2, [y]) ∧ Bytes y ∧ y.length ≤ 4000 := by
  obtain ⟨k, ps⟩ := t
  have hk' : k = 2 := hk
  subst hk'
  have hf := h.2 _ ht
  have hF := h.1.2 _ ht
  rcases hf.2 with ⟨e, _⟩ | ⟨_, y, e⟩ | ⟨e, _⟩ | e | e
  · cases e
  · have e' : ps = [y] := e
    subst e'
    exact ⟨y, rfl, hf.1 y (by simp), hF.2.1 y (by simp)⟩
  · cases e
  · cases e
  · cases e
set_option maxRecDepth 100000 in
set_option maxHeartbeats 4000000 in
theorem DhD {tb B : Nat} {ts : List TermL} {M : Nat → Prop} {a b : List Nat} {w : World} (hT : Tab tb B ts M w) (ha : Bytes a) (hb : Bytes b) (hal : a.length ≤ maxLen) (hbl : b.length ≤ maxLen) (hn : ts.length < 1000000) :
    Calls Tryd.prog 25 #[.pointer (some ⟨tb, 0, none⟩), .string (strOf a), .string (strOf b)] w fun e w' => e = .returned (.tuple #[.string (strOf (dhL ts a b).2.1), .bool (dhL ts a b).2.2]) ∧ Puts tb B ts M w (dhL ts a b).1 w' := by
  have CP := PartsD hT hb hbl hn
  obtain ⟨x, hx⟩ : ∃ x, x = partX ts b := ⟨_, rfl⟩
  rw [← hx] at CP
  have stay : ∀ w', dhL ts a b = (ts, [], false) → Below w.heap.size w w' → Ending.returned (.tuple #[.string .empty, .bool false]) = .returned (.tuple #[.string (strOf (dhL ts a b).2.1), .bool (dhL ts a b).2.2]) ∧ Puts tb B ts M w (dhL ts a b).1 w' := fun w' e q => by
    rw [e]
    exact ⟨rfl, M, hT.under q, Turn.of_below q⟩
  have KS : Kept _ := ⟨stay⟩
  have KT : Kept _ := ⟨hT⟩
  clear stay
  cases x with
  | none =>
    have KD : Kept _ := ⟨dhL_none (a := a) hx.symm⟩
    have KC : Kept _ := ⟨CP⟩
    clear hx CP hT hn
    go_enter Tryd.func25, Tryd.ntmps25
    go_wp2_with fail
    refine KC.out.mono ?_
    rintro e w1 ⟨rfl, q1⟩
    go_wp2_with fail
    refine bodyPost_ret (v := .tuple #[.string ⟨#[]⟩, .bool false]) (by simp [results, Tryd.results25, go_sem]) rfl ?_
    exact KS.out w1 KD.out q1
  | some t =>
    have hmem := partX_mem hx.symm
    by_cases hk : t.1 = 2
    case neg =>
      have KD : Kept _ := ⟨dhL_kind (a := a) hx.symm hk⟩
      obtain ⟨k, ps⟩ := t
      have hk' : ¬ k = 2 := hk
      have B1 : Kept (true = !decide (k = 2)) := ⟨by rw [decide_eq_false hk']; rfl⟩
      have KC : Kept _ := ⟨CP⟩
      clear hx CP hk hk' hmem hT hn
      go_enter Tryd.func25, Tryd.ntmps25
      go_wp2_with fail
      refine KC.out.mono ?_
      rintro e w1 ⟨⟨V, rfl, hV⟩, q1⟩
      obtain ⟨p, c, rfl, _⟩ := vals_form (vrow_vals hV) (strs_len ps)
      clear hV
      go_wp2_with (first | ((with_reducible refine wv_val (d := 24) ?hd ?hw (.bool true) ?hr ?_); (case hd => rfl); (case hw => kernel_rfl); (case hr => intro w; exact run_neU (n := 2) rfl (by kernel_rfl) rfl B1.out w); simp only [Act.put, List.setIfInBounds_toArray, List.set_cons_succ, List.set_cons_zero]))
      refine bodyPost_ret (v := .tuple #[.string ⟨#[]⟩, .bool false]) (by simp [results, Tryd.results25, go_sem]) rfl ?_
      exact KS.out w1 KD.out q1
    case pos =>
      obtain ⟨y, rfl, hy, hyl⟩ := pub_form hT.terms hmem hk
      have hD := dhL_two (a := a) hx.symm
      have hs2 := sort2_min a y
      have hsb := sort2_bytes ha hy
      have NB := putL_bytes ts (3, sort2 a y)
      obtain ⟨P, hP⟩ : ∃ P, P = (putL ts (3, sort2 a y)).2 := ⟨_, rfl⟩
      rw [hD, ← hP]
      rw [← hP] at NB
      have hf3 : Formed (3, sort2 a y) := ⟨hsb, .inr (.inr (.inl ⟨rfl, sort2_two a y⟩))⟩
      have CN := fun w1 V (q : Below w.heap.size w w1) (hV : ValsV V w1 (strs (sort2 a y))) => nameD (k := 3) (hT.under q) hf3 hV (fun l h => by
        rw [hs2] at h
        simp at h
        rcases h with rfl | rfl <;> split <;> first | exact hal | (unfold maxLen; omega)) hn
      rw [← hP] at CN
      obtain ⟨z1, hz1⟩ : ∃ z, z = if lessL y a = true then y else a := ⟨_, rfl⟩
      obtain ⟨z2, hz2⟩ : ∃ z, z = if lessL a y = true then y else a := ⟨_, rfl⟩
      rw [← hz1, ← hz2] at hs2
      obtain ⟨F, hF⟩ : ∃ F, F = decide (P ≠ []) := ⟨_, rfl⟩
      have BF : Kept (F = !decide (P = [])) := ⟨by rw [hF]; exact decide_not⟩
      rw [← hF]
      have KN : Kept _ := ⟨CN⟩
      have Ks : Kept _ := ⟨hs2⟩
      have KC : Kept _ := ⟨CP⟩
      have KNB : Kept _ := ⟨NB⟩
      have K1 : Kept _ := ⟨hz1⟩
      have K2 : Kept _ := ⟨hz2⟩
      have Ka : Kept _ := ⟨ha⟩
      have Ky : Kept _ := ⟨hy⟩
      clear hx CP hk hmem hD hs2 hsb NB hP hf3 CN hz1 hz2 hF hT hn ha hy hb KS
      go_enter Tryd.func25, Tryd.ntmps25
      go_wp2_with fail
      refine KC.out.mono ?_
      rintro e w1 ⟨⟨V, rfl, hV⟩, q1⟩
      have hV1 := vrow_vals hV
      obtain ⟨p, c, rfl, _⟩ := vals_form hV1 (strs_len [y])
      obtain ⟨A, rfl, hAb, hcell⟩ := vals_at hV1 (show (strs [y])[0]? = some (.string (strOf y)) from rfl)
      have KCe : Kept _ := ⟨hcell⟩
      have B1 : Kept (false = !decide (2 = 2)) := ⟨rfl⟩
      have hlt : 0 < 1 := by decide
      clear hV hV1 hcell
      go_wp2_with (first | ((with_reducible refine wv_val (d := 24) ?hd ?hw (.bool false) ?hr ?_); (case hd => rfl); (case hw => kernel_rfl); (case hr => intro w; exact run_neU (m := 2) (n := 2) rfl (by kernel_rfl) rfl B1.out w); simp only [Act.put, List.setIfInBounds_toArray, List.set_cons_succ, List.set_cons_zero]) | ((with_reducible refine wv_val (d := 27) ?hd ?hw (.pointer (some (A.add 0))) ?hr ?_); (case hd => rfl); (case hw => kernel_rfl); (case hr => intro w; exact run_idxS (i := 0) (l := 1) rfl (by kernel_rfl) rfl Tryd.underlying29 hlt Tryd.sizeOf9 w); simp only [Act.put, List.setIfInBounds_toArray, List.set_cons_succ, List.set_cons_zero]) | ((with_reducible refine wv_elem (d := 28) ?hd ?hw 9 ag_str (.tmp 27) ?ho (A.add 0) ?hx (.string (strOf y)) ?hc ?_); (case hd => rfl); (case hw => kernel_rfl); (case ho => rfl); (case hx => kernel_rfl); (case hc => exact KCe.out); simp only [Act.put, List.setIfInBounds_toArray, List.set_cons_succ, List.set_cons_zero]) | ((with_reducible refine wv_val (d := 32) ?hd ?hw (.string (strOf z1)) ?hr ?_); (case hd => rfl); (case hw => kernel_rfl); (case hr => intro w; exact run_smin rfl (by kernel_rfl) (by kernel_rfl) Ka.out Ky.out K1.out w); simp only [Act.put, List.setIfInBounds_toArray, List.set_cons_succ, List.set_cons_zero]) | ((with_reducible refine wv_val (d := 35) ?hd ?hw (.string (strOf z2)) ?hr ?_); (case hd => rfl); (case hw => kernel_rfl); (case hr => intro w; exact run_smax rfl (by kernel_rfl) (by kernel_rfl) Ka.out Ky.out K2.out w); simp only [Act.put, List.setIfInBounds_toArray, List.set_cons_succ, List.set_cons_zero]) | (refine wl_bs2 (by kernel_rfl) (.tmp 32) (.tmp 35) rfl (z1) (z2) (by kernel_rfl) (by kernel_rfl) ?_; simp only [Act.put, List.setIfInBounds_toArray, List.set_cons_succ, List.set_cons_zero]))
      have q2 := q1.trans (((Below.refl w1.heap.size w1).alloc (Nat.le_refl _) (.cells #[.string (strOf z1), .string (strOf z2)] 9)).mono q1.size)
      refine (KN.out _ _ q2 (by rw [Ks.out]; exact new2 z1 z2 w1)).mono ?_
      rintro e w3 ⟨rfl, hPu⟩
      have KPu : Kept _ := ⟨hPu⟩
      clear hPu
      go_wp2_with (first | ((with_reducible refine wv_val (d := 40) ?hd ?hw (.bool F) ?hr ?_); (case hd => rfl); (case hw => kernel_rfl); (case hr => intro w; exact run_sneq (m := []) rfl (by kernel_rfl) rfl KNB.out nil_bytes BF.out w); simp only [Act.put, List.setIfInBounds_toArray, List.set_cons_succ, List.set_cons_zero]))
      refine bodyPost_ret (v := .tuple #[.string (strOf P), .bool F]) (by simp [results, Tryd.results25, go_sem]) rfl ?_
      exact ⟨rfl, KPu.out.from q2⟩
set_option maxRecDepth 100000 in
set_option maxHeartbeats 2000000 in
theorem DhN {p : Option Addr} {a b : List Nat} {w : World} (hp : Nobody p w) (hb : Bytes b) (hbl : b.length ≤ maxLen) :
    Calls Tryd.prog 25 #[.pointer p, .string (strOf a), .string (strOf b)] w fun e w' => e = .returned (.tuple #[.string .empty, .bool false]) ∧ w' = w := by
  have KC : Kept _ := ⟨PartsN hp hb hbl⟩
  clear hp hb
  go_enter Tryd.func25, Tryd.ntmps25
  go_wp2_with fail
  refine KC.out.mono ?_
  rintro e w1 ⟨rfl, hw⟩
  obtain rfl := hw.symm
  go_wp2_with fail
  refine bodyPost_ret (v := .tuple #[.string ⟨#[]⟩, .bool false]) (by simp [results, Tryd.results25, go_sem]) rfl ?_
  exact ⟨rfl, rfl⟩
end Go.Proofs.YtniogaimhkcedaaDoor.sh
/-
  Acts among the arguments; heavy; the reference's Name.
-/
namespace Go.Proofs.YtniogaimhkcedaaDoor.sh
open Go Go.ChangeShapes Go.WideShapes Go.ChangeAt Go.RowKit
set_option linter.unusedVariables false
set_option linter.unusedSimpArgs false

/-- An act's cells. -/
def actA (x : ActL) : Array Value := #[.int .u8 (x.kind : Int), .int .u8 (x.a : Int), .int .u8 (x.b : Int), .int .u64 (x.n : Int), .string (strOf x.s), .bool x.raw]
structure ActOk (x : ActL) : Prop where
  kind : x.kind < 256
  a : x.a < 256
  b : x.b < 256
  n : x.n < 18446744073709551616
  s : Bytes x.s
  len : x.s.length ≤ maxLen
/-- Acts that a slice holds. -/
def ActsV (v : Value) (w : World) (l : List ActL) : Prop := ∃ p c, v = .slice p l.length c ∧ l.length ≤ c ∧ (l ≠ [] → ∃ A, p = some A ∧ A.block < w.heap.size ∧ ∀ (j : Nat) (x : ActL), l[j]? = some x → ∀ (f : Nat) (u : Value), (actA x)[f]? = some u → w.cell? (A.add (j * 6 + f)) = some u)
theorem ActsV.under {v : Value} {w w' : World} {l : List ActL} (h : ActsV v w l) (hb : Below w.heap.size w w') : ActsV v w' l := by
  obtain ⟨p, c, rfl, hlc, hp⟩ := h
  refine ⟨p, c, rfl, hlc, fun hne => ?_⟩
  obtain ⟨A, rfl, hA, hc⟩ := hp hne
  exact ⟨A, rfl, Nat.lt_of_lt_of_le hA hb.size, fun j x hx f u hu => (hb.cell (by rw [add_block]; exact hA)).trans (hc j x hx f u hu)⟩
theorem acts_form {v : Value} {w : World} {l : List ActL} {n : Nat} (h : ActsV v w l) (hn : l.length = n) : ∃ p c, v = .slice p n c ∧ n ≤ c := by
  obtain ⟨p, c, rfl, h2, _⟩ := h
  exact ⟨p, c, by rw [hn], by omega⟩
theorem acts_at {p : Option Addr} {n c : Nat} {w : World} {l : List ActL} (h : ActsV (.slice p n c) w l) {i : Nat} {x : ActL} (hx : l[i]? = some x) : ∃ A, p = some A ∧ A.block < w.heap.size ∧ ∀ (f : Nat) (u : Value), (actA x)[f]? = some u → w.cell? ((A.add (i * 6)).add f) = some u := by
  obtain ⟨p', c', e1, _, e3⟩ := h
  cases e1
  obtain ⟨A, e4, e6, e5⟩ := e3 (by intro e; rw [e] at hx; cases hx)
  exact ⟨A, e4, e6, fun f u hu => by rw [add_add]; exact e5 i x hx f u hu⟩
section
variable {ops : Array Oper} {rest : List Oper} {o : Oper} {a : Act} {w : World} {Q : Exit → Act → World → Prop} {d : Nat}
end
theorem actA_one (x : ActL) : (actA x).all (·.oneCell') = true := by simp [actA, Value.oneCell']
theorem actA_size (x : ActL) : (actA x).size = 6 := rfl

theorem bigL_cons : ∀ (i n : Nat), bigL n (i + 1) = (n / 256 ^ i) % 256 :: bigL n i
  | 0, n => by simp [bigL]
  | i + 1, n => by
    have h := bigL_cons i (n / 256)
    rw [show bigL n (i + 1 + 1) = bigL (n / 256) (i + 1) ++ [n % 256] from rfl, h, show bigL n (i + 1) = bigL (n / 256) i ++ [n % 256] from rfl, Nat.div_div_eq_div_mul, Nat.mul_comm 256, ← Nat.pow_succ]
    rfl
def TERM24 : List Nat := [116, 101, 114, 109] ++ List.replicate 20 0
theorem termN_24 (n : Nat) : termN n = TERM24 ++ bigL n 8 := rfl
set_option maxRecDepth 100000 in
set_option maxHeartbeats 1000000 in
theorem rNameD {n : Nat} {w : World} (hn : n < 4611686018427387904) :
    Calls Tryd.prog 58 #[.int .i64 (n : Int)] w fun e w' => e = .returned (.string (strOf (termN n))) ∧ Below w.heap.size w w' := by
  obtain ⟨R, hR⟩ : ∃ R, R = termN n := ⟨_, rfl⟩
  rw [← hR]
  have KR : Kept (R = TERM24 ++ bigL n 8) := ⟨hR⟩
  clear hR
  go_enter Tryd.func58, Tryd.ntmps58
  go_wp2_with fail
  go_loopg [0, 3, 4] 8 (fun k s0 s3 s4 wr => ∃ (m i : Nat) (D : List Nat), s0 = .int .i64 (m : Int) ∧ s3 = .string (strOf D) ∧ s4 = .int .i64 (i : Int) ∧ i + k = 8 ∧ m < 4611686018427387904 ∧ Kept (m = n / 256 ^ i ∧ D = bigL n i) ∧ Below w.heap.size w wr)
  case atStart => exact ⟨n, 0, [], rfl, rfl, rfl, rfl, hn, ⟨by simp, rfl⟩, Below.refl _ _⟩
  case round =>
    rename World => wz
    obtain ⟨m, i, D, rfl, rfl, rfl, hik, hm, KD, HB⟩ := hrel
    by_cases hk0 : gk = 0
    · obtain rfl : i = 8 := by omega
      have hD : Kept (TERM24.length + D.length < 4611686018427387904) := ⟨by rw [KD.out.2, bigL_len]; decide⟩
      have KE : Kept (R = TERM24 ++ D) := ⟨by rw [KR.out, KD.out.2]⟩
      go_wp2_with (first | ((with_reducible refine wv_val (d := 19) ?hd ?hw (.string (strOf R)) ?hr ?_); (case hd => rfl); (case hw => kernel_rfl); (case hr => intro w; exact run_scat (l := TERM24) rfl (by kernel_rfl) (by kernel_rfl) hD.out KE.out w); simp only [Act.put, List.setIfInBounds_toArray, List.set_cons_succ, List.set_cons_zero]))
      go_ret
      exact ⟨rfl, HB⟩
    · have hi8 : (i : Int) < 8 := by omega
      obtain ⟨z, hz⟩ : ∃ z, z = m % 256 := ⟨_, rfl⟩
      obtain ⟨m2, hm2⟩ : ∃ m2, m2 = m / 256 := ⟨_, rfl⟩
      have KZ : Kept _ := ⟨hz⟩
      have K2 : Kept _ := ⟨hm2⟩
      have hz8 : z < 256 := by omega
      have hm2' : m2 < 4611686018427387904 := by omega
      have LD : [z].length + D.length < 4611686018427387904 := by rw [KD.out.2, bigL_len]; simp; omega
      have CE : Kept (z :: D = [z] ++ D) := ⟨rfl⟩
      have KD2 : Kept (m2 = n / 256 ^ (i + 1) ∧ z :: D = bigL n (i + 1)) := ⟨by
        obtain ⟨d1, d2⟩ := KD.out
        refine ⟨by rw [hm2, d1, Nat.div_div_eq_div_mul, ← Nat.pow_succ], ?_⟩
        rw [bigL_cons, ← d1, ← hz, d2]⟩
      have hb1 : Kept (z = z % 256) := ⟨by omega⟩
      clear hz hm2 KD
      go_wp2_with (first | ((with_reducible refine wv_val (d := 10) ?hd ?hw (.int .i64 (z : Int)) ?hr ?_); (case hd => rfl); (case hw => kernel_rfl); (case hr => intro w; exact run_rem256 rfl (by kernel_rfl) KZ.out w); simp only [Act.put, List.setIfInBounds_toArray, List.set_cons_succ, List.set_cons_zero]) | ((with_reducible refine wv_val (d := 11) ?hd ?hw (.int .u8 (z : Int)) ?hr ?_); (case hd => rfl); (case hw => kernel_rfl); (case hr => intro w; exact run_conv38 rfl (by kernel_rfl) hb1.out w); simp only [Act.put, List.setIfInBounds_toArray, List.set_cons_succ, List.set_cons_zero]) | ((with_reducible refine wv_valW (d := 13) ?hd ?hw (.string (strOf [z])) ?hr ?_); (case hd => rfl); (case hw => kernel_rfl); (case hr => exact run_str rfl (by kernel_rfl) (one_bytes z wz)); simp only [Act.put, List.setIfInBounds_toArray, List.set_cons_succ, List.set_cons_zero]) | ((with_reducible refine wv_val (d := 15) ?hd ?hw (.string (strOf (z :: D))) ?hr ?_); (case hd => rfl); (case hw => kernel_rfl); (case hr => intro w; exact run_scat rfl (by kernel_rfl) (by kernel_rfl) LD CE.out w); simp only [Act.put, List.setIfInBounds_toArray, List.set_cons_succ, List.set_cons_zero]) | ((with_reducible refine wv_val (d := 17) ?hd ?hw (.int .i64 (m2 : Int)) ?hr ?_); (case hd => rfl); (case hw => kernel_rfl); (case hr => intro w; exact run_quo256 rfl (by kernel_rfl) K2.out hm w); simp only [Act.put, List.setIfInBounds_toArray, List.set_cons_succ, List.set_cons_zero]))
      go_roundg (gk - 1)
      case measure => omega
      case rel => exact ⟨m2, i + 1, z :: D, rfl, rfl, by simp, by omega, hm2', KD2, HB.trans (((Below.refl _ _).alloc (Nat.le_refl _) _).mono HB.size)⟩

theorem run_gtrK {o : Oper} {a : Act} {x : Operand} {m : Int} {b : Bool} (c : Int) (ho : o.op = .binOp .gtr 3 x (.const (.int .i64 c)) 3) (hx : a.eval x = .int .i64 m) (hb : b = decide (c < m)) (w : World) : (execOp a.eval o).run Tryd.prog w = .ok (.value (.bool b)) w := by
  have e3 : a.eval (.const (.int .i64 c)) = .int .i64 c := rfl
  unfold execOp
  simp only [ho, hx, e3]
  rw [hb]
  simp [go_sem]
theorem run_addW {o : Oper} {a : Act} {x y : Operand} {X : Int} {n : Nat} {Z : Int} (ho : o.op = .binOp .add 3 x y 3) (hx : a.eval x = .int .i64 X) (hy : a.eval y = .int .i64 (n : Int)) (hZ : Z = wrap64 (X + (n : Int))) (w : World) : (execOp a.eval o).run Tryd.prog w = .ok (.value (.int .i64 Z)) w := by
  unfold execOp
  simp only [ho, hx, hy]
  rw [hZ]
  simp [go_sem, IntKind.wrap_i64, wrap64]
/-- What heavy answers: a bool; where it is false there are at most 60 acts. -/
def HeavyE (n : Nat) (e : Ending) : Prop := ∃ b : Bool, e = .returned (.bool b) ∧ (b = false → n ≤ 60)
end Go.Proofs.YtniogaimhkcedaaDoor.sh
/-
  What the document fixes of tables: alive of law 9.
-/
namespace Go.Proofs.YtniogaimhkcedaaDoor.sh
open Go Go.RowKit
set_option linter.unusedVariables false
set_option linter.unusedSimpArgs false

theorem AtomE {tb B : Nat} {ts us : List TermL} {N s : List Nat} {M : Nat → Prop} {S : ByteArray} {w : World} (hT : Tab tb B ts M w) (hs : Bytes s) (hl : s.length ≤ maxLen) (hn : ts.length < 1000000) (hp : putL ts (1, [s]) = (us, N)) (hS : S = strOf s) :
    Calls Tryd.prog 21 #[.pointer (some ⟨tb, 0, none⟩), .string S] w fun e w' => e = .returned (.string (strOf N)) ∧ Puts tb B ts M w us w' := by
  have h := AtomD hT hs hl hn
  rw [hp] at h
  rw [hS]
  exact h

theorem PubE {tb B : Nat} {ts us : List TermL} {N s : List Nat} {M : Nat → Prop} {S : ByteArray} {w : World} (hT : Tab tb B ts M w) (hs : Bytes s) (hl : s.length ≤ maxLen) (hn : ts.length < 1000000) (hp : putL ts (2, [s]) = (us, N)) (hS : S = strOf s) :
    Calls Tryd.prog 24 #[.pointer (some ⟨tb, 0, none⟩), .string S] w fun e w' => e = .returned (.string (strOf N)) ∧ Puts tb B ts M w us w' := by
  have h := PubD hT hs hl hn
  rw [hp] at h
  rw [hS]
  exact h

theorem DhE {tb B : Nat} {ts us : List TermL} {N a b : List Nat} {F : Bool} {M : Nat → Prop} {w : World} (hT : Tab tb B ts M w) (ha : Bytes a) (hb : Bytes b) (hal : a.length ≤ maxLen) (hbl : b.length ≤ maxLen) (hn : ts.length < 1000000) (hd : dhL ts a b = (us, N, F)) :
    Calls Tryd.prog 25 #[.pointer (some ⟨tb, 0, none⟩), .string (strOf a), .string (strOf b)] w fun e w' => e = .returned (.tuple #[.string (strOf N), .bool F]) ∧ Puts tb B ts M w us w' := by
  have h := DhD hT ha hb hal hbl hn
  rw [hd] at h
  exact h
theorem PartsE {tb B : Nat} {ts : List TermL} {k : Nat} {ll : List (List Nat)} {s : List Nat} {M : Nat → Prop} {w : World} (hT : Tab tb B ts M w) (hs : Bytes s) (hl : s.length ≤ maxLen) (hn : ts.length < 1000000) (hx : partX ts s = some (k, ll)) :
    Calls Tryd.prog 27 #[.pointer (some ⟨tb, 0, none⟩), .string (strOf s)] w fun e w' => (∃ V, e = .returned (.tuple #[.int .u8 (k : Int), V, .bool true]) ∧ VRow w.heap.size 9 (strs ll) V w') ∧ Below w.heap.size w w' := by
  have h := PartsD hT hs hl hn
  rw [hx] at h
  exact h
theorem Tab.apart {tb B : Nat} {ts : List TermL} {M : Nat → Prop} {w : World} (h : Tab tb B ts M w) {base : Nat} {e : TypeId} {vs : List Value} {v : Value} {w' : World} (hr : VRow base e vs v w') (hb : w.heap.size ≤ base) : ∀ b, blkOf v = some b → ¬ M b := fun b hb2 hM => by
  have := (hr.range b hb2).1
  have := (h.range hM).2
  omega
def T1 : List TermL := [(1, [[97]])]
def T2 : List TermL := [(1, [[97]]), (1, [[98]])]
def T3 : List TermL := [(1, [[97]]), (1, [[98]]), (2, [termN 1])]
def T4 : List TermL := [(1, [[97]]), (1, [[98]]), (2, [termN 1]), (3, [termN 1, termN 2])]
def T5 : List TermL := [(1, [[97]]), (1, [[98]]), (2, [termN 1]), (3, [termN 1, termN 2]), (2, [termN 2])]
theorem fx1 : putL [] (1, [[97]]) = (T1, termN 1) := by kernel_rfl
theorem fx2 : putL T1 (1, [[98]]) = (T2, termN 2) := by kernel_rfl
theorem fx3 : putL T2 (2, [termN 1]) = (T3, termN 3) := by kernel_rfl
theorem fx4 : dhL T3 (termN 2) (termN 3) = (T4, termN 4, true) := by kernel_rfl
theorem fx5 : putL T4 (2, [termN 2]) = (T5, termN 5) := by kernel_rfl
theorem fx6 : dhL T5 (termN 1) (termN 5) = (T5, termN 4, true) := by kernel_rfl
theorem fx7 : dhL T5 (termN 1) (termN 2) = (T5, [], false) := by kernel_rfl
theorem fx8 : partX T5 (termN 3) = some (2, [termN 1]) := by kernel_rfl
theorem fx9 : putL T5 (1, [[97]]) = (T5, termN 1) := by kernel_rfl
theorem termN_max (n : Nat) : (termN n).length ≤ maxLen := by rw [termN_len]; decide
end Go.Proofs.YtniogaimhkcedaaDoor.sh
/-
  TermNobody.
-/
namespace Go.Proofs.YtniogaimhkcedaaDoor.sh
open Go Go.RowKit
set_option linter.unusedVariables false
set_option linter.unusedSimpArgs false

/-- The i-th of the two. -/
def nobAt (b : Nat) : Nat → Option Addr
  | 0 => none
  | _ => some ⟨b, 0, none⟩
theorem nob_cell {w : World} {g b i : Nat} (h : Blk w g 25 #[.pointer none, .pointer (some ⟨b, 0, none⟩)]) (hi : i < 2) : w.cell? ⟨g, i, none⟩ = some (.pointer (nobAt b i)) := by
  refine h.cell ?_
  match i, hi with
  | 0, _ => rfl
  | 1, _ => rfl
theorem nob_at {w : World} {b : Nat} (h : Blk w b 78 #[.map none, .slice none 0 0]) : ∀ i, Nobody (nobAt b i) w
  | 0 => .inl rfl
  | _ + 1 => .inr ⟨b, rfl, h⟩
end Go.Proofs.YtniogaimhkcedaaDoor.sh
/-
  What an act picks: made$1; calls of a closure.
-/
namespace Go.Proofs.YtniogaimhkcedaaDoor.sh
open Go Go.RowKit
set_option linter.unusedVariables false
set_option linter.unusedSimpArgs false

def pickN (N : Nat) (x : ActL) (n : Nat) : List Nat := if x.raw = true ∨ N = 0 then x.s else termN (n % N + 1)
theorem pickN_L (ts : List TermL) (x : ActL) (n : Nat) : pickL ts x n = pickN ts.length x n := rfl
section
variable {P : Program} {ops : Array Oper} {Q : Exit → Act → World → Prop} {a : Act} {w : World} {rest : List Oper} {o : Oper}
/-- A call of a closure in a plain list, by its contract. -/
theorem wl_callV (hgd : o.guard = none) (f : Nat) (fn : Func) (c : Code) (x : Operand) (xs : List Operand) (ts : Array TypeId) (cap args : Array Value) (ho : o.op = .call { callee := .value x, args := xs.toArray, argTypes := ts }) (hv : a.eval x = .func (.func f) #[] cap) (hx : (xs.map a.eval).toArray ++ cap = args) (hf : P.funcs[f]? = some fn) (hname : (fn.name == "runtime.NumGoroutine") = false) (hb : fn.body = some c) {R : World → Prop} (v : Value)
    (hc : Calls P f args w fun e w' => e = .returned v ∧ R w') (h : ∀ w', R w' → wpList P ops Q rest (a.put o.dst v) w') : wpList P ops Q (o :: rest) a w :=
  wpList_plain hgd fun K hK => by
    have h1 : fn.name ≠ "runtime.NumGoroutine" := by simpa using hname
    have hrun : (execOp a.eval o).run P w = .ok (.enter f args) w := by
      rw [← hx]
      unfold execOp
      simp only [ho, resolve, List.map_toArray, hv]
      simp [Deferred.ofValue, invoke, callFunc, hf, h1, hb]
    unfold Oper.wp
    rw [hrun]
    simp only [Oper.upon]
    refine hc.mono fun e w' hh => ?_
    obtain ⟨rfl, hR⟩ := hh
    exact hK _ _ (h w' hR)
end
section
variable {P : Program} {h : List Oper} {A0 A : Act} {W0 : World} {S : Nat → Option (Value → World → Prop)} {sp O : List Nat} {E : List (Nat × Nat)} {i : Nat} {o : Oper}
/-- A call of a closure of known values with a known answer, in a region that draws its order. -/
theorem ow_callV (hA : Full h A0 A S sp) (hw : Wants h A0 A S O E W0.heap.size i o) (d : Nat) (v : Value) (hdet : detE h sp E i o = true) (hsel : notSel o = true) (hd : o.dst = some d) (hds : sp.contains d = false) (hO : O.contains d = false) (hv : A.tmps[d]? = some v) (f : Nat) (fn : Func) (c : Code) (x : Operand) (args : List Operand) (ts : Array TypeId) (cap : Array Value) (vs : List Value) (ho : o.op = .call { callee := .value x, args := args.toArray, argTypes := ts })
    (hx : A.eval x = .func (.func f) #[] cap) (hargs : (args.map A.eval).toArray ++ cap = vs.toArray) (hf : P.funcs[f]? = some fn) (hname : (fn.name == "runtime.NumGoroutine") = false) (hb : fn.body = some c)
    (hc : ∀ w, Below W0.heap.size W0 w → Calls P f vs.toArray w fun e w' => e = .returned v ∧ Below w.heap.size w w') : OwnOk P h A0 W0 (relR A S) O E i o :=
  ow_q hA hdet hsel hw d v hd hds hO hv fun w hw => by
    have h1 : fn.name ≠ "runtime.NumGoroutine" := by simpa using hname
    have hrun : (execOp A.eval o).run P w = .ok (.enter f vs.toArray) w := by
      rw [← hargs]
      unfold execOp
      simp only [ho, resolve, List.map_toArray, hx]
      simp [Deferred.ofValue, invoke, callFunc, hf, h1, hb]
    unfold Oper.quietAt
    rw [hrun]
    exact ⟨rfl, hc w hw⟩
end
end Go.Proofs.YtniogaimhkcedaaDoor.sh
/-
  Regions that draw their order, whose last operations come in more than one order too: behind the head they are walked order by order.
-/
namespace Go.Proofs.YtniogaimhkcedaaDoor
open Go Go.RowKit
set_option linter.unusedVariables false
set_option linter.unusedSimpArgs false
/-- The post of the head: behind it the tail is walked, in whatever order. -/
def headPostX (P : Program) (F : Array Oper) (Q : Exit → Act → World → Prop) (k m : Nat) : Exit → Act → World → Prop
  | .normal, a, w => wpAny P .any F Q m (Array.replicate k true ++ Array.replicate m false) a w
  | e, a, w => Q e a w
theorem upon_headPostX {P : Program} {F : Array Oper} {Q : Exit → Act → World → Prop} {k m : Nat} {o : Oper} {a : Act} {w : World} {K K' : Act → World → Prop} (hK : ∀ a w, K a w → K' a w)
    (h : o.wp P a w K (headPostX P F Q k m)) : o.wp P a w K' Q := by
  unfold Oper.wp at *
  generalize (execOp a.eval o).run P w = r at *
  cases r with
  | ok x w' =>
    cases x with
    | value v => exact hK _ _ h
    | skip => exact hK _ _ h
    | defer d => exact hK _ _ h
    | enter f args =>
      refine Calls.mono h ?_
      intro e w'' hr
      cases e with
      | returned v => exact hK _ _ hr
      | panicked c => exact hr
      | outgrown => exact hr
    | row r args => exact Rows.mono h fun v w'' hr => hK _ _ hr
    | _ => exact h
  | halt x w' =>
    cases x <;> exact h


section
variable {P : Program} {Q : Exit → Act → World → Prop} {h t : List Oper}
theorem lift_underX (hE : edgesIn h = true) (hG : guardsIn h = true) (hT : tailUnder h t = true) :
    ∀ (f : Nat) (listed : Array Bool) (a : Act) (w : World), listed.size = h.length → open_ listed = f → Closed h listed →
      wpAny P .any h.toArray (headPostX P (h ++ t).toArray Q h.length t.length) f listed a w → wpAny P .any (h ++ t).toArray Q (f + t.length) (listed ++ Array.replicate t.length false) a w := by
  intro f
  induction f with
  | zero =>
    intro listed a w hs ho hc H
    have e := all_true ho
    rw [hs] at e
    rw [Nat.zero_add, e]
    exact H.2
  | succ f ih =>
    intro listed a w hs ho hc H
    obtain ⟨i0, hi0, hlow⟩ := least_open (listed := listed) (by omega)
    have hi0s : i0 < listed.size := by
      rcases Nat.lt_or_ge i0 listed.size with h' | h'
      · exact h'
      · simp [Array.getElem?_eq_none h'] at hi0
    rw [show f + 1 + t.length = (f + t.length) + 1 by omega]
    refine ⟨fun h0 => ?_, fun i hi => ?_⟩
    · have : i0 ∈ Region.ready .any (h ++ t).toArray (listed ++ Array.replicate t.length false) := by
        rw [mem_ready]
        have hih : i0 < h.length := by omega
        refine ⟨by rw [getD_app true hi0s]; exact hi0, h[i0], by simp [List.getElem?_append_left hih], fun e he hb => ?_⟩
        have := edge_lt hE (List.getElem?_eq_getElem hih) he hb
        rw [getD_app false (by omega)]
        exact hlow _ this
      rw [h0] at this
      cases this
    · obtain ⟨hun, o, hoo, hall⟩ := mem_ready.1 hi
      have hih : i < h.length := by
        rcases Nat.lt_or_ge i h.length with h' | h'
        · exact h'
        · exfalso
          have hot : o ∈ t := by
            simp [List.getElem?_append_right h'] at hoo
            exact List.mem_of_getElem? hoo
          have hseed : ∀ e ∈ o.after, Region.binds .any e = true → e.on < listed.size ∧ listed.getD e.on false = true := by
            intro e he hb
            have h2 := hall e he hb
            rcases Nat.lt_or_ge e.on listed.size with h3 | h3
            · exact ⟨h3, by rwa [getD_app false h3] at h2⟩
            · rw [app_ge h3] at h2; cases h2
          have h1 := List.all_eq_true.1 hT o hot
          rcases Bool.or_eq_true_iff.1 h1 with h1 | h1
          · obtain ⟨e, he, hbe⟩ := Array.any_eq_true'.1 h1
            simp only [Bool.and_eq_true, decide_eq_true_eq] at hbe
            have := (hseed e he hbe.1).1
            omega
          · have h2 := List.all_eq_true.1 h1 i0 (List.mem_range.2 (by omega))
            have h3 := under_listed hc h.length ((o.after.toList.filter (Region.binds .any)).map (·.on)) (fun j hj => by
              obtain ⟨e, he, rfl⟩ := List.mem_map.1 hj
              obtain ⟨he1, he2⟩ := List.mem_filter.1 he
              exact (hseed e (by simpa using he1) he2).2) i0 (by simpa using h2)
            simp [hi0s] at hi0 h3
            rw [hi0] at h3
            cases h3
      have hoh : h[i]? = some o := by simpa [List.getElem?_append_left hih] using hoo
      have hun' : listed.getD i true = false := by rw [getD_app true (by omega)] at hun; exact hun
      have hall' : ∀ e ∈ o.after, Region.binds .any e = true → listed.getD e.on false = true := fun e he hb => by
        have hlt := edge_lt hE hoh he hb
        have := hall e he hb
        rwa [getD_app false (by omega)] at this
      have hr : i ∈ Region.ready .any h.toArray listed := by
        rw [mem_ready]
        exact ⟨hun', o, by simpa using hoh, hall'⟩
      have H1 := H.2 i hr
      have hK : ∀ a' w', wpAny P .any h.toArray (headPostX P (h ++ t).toArray Q h.length t.length) f (listed.setIfInBounds i true) a' w' → wpAny P .any (h ++ t).toArray Q (f + t.length) ((listed ++ Array.replicate t.length false).setIfInBounds i true) a' w' := by
        intro a' w' hh
        rw [set_app (by omega)]
        exact ih _ a' w' (by simpa using hs) (by have := open_set hun'; omega) (closed_set hc hoh hall') hh
      unfold wpOp at H1 ⊢
      have ho' : h.toArray[i]? = some o := by simpa using hoh
      simp only [hoo, ho'] at H1 ⊢
      rw [wanted_head hG (List.mem_of_getElem? hoh)]
      split
      · rename_i hw
        simp only [hw, if_true] at H1
        rcases H1 with H1 | ⟨h1, h2⟩
        · exact .inl (upon_headPostX hK H1)
        · exact .inr ⟨h1, h2⟩
      · rename_i hw
        simp only [hw] at H1
        exact hK _ _ H1


end
end Go.Proofs.YtniogaimhkcedaaDoor
namespace Go.Proofs.YtniogaimhkcedaaDoor.sh
open Go Go.RowKit
set_option linter.unusedVariables false
set_option linter.unusedSimpArgs false
/-- A region that draws its order: each of the first n operations makes a value of which R holds; owners' blocks are apart; the last operations wait for all of those. -/
theorem region_ownX {P : Program} {Q : Exit → Act → World → Prop} {id : Nat} {a : Act} {w : World} (W0 : World) (n : Nat) {l : List Oper} (R : Nat → Value → World → Prop) (O : List Nat) (E : List (Nat × Nat)) (ds : List Nat) (hm : P.follows .mixedOrders = true)
    (hE : edgesIn (l.take n) = true) (hG : guardsIn (l.take n) = true) (hA : dstsApart (l.take n) 0 = true) (hI : dstsIn (l.take n) a.tmps.size = true) (hT : tailUnder (l.take n) (l.drop n) = true)
    (hEw : (E.all fun q => O.contains q.2 && match (l.take n)[q.1]? with | some o => waitsFor (l.take n) o q.2 | none => false) = true) (hEn : apartB (E.map (·.2)) = true)
    (hds : dstsOf (l.take n) = ds)
    (hst1 : ∀ d v w w', O.contains d = false → R d v w → Below W0.heap.size W0 w → Below W0.heap.size w w' → (E = [] → Below w.heap.size w w') → R d v w')
    (hst2 : ∀ d v w w' row, O.contains d = true → R d v w → w.grownBy w' row → (blkOf v = none ∨ blkOf v ≠ row) → (∀ b, blkOf v = some b → b < w.heap.size) → R d v w') (hw : Below W0.heap.size W0 w)
    (hok : OwnAll P (l.take n) a W0 R O E 0 (l.take n))
    (hfin : ∀ (f : Nat → Value) w', (∀ d ∈ ds, d ∉ E.map (·.2) → R d (f d) w' ∧ (O.contains d = true → ∀ b, blkOf (f d) = some b → W0.heap.size ≤ b ∧ b < w'.heap.size)) →
      (∀ d ∈ ds, ∀ d' ∈ ds, d ∉ E.map (·.2) → d' ∉ E.map (·.2) → O.contains d = true → O.contains d' = true → d ≠ d' → ∀ b, blkOf (f d) = some b → blkOf (f d') ≠ some b) → Below W0.heap.size W0 w' →
      wpAny P .any l.toArray Q (l.drop n).length (Array.replicate (l.take n).length true ++ Array.replicate (l.drop n).length false) (putR a (ds.map fun d => (d, f d))) w') : (Code.region id l.toArray true).wp P Q a w := by
  have e : l.take n ++ l.drop n = l := List.take_append_drop n l
  refine wp_region_any hm ?_
  generalize hh : l.take n = h at *
  have hEw' : ∀ q ∈ E, O.contains q.2 = true ∧ ∃ o, h[q.1]? = some o ∧ waitsFor h o q.2 = true := fun q hq => by
    have := List.all_eq_true.1 hEw q hq
    simp only [Bool.and_eq_true] at this
    refine ⟨this.1, ?_⟩
    cases ho : h[q.1]? with
    | none => simp [ho] at this
    | some o => exact ⟨o, rfl, by simpa [ho] using this.2⟩
  have main := wpAny_inv (P := P) (l := h) (Q := headPostX P (h ++ l.drop n).toArray Q h.length (l.drop n).length)
    (fun listed a' w' => Fr h a a' ∧ Below W0.heap.size W0 w' ∧ (∀ d, Liv h E listed d → ∃ v, a'.tmps[d]? = some v ∧ R d v w' ∧ (O.contains d = true → ∀ b, blkOf v = some b → W0.heap.size ≤ b ∧ b < w'.heap.size)) ∧
      ∀ d d', Liv h E listed d → Liv h E listed d' → O.contains d = true → O.contains d' = true → d ≠ d' → ∀ b, (a'.tmps[d]?).bind blkOf = some b → (a'.tmps[d']?).bind blkOf ≠ some b) hE
    (by
      intro listed a' w' i o hls hI' ho hun hall
      obtain ⟨hF, hB, hV, hD⟩ := hI'
      have hil : i < listed.size := by rw [hls]; exact (List.getElem?_eq_some_iff.1 ho).1
      have hun' : listed.getD i false = false := by simpa [hil] using hun
      obtain ⟨d, hd, hrun⟩ := by have := ownAll_get h 0 hok i o ho; rwa [Nat.zero_add] at this
      have hson : ∀ k, (listed.setIfInBounds i true).getD k false = if k = i then true else listed.getD k false := fun k => by
        by_cases hk : k = i
        · subst hk; simp [hil]
        · rw [if_neg hk, getD_set_ne false (Ne.symm hk)]
      have hlist : ∀ s, waitsFor h o s = true → ∃ (j : Nat) (o' : Oper), h[j]? = some o' ∧ listed.getD j false = true ∧ o'.dst = some s := fun s hs => by
        obtain ⟨x, hx, h1⟩ := Array.any_eq_true'.1 hs
        simp only [Bool.and_eq_true] at h1
        cases ho' : h[x.on]? with
        | none => simp [ho'] at h1
        | some o' => exact ⟨x.on, o', ho', hall x hx h1.1, by simpa [ho'] using h1.2⟩
      have hgot : GotE h E R O W0.heap.size i a' w' o := fun s hs hq => hV s ⟨hlist s hs, fun q hq' he => by
        have := List.all_eq_true.1 hq q hq'
        simp only [he, bne_self_eq_false, Bool.false_or, beq_iff_eq] at this
        rw [this]
        exact hun'⟩
      have hSe : ∀ s, (i, s) ∈ E → Liv h E listed s ∧ O.contains s = true := fun s hs => by
        obtain ⟨h1, o', h2, h3⟩ := hEw' _ hs
        rw [ho] at h2
        cases h2
        refine ⟨⟨hlist s h3, fun q hq he => ?_⟩, h1⟩
        have := apart_eq E hEn q hq (i, s) hs he
        rw [this]
        exact hun'
      obtain ⟨hwant, hwp⟩ := hrun a' w' hF hB hgot
      refine ⟨hwant, wp_false ?_ hwp⟩
      rintro a2 w2 ⟨v, row, rfl, hR, hg, hrow, hblk⟩
      have hdl : d < a'.tmps.size := by
        have := List.all_eq_true.1 hI o (List.mem_of_getElem? ho)
        rw [hd] at this
        rw [hF.size]
        simpa using this
      have hother : ∀ d', d' ≠ d → (a'.put (some d) v).tmps[d']? = a'.tmps[d']? := fun d' hne => by simp [Act.put, Array.getElem?_setIfInBounds_ne (Ne.symm hne)]
      have hself : (a'.put (some d) v).tmps[d]? = some v := by simp [Act.put, hdl]
      have hrange : ∀ s, (i, s) ∈ E → ∀ b, (a'.tmps[s]?).bind blkOf = some b → W0.heap.size ≤ b ∧ b < w'.heap.size := fun s hs b hb => by
        obtain ⟨h1, h2⟩ := hSe s hs
        obtain ⟨u, e1, _, e3⟩ := hV s h1
        rw [e1] at hb
        exact e3 h2 b hb
      have hBw : Below W0.heap.size w' w2 := grown_mono hg hB.size (fun b hb => by
        obtain ⟨s, hs, hb'⟩ := hrow b hb
        exact (hrange s hs b hb').1)
      have hold : ∀ d', Liv h E (listed.setIfInBounds i true) d' → d' ≠ d → Liv h E listed d' := fun d' hL hne => by
        obtain ⟨⟨j, o', h1, h2, h3⟩, h4⟩ := hL
        refine ⟨⟨j, o', h1, ?_, h3⟩, fun q hq he => ?_⟩
        · rw [hson j] at h2
          split at h2
          · next hji => subst hji; rw [ho] at h1; cases h1; rw [hd] at h3; exact absurd (Option.some.inj h3).symm hne
          · exact h2
        · have := h4 q hq he
          rw [hson q.1] at this
          split at this
          · cases this
          · exact this
      have hne_s : ∀ s d', (i, s) ∈ E → Liv h E (listed.setIfInBounds i true) d' → s ≠ d' := fun s d' hs hL he => by
        have := hL.2 (i, s) hs he
        rw [hson i, if_pos rfl] at this
        cases this
      refine ⟨⟨by rw [size_put]; exact hF.size, hF.defers, fun d' h' => ?_⟩, hB.trans hBw, fun d' hL => ?_, fun d1 d2 hL1 hL2 hO1 hO2 hne b hb1 hb2 => ?_⟩
      · rw [hother d' (fun e2 => h' i o ho (by rw [hd, e2]))]
        exact hF.out d' h'
      · by_cases hdd : d' = d
        · subst hdd
          refine ⟨v, hself, hR, fun hO b hb => ?_⟩
          rcases hblk hO b hb with ⟨h1, h2⟩ | ⟨s, hs, hb'⟩
          · exact ⟨Nat.le_trans hB.size h1, h2⟩
          · have := hrange s hs b hb'
            exact ⟨this.1, Nat.lt_of_lt_of_le this.2 hg.size⟩
        · have hL' := hold d' hL hdd
          obtain ⟨u, e1, e2, e3⟩ := hV d' hL'
          refine ⟨u, by rw [hother d' hdd]; exact e1, ?_, fun hO b hb => ⟨(e3 hO b hb).1, Nat.lt_of_lt_of_le (e3 hO b hb).2 hg.size⟩⟩
          cases hO : O.contains d' with
          | false => exact hst1 d' u w' w2 hO e2 hB hBw (fun hE0 => grown_empty hg (fun b hb => by obtain ⟨s, hs, _⟩ := hrow b hb; rw [hE0] at hs; cases hs))
          | true =>
            refine hst2 d' u w' w2 row hO e2 hg ?_ (fun b hb => (e3 hO b hb).2)
            cases hb : blkOf u with
            | none => exact .inl rfl
            | some b =>
              refine .inr fun hr => ?_
              obtain ⟨s, hs, hb'⟩ := hrow b hr.symm
              obtain ⟨h1, h2⟩ := hSe s hs
              exact hD s d' h1 hL' h2 hO (hne_s s d' hs hL) b hb' (by rw [e1]; exact hb)
      · by_cases h1 : d1 = d
        · subst h1
          have h2 : d2 ≠ d1 := Ne.symm hne
          have hL2' := hold d2 hL2 h2
          rw [hother d2 h2] at hb2
          rw [hself] at hb1
          rcases hblk hO1 b hb1 with ⟨h3, _⟩ | ⟨s, hs, hb'⟩
          · obtain ⟨u, e1, _, e3⟩ := hV d2 hL2'
            rw [e1] at hb2
            have := (e3 hO2 b hb2).2
            omega
          · obtain ⟨h4, h5⟩ := hSe s hs
            exact hD s d2 h4 hL2' h5 hO2 (hne_s s d2 hs hL2) b hb' hb2
        · have hL1' := hold d1 hL1 h1
          rw [hother d1 h1] at hb1
          by_cases h2 : d2 = d
          · subst h2
            rw [hself] at hb2
            rcases hblk hO2 b hb2 with ⟨h3, _⟩ | ⟨s, hs, hb'⟩
            · obtain ⟨u, e1, _, e3⟩ := hV d1 hL1'
              rw [e1] at hb1
              have := (e3 hO1 b hb1).2
              omega
            · obtain ⟨h4, h5⟩ := hSe s hs
              exact hD s d1 h4 hL1' h5 hO1 (hne_s s d1 hs hL1) b hb' hb1
          · rw [hother d2 h2] at hb2
            exact hD d1 d2 hL1' (hold d2 hL2 h2) hO1 hO2 hne b hb1 hb2)
    (by
      intro a' w' hI'
      obtain ⟨hF, hB, hV, hD⟩ := hI'
      have hliv : ∀ d ∈ ds, d ∉ E.map (·.2) → Liv h E (Array.replicate h.length true) d := fun d hd hn => by
        rw [← hds] at hd
        obtain ⟨o, ho, hd'⟩ := List.mem_filterMap.1 hd
        obtain ⟨i, hi, he⟩ := List.getElem_of_mem ho
        exact ⟨⟨i, o, by rw [List.getElem?_eq_getElem hi, he], by simp [hi], hd'⟩, fun q hq he => absurd (List.mem_map.2 ⟨q, hq, he⟩) hn⟩
      have hsome : ∀ d ∈ ds, ∃ v, a'.tmps[d]? = some v := fun d hd => by
        rw [← hds] at hd
        obtain ⟨o, ho, hd'⟩ := List.mem_filterMap.1 hd
        have := List.all_eq_true.1 hI o ho
        rw [hd'] at this
        exact ⟨_, Array.getElem?_eq_getElem (by rw [hF.size]; simpa using this)⟩
      have hfr := hfin (fun d => (a'.tmps[d]?).getD undef) w' (fun d hd hn => by obtain ⟨v, h1, h2⟩ := hV d (hliv d hd hn); simp only [h1, Option.getD_some]; exact h2)
        (fun d hd d' hd' hn hn' hO hO' hne b hb hb' => by
          obtain ⟨v, h1, _⟩ := hV d (hliv d hd hn)
          obtain ⟨v', h1', _⟩ := hV d' (hliv d' hd' hn')
          simp only [h1, h1', Option.getD_some] at hb hb'
          exact hD d d' (hliv d hd hn) (hliv d' hd' hn') hO hO' hne b (by rw [h1]; exact hb) (by rw [h1']; exact hb')) hB
      have ea : a' = putR a (ds.map fun d => (d, (a'.tmps[d]?).getD undef)) := by
        refine act_eq (Array.ext_getElem? fun d => ?_) (by rw [putR_defers]; exact hF.defers)
        by_cases hdl : d < a.tmps.size
        · rw [putR_get (fun d => (a'.tmps[d]?).getD undef) d ds a hdl]
          by_cases hd : d ∈ ds
          · rw [if_pos hd]
            obtain ⟨v, h1⟩ := hsome d hd
            simp [h1]
          · rw [if_neg hd]
            refine hF.out d fun i o ho hd' => hd ?_
            rw [← hds]
            exact List.mem_filterMap.2 ⟨o, List.mem_of_getElem? ho, hd'⟩
        · rw [Array.getElem?_eq_none (by rw [hF.size]; omega), Array.getElem?_eq_none (by rw [putR_size]; omega)]
      rw [← ea] at hfr
      show wpAny P .any (h ++ l.drop n).toArray Q (l.drop n).length (Array.replicate h.length true ++ Array.replicate (l.drop n).length false) a' w'
      rw [e]
      exact hfr)
    h.length (Array.replicate h.length false) a { w with drawn := w.drawn + 1 } (by simp) (by simp [open_])
    ⟨⟨rfl, rfl, fun _ _ => rfl⟩, hw.drew, fun d hL => by
      exfalso
      obtain ⟨⟨i, o, _, hon, _⟩, _⟩ := hL
      rw [Array.getD_eq_getD_getElem?, Array.getElem?_replicate] at hon
      split at hon <;> simp at hon, fun d d' hL => by
      exfalso
      obtain ⟨⟨i, o, _, hon, _⟩, _⟩ := hL
      rw [Array.getD_eq_getD_getElem?, Array.getElem?_replicate] at hon
      split at hon <;> simp at hon⟩
  have h3 := lift_underX (Q := Q) hE hG hT h.length (Array.replicate h.length false) a _ (by simp) (by simp [open_]) (closed_none _) main
  rw [e] at h3
  have e1 : l.toArray.size = h.length + (l.drop n).length := by rw [← List.length_append, e]; simp
  rw [e1, show Array.replicate (h.length + (l.drop n).length) false = Array.replicate h.length false ++ Array.replicate (l.drop n).length false by simp]
  exact h3
theorem region_ownXL {P : Program} {Q : Exit → Act → World → Prop} {id : Nat} {a : Act} {w : World} (W0 : World) (n : Nat) {l : List Oper} (vals : List (Nat × Value)) (L : List (Nat × (Value → World → Prop))) (O : List Nat) (E : List (Nat × Nat)) (hm : P.follows .mixedOrders = true)
    (hE : edgesIn (l.take n) = true) (hG : guardsIn (l.take n) = true) (hA : dstsApart (l.take n) 0 = true) (hI : dstsIn (l.take n) a.tmps.size = true) (hT : tailUnder (l.take n) (l.drop n) = true)
    (hv : (vals.all fun p => (dstsOf (l.take n)).contains p.1) = true) (hsp : ((L.map (·.1)).all fun d => (dstsOf (l.take n)).contains d) = true) (hO : (O.all fun d => (L.map (·.1)).contains d) = true)
    (hEw : (E.all fun q => O.contains q.2 && match (l.take n)[q.1]? with | some o => waitsFor (l.take n) o q.2 | none => false) = true) (hEn : apartB (E.map (·.2)) = true)
    (hst1 : ∀ q ∈ L, O.contains q.1 = false → ∀ (v : Value) (w w' : World), q.2 v w → Below W0.heap.size W0 w → Below W0.heap.size w w' → (E = [] → Below w.heap.size w w') → q.2 v w')
    (hst2 : ∀ q ∈ L, O.contains q.1 = true → ∀ (v : Value) (w w' : World) (row : Option Nat), q.2 v w → w.grownBy w' row → (blkOf v = none ∨ blkOf v ≠ row) → (∀ b, blkOf v = some b → b < w.heap.size) → q.2 v w') (hw : Below W0.heap.size W0 w)
    (hok : Full (l.take n) a (putR a vals) (specOf L) (L.map (·.1)) → OwnAll P (l.take n) a W0 (relR (putR a vals) (specOf L)) O E 0 (l.take n))
    (hfin : ∀ (f : Nat → Value) w', (∀ d p, specOf L d = some p → (E.map (·.2)).contains d = false → p (f d) w' ∧ (O.contains d = true → ∀ b, blkOf (f d) = some b → W0.heap.size ≤ b ∧ b < w'.heap.size)) →
      (∀ d d', O.contains d = true → O.contains d' = true → (E.map (·.2)).contains d = false → (E.map (·.2)).contains d' = false → d ≠ d' → ∀ b, blkOf (f d) = some b → blkOf (f d') ≠ some b) → Below W0.heap.size W0 w' →
      wpAny P .any l.toArray Q (l.drop n).length (Array.replicate (l.take n).length true ++ Array.replicate (l.drop n).length false) (putR (putR a vals) ((L.map (·.1)).map fun d => (d, f d))) w') : (Code.region id l.toArray true).wp P Q a w := by
  have hfull : Full (l.take n) a (putR a vals) (specOf L) (L.map (·.1)) := full_put vals hv (specOf_none L)
  have hOL : ∀ d, O.contains d = true → d ∈ L.map (·.1) := fun d hd => List.contains_iff_mem.1 (List.all_eq_true.1 hO d (List.contains_iff_mem.1 hd))
  have hEO : ∀ d, d ∈ E.map (·.2) → d ∈ L.map (·.1) := fun d hd => by
    obtain ⟨q, hq, rfl⟩ := List.mem_map.1 hd
    have := List.all_eq_true.1 hEw q hq
    simp only [Bool.and_eq_true] at this
    exact hOL _ this.1
  have hin : ∀ d, d ∈ L.map (·.1) → d ∈ dstsOf (l.take n) := fun d hd => List.contains_iff_mem.1 (List.all_eq_true.1 hsp d hd)
  have hnc : ∀ d, (E.map (·.2)).contains d = false → d ∉ E.map (·.2) := fun d h hm => by rw [List.contains_iff_mem.2 hm] at h; cases h
  refine region_ownX W0 n (relR (putR a vals) (specOf L)) O E _ hm hE hG hA hI hT hEw hEn rfl ?_ ?_ hw (hok hfull) ?_
  · intro d v w w' hd h1 h2 h3 h9
    unfold relR at *
    cases hs : specOf L d with
    | none => rw [hs] at h1; exact h1
    | some p =>
      rw [hs] at h1
      obtain ⟨q, hq, rfl, rfl⟩ := specOf_mem' L d p hs
      exact hst1 q hq hd v w w' h1 h2 h3 h9
  · intro d v w w' row hd h1 h2 h3 h4
    unfold relR at *
    cases hs : specOf L d with
    | none => rw [hs] at h1; exact h1
    | some p =>
      rw [hs] at h1
      obtain ⟨q, hq, rfl, rfl⟩ := specOf_mem' L d p hs
      exact hst2 q hq hd v w w' row h1 h2 h3 h4
  · intro f w' hf hD hb
    have e : putR a ((dstsOf (l.take n)).map fun d => (d, f d)) = putR (putR a vals) ((L.map (·.1)).map fun d => (d, f d)) := by
      refine act_eq (Array.ext_getElem? fun d => ?_) (by rw [putR_defers, putR_defers, putR_defers])
      rw [putR_get', putR_get', putR_size]
      by_cases hd : d < a.tmps.size
      · rw [if_pos hd, if_pos hd]
        by_cases h1 : d ∈ dstsOf (l.take n)
        · rw [if_pos h1]
          by_cases h2 : d ∈ L.map (·.1)
          · rw [if_pos h2]
          · rw [if_neg h2]
            have := (hf d h1 (fun h3 => h2 (hEO d h3))).1
            unfold relR at this
            rw [hfull.spec d h2] at this
            exact this.symm
        · rw [if_neg h1, if_neg (fun h2 => h1 (hin d h2))]
          refine (hfull.out d fun i o ho hdo => h1 ?_).symm
          exact List.mem_filterMap.2 ⟨o, List.mem_of_getElem? ho, hdo⟩
      · rw [if_neg hd, if_neg hd]
    rw [e]
    refine hfin f w' (fun d p hp hn => ?_) (fun d d' h1 h2 h3 h4 h5 => hD d (hin d (hOL d h1)) d' (hin d' (hOL d' h2)) (hnc d h3) (hnc d' h4) h1 h2 h5) hb
    by_cases hd : d ∈ L.map (·.1)
    · have := hf d (hin d hd) (hnc d hn)
      unfold relR at this
      rw [hp] at this
      exact this
    · rw [specOf_none L d hd] at hp
      cases hp


end Go.Proofs.YtniogaimhkcedaaDoor.sh
/-
  What an act makes of a table.
-/
namespace Go.Proofs.YtniogaimhkcedaaDoor.sh
open Go Go.RowKit
set_option linter.unusedVariables false
set_option linter.unusedSimpArgs false

theorem wv_valS {ops : Array Oper} {rest : List Oper} {o : Oper} {a : Act} {w : World} {Q : Exit → Act → World → Prop} {d : Nat} (hd : o.dst = some d) (hw : Region.wanted o (yielded ops a.tmps) = true) (v : Value) (hrun : ∀ w, (execOp a.eval o).run Tryd.prog w = .ok (.value v) w) (h : wpList Tryd.prog ops Q rest (a.put (some d) v) w) : wpList Tryd.prog ops Q (o :: rest) a w :=
  wv_val hd hw v hrun (by rw [hd]; exact h)
theorem wl_callS {ops : Array Oper} {rest : List Oper} {o : Oper} {a : Act} {w : World} {Q : Exit → Act → World → Prop} {d : Nat} (hd : o.dst = some d) (hgd : o.guard = none) (f : Nat) (fn : Func) (c : Code) (xs : List Operand) (ts : Array TypeId) (args : Array Value) (ho : o.op = .call { callee := .value (.func f), args := xs.toArray, argTypes := ts }) (hx : (xs.map a.eval).toArray = args) (hf : Tryd.prog.funcs[f]? = some fn) (hname : (fn.name == "runtime.NumGoroutine") = false) (hb : fn.body = some c) {R : Value → World → Prop}
    (hc : Calls Tryd.prog f args w fun e w' => ∃ v, e = .returned v ∧ R v w') (h : ∀ v w', R v w' → wpList Tryd.prog ops Q rest (a.put (some d) v) w') : wpList Tryd.prog ops Q (o :: rest) a w :=
  wl_callC hgd f fn c xs ts args ho hx hf hname hb hc (fun v w' hR => by rw [hd]; exact h v w' hR)
theorem run_remU5 {o : Oper} {a : Act} {x : Operand} {m z : Nat} (ho : o.op = .binOp .rem 5 x (.const (.int .u8 5)) 5) (hx : a.eval x = .int .u8 (m : Int)) (hz : z = m % 5) (w : World) : (execOp a.eval o).run Tryd.prog w = .ok (.value (.int .u8 (z : Int))) w := by
  have e3 : a.eval (.const (.int .u8 5)) = .int .u8 5 := rfl
  have h3 : (m : Int).tmod 5 = (z : Int) := by rw [Int.tmod_eq_emod_of_nonneg (by omega)]; omega
  have h4 : (z : Int) % 256 = (z : Int) := by omega
  unfold execOp
  simp only [ho, hx, e3]
  simp [go_sem, IntKind.wrap_u8', h3, h4]
theorem actL_atom {ts : List TermL} {x : ActL} (h : x.kind % 5 = 0) : actL ts x = ((putL ts (1, [x.s])).1, (putL ts (1, [x.s])).2, decide ((putL ts (1, [x.s])).2 ≠ [])) := by
  unfold actL
  simp [h]
theorem actL_pub {ts : List TermL} {x : ActL} (h : x.kind % 5 = 1) : actL ts x = ((putL ts (2, [pickN ts.length x x.a])).1, (putL ts (2, [pickN ts.length x x.a])).2, decide ((putL ts (2, [pickN ts.length x x.a])).2 ≠ [])) := by
  unfold actL
  simp [h, pickN_L]
theorem actL_dh {ts : List TermL} {x : ActL} (h : x.kind % 5 = 2) : actL ts x = dhL ts (pickN ts.length x x.a) (pickN ts.length x x.b) := by
  unfold actL
  simp [h, pickN_L]
theorem actL_hash {ts : List TermL} {x : ActL} (h : x.kind % 5 = 3) : actL ts x = ((putL ts (4, [x.s, pickN ts.length x x.a, pickN ts.length x x.b])).1, (putL ts (4, [x.s, pickN ts.length x x.a, pickN ts.length x x.b])).2, decide ((putL ts (4, [x.s, pickN ts.length x x.a, pickN ts.length x x.b])).2 ≠ [])) := by
  unfold actL
  simp [h, pickN_L]
theorem actL_seal {ts : List TermL} {x : ActL} (h : x.kind % 5 = 4) : actL ts x = ((putL ts (5, [pickN ts.length x x.a, numL x.n, x.s, pickN ts.length x x.b])).1, (putL ts (5, [pickN ts.length x x.a, numL x.n, x.s, pickN ts.length x x.b])).2, decide ((putL ts (5, [pickN ts.length x x.a, numL x.n, x.s, pickN ts.length x x.b])).2 ≠ [])) := by
  unfold actL
  simp [h, pickN_L]
theorem pick_bytes {x : ActL} (h : ActOk x) (N n : Nat) : Bytes (pickN N x n) ∧ (pickN N x n).length ≤ maxLen := by
  unfold pickN
  split
  · exact ⟨h.s, h.len⟩
  · exact ⟨termN_bytes _, termN_max _⟩
section
variable {h : List Oper} {A0 A : Act} {W0 : World} {S : Nat → Option (Value → World → Prop)} {sp O : List Nat} {E : List (Nat × Nat)} {i : Nat} {o : Oper}
/-- Three texts in a slice of their own, in a region that draws its order. -/
theorem ow_bs3 (hA : Full h A0 A S sp) (hw : Wants h A0 A S O E W0.heap.size i o) (d x0 x1 x2 : Nat) (s0 s1 s2 : List Nat) (hd : o.dst = some d) (ho : o.op = .buildSlice 29 3 #[(0, .tmp x0), (1, .tmp x1), (2, .tmp x2)]) (hw0 : waitsFor h o x0 = true) (hw1 : waitsFor h o x1 = true) (hw2 : waitsFor h o x2 = true)
    (h0 : A.tmps[x0]? = some (.string (strOf s0))) (h1 : A.tmps[x1]? = some (.string (strOf s1))) (h2 : A.tmps[x2]? = some (.string (strOf s2))) (c0 : sp.contains x0 = false) (c1 : sp.contains x1 = false) (c2 : sp.contains x2 = false)
    (E0 : (E.all fun q => q.2 != x0 || q.1 == i) = true) (E1 : (E.all fun q => q.2 != x1 || q.1 == i) = true) (E2 : (E.all fun q => q.2 != x2 || q.1 == i) = true) (hO : O.contains d = false) (hp : S d = some (fun v w => ValsV v w (strs [s0, s1, s2]))) : OwnOk Tryd.prog h A0 W0 (relR A S) O E i o :=
  ow_run hw d hd fun a w hF hB hgot => by
    have e0 := gotE_det hA hgot hw0 c0 E0 h0
    have e1 := gotE_det hA hgot hw1 c1 E1 h1
    have e2 := gotE_det hA hgot hw2 c2 E2 h2
    refine ⟨_, _, none, ?_, rel_spec _ hp (new3 s0 s1 s2 w), grown_none ((Below.refl _ _).alloc (Nat.le_refl _) _), fun b hb => (by cases hb), fun h3 => by rw [hO] at h3; cases h3⟩
    unfold execOp
    simp only [ho]
    simp [e0, e1, e2, run_bs3]
end
theorem HashE {tb B : Nat} {ts us : List TermL} {N : List Nat} {M : Nat → Prop} {ll : List (List Nat)} {V : Value} {w : World} (hT : Tab tb B ts M w) (hy : ∀ l ∈ ll, Bytes l) (hV : ValsV V w (strs ll)) (hl : ∀ l ∈ ll, l.length ≤ maxLen) (hn : ts.length < 1000000) (hp : putL ts (4, ll) = (us, N)) :
    Calls Tryd.prog 18 #[.pointer (some ⟨tb, 0, none⟩), V] w fun e w' => e = .returned (.string (strOf N)) ∧ Puts tb B ts M w us w' := by
  have h := HashD hT hy hV hl hn
  rw [hp] at h
  exact h
theorem SealE {tb B n : Nat} {ts us : List TermL} {N : List Nat} {M : Nat → Prop} {k a t : List Nat} {w : World} (hT : Tab tb B ts M w) (hn64 : n < 18446744073709551616) (hk : Bytes k) (ha : Bytes a) (ht : Bytes t) (hkl : k.length ≤ maxLen) (hal : a.length ≤ maxLen) (htl : t.length ≤ maxLen) (hn : ts.length < 1000000) (hp : putL ts (5, [k, numL n, a, t]) = (us, N)) :
    Calls Tryd.prog 19 #[.pointer (some ⟨tb, 0, none⟩), .string (strOf k), .int .u64 (n : Int), .string (strOf a), .string (strOf t)] w fun e w' => e = .returned (.string (strOf N)) ∧ Puts tb B ts M w us w' := by
  have h := SealD hT hn64 hk ha ht hkl hal htl hn
  rw [hp] at h
  exact h
end Go.Proofs.YtniogaimhkcedaaDoor.sh
/-
  The reference's Find; slices of terms made; TermRefused.
-/
namespace Go.Proofs.YtniogaimhkcedaaDoor.sh
open Go Go.RowKit
set_option linter.unusedVariables false
set_option linter.unusedSimpArgs false

set_option maxRecDepth 100000 in
set_option maxHeartbeats 1000000 in
theorem rFindD {p : Option Addr} {n c : Nat} {s : List Nat} {w : World} (hs : Bytes s) (hn : n < 1000000) :
    Calls Tryd.prog 40 #[.slice p n c, .string (strOf s)] w fun e w' => e = .returned (.int .i64 (findN n s : Int)) ∧ Below w.heap.size w w' := by
  obtain ⟨R, hR⟩ : ∃ R, R = findN n s := ⟨_, rfl⟩
  rw [← hR]
  have KR : Kept _ := ⟨hR⟩
  have KS : Kept _ := ⟨hs⟩
  clear hR hs
  go_enter Tryd.func40, Tryd.ntmps40
  go_wp2_with fail
  go_loopg [5] n (fun k s5 wr => ∃ i : Nat, i + k = n + 1 ∧ s5 = .int .i64 (i : Int) ∧ 1 ≤ i ∧ Kept (∀ j, 0 < j → j < i → termN j ≠ s) ∧ Below w.heap.size w wr)
  case atStart => exact ⟨1, by omega, rfl, Nat.le_refl _, ⟨fun j h1 h2 => by omega⟩, Below.refl _ _⟩
  case round =>
    rename World => wz
    obtain ⟨i, hik, rfl, h1, KJ, hb⟩ := hrel
    by_cases hk0 : gk = 0
    · have hin : ¬ (i : Int) ≤ (n : Int) := by omega
      have K0 : Kept (R = 0) := ⟨by rw [KR.out]; exact findN_none fun j h2 h3 => KJ.out j h2 (by omega)⟩
      go_wp2_with fail
      go_ret
      exact ⟨by rw [K0.out]; rfl, hb⟩
    · have hin : (i : Int) ≤ (n : Int) := by omega
      have hi1 : (i : Int) + 1 ≤ 9223372036854775807 := by omega
      have CN := rNameD (n := i) (w := wz) (by omega)
      have YN := termN_bytes i
      by_cases he : termN i = s
      · have KF : Kept (R = i) := ⟨by rw [KR.out, ← he]; exact findN_at n i (by omega) h1 (by omega)⟩
        rw [he] at CN
        have KC : Kept _ := ⟨CN⟩
        have D1 : Kept (true = decide (s = s)) := ⟨(decide_eq_true rfl).symm⟩
        clear he CN YN
        go_wp2_with fail
        refine KC.out.mono ?_
        rintro e w2 ⟨rfl, b2⟩
        go_wp2_with (first | ((with_reducible refine wv_val (d := 15) ?hd ?hw (.bool true) ?hr ?_); (case hd => rfl); (case hw => kernel_rfl); (case hr => intro w; exact run_seq rfl (by kernel_rfl) (by kernel_rfl) KS.out KS.out D1.out w); simp only [Act.put, List.setIfInBounds_toArray, List.set_cons_succ, List.set_cons_zero]))
        go_ret
        exact ⟨by rw [KF.out]; rfl, hb.trans (b2.mono hb.size)⟩
      · have KJ2 : Kept (∀ j, 0 < j → j < i + 1 → termN j ≠ s) := ⟨fun j h2 h3 => by
          by_cases hj : j = i
          · subst hj; exact he
          · exact KJ.out j h2 (by omega)⟩
        obtain ⟨N, hN⟩ : ∃ N, N = termN i := ⟨_, rfl⟩
        rw [← hN] at CN YN he
        have KC : Kept _ := ⟨CN⟩
        have KY : Kept _ := ⟨YN⟩
        have D1 : Kept (false = decide (N = s)) := ⟨(decide_eq_false he).symm⟩
        clear he CN YN hN
        go_wp2_with fail
        refine KC.out.mono ?_
        rintro e w2 ⟨rfl, b2⟩
        go_wp2_with (first | ((with_reducible refine wv_val (d := 15) ?hd ?hw (.bool false) ?hr ?_); (case hd => rfl); (case hw => kernel_rfl); (case hr => intro w; exact run_seq rfl (by kernel_rfl) (by kernel_rfl) KY.out KS.out D1.out w); simp only [Act.put, List.setIfInBounds_toArray, List.set_cons_succ, List.set_cons_zero]))
        go_roundg (gk - 1)
        case measure => omega
        case rel => exact ⟨i + 1, by omega, by simp, by omega, KJ2, hb.trans (b2.mono hb.size)⟩

theorem info_term : (Tryd.prog.info? 41).map (fun i => (i.zero, i.size, i.bytes)) = some (some (.agg #[.int .u8 0, .slice none 0 0]), 2, 32) := by kernel_rfl
theorem wl_mkT {ops : Array Oper} {rest : List Oper} {o : Oper} {a : Act} {w : World} {Q : Exit → Act → World → Prop} (hgd : o.guard = none) (x : Operand) (ho : o.op = .makeSlice 26 x x) (c : Nat) (hx : a.eval x = .int .i64 (c : Int)) (hc : c < 1000001)
    (h : ∀ w', Below w.heap.size w w' → wpList Tryd.prog ops Q rest (a.put o.dst (.slice (some ⟨w.heap.size, 0, none⟩) c c)) w') : wpList Tryd.prog ops Q (o :: rest) a w :=
  wpList_plain hgd fun K hK => by
    have hi := info_term
    cases hq : Tryd.prog.info? 41 with
    | none => rw [hq] at hi; cases hi
    | some i =>
      rw [hq] at hi
      simp only [Option.map_some, Option.some.injEq, Prod.mk.injEq] at hi
      obtain ⟨h1, h2, h3⟩ := hi
      have hm := run_make (P := Tryd.prog) w 26 41 i (.agg #[.int .u8 0, .slice none 0 0]) Tryd.underlying26 hq h1 .i64 .i64 (c : Int) (c : Int) (by omega) (Int.le_refl _) (by rw [h3]; omega) (by omega)
      rw [Int.toNat_natCast] at hm
      have hrun : (execOp a.eval o).run Tryd.prog w = .ok (.value (.slice (some ⟨w.heap.size, 0, none⟩) c c)) (w.alloc (.cells (madeCells (Value.agg #[.int .u8 0, .slice none 0 0]).cells (c * i.size)) 41)) := by
        unfold execOp
        simp only [ho, hx]
        simp [hm]
      unfold Oper.wp
      rw [hrun]
      exact hK _ _ (h _ ((Below.refl _ _).alloc (Nat.le_refl _) _))
theorem wl_mkZ {ops : Array Oper} {rest : List Oper} {o : Oper} {a : Act} {w : World} {Q : Exit → Act → World → Prop} (hgd : o.guard = none) (c : Nat) (Z : List Nat) (hZ : Z = List.replicate c 0) (ho : o.op = .makeSlice 23 (.const (.int .i64 (c : Int))) (.const (.int .i64 (c : Int)))) (hc : c < 1000000)
    (h : wpList Tryd.prog ops Q rest (a.put o.dst (.slice (some ⟨w.heap.size, 0, none⟩) c c)) (w.alloc (.cells (ints .u8 Z) 5))) : wpList Tryd.prog ops Q (o :: rest) a w :=
  wl_make hgd _ ho .i64 c rfl hc (by rw [← hZ]; exact h)
theorem z_bytes (c : Nat) (Z : List Nat) (hZ : Z.length = c) (w : World) : IntsV .u8 (.slice (some ⟨w.heap.size, 0, none⟩) c c) (w.alloc (.cells (ints .u8 Z) 5)) Z := arr_bytes (t := 5) (l := Z) (blk_new w _ _) hZ
theorem SealF {tb B n : Nat} {ts us : List TermL} {N : List Nat} {M : Nat → Prop} {k a t : List Nat} {K A T : ByteArray} {w : World} (hT : Tab tb B ts M w) (hn64 : n < 18446744073709551616) (hk : Bytes k) (ha : Bytes a) (ht : Bytes t) (hkl : k.length ≤ maxLen) (hal : a.length ≤ maxLen) (htl : t.length ≤ maxLen) (hn : ts.length < 1000000) (hp : putL ts (5, [k, numL n, a, t]) = (us, N)) (hK : K = strOf k) (hA : A = strOf a) (hTT : T = strOf t) :
    Calls Tryd.prog 19 #[.pointer (some ⟨tb, 0, none⟩), .string K, .int .u64 (n : Int), .string A, .string T] w fun e w' => e = .returned (.string (strOf N)) ∧ Puts tb B ts M w us w' := by
  subst hK hA hTT
  exact SealE hT hn64 hk ha ht hkl hal htl hn hp
theorem big_fits {ts : List TermL} {k : Nat} {ll : List (List Nat)} {Z : List Nat} (hm : Z ∈ ll) (hZ : Z.length = 4001) : putL ts (k, ll) = (ts, []) := putL_not fun h => by
  have := h.2.1 Z hm
  omega
theorem acts_ok {l : List ActL} (h : ∀ x ∈ l, ActOk x) : Terms (actsL [] l) := actsL_terms terms_nil fun x hx => (h x hx).s

end Go.Proofs.YtniogaimhkcedaaDoor.sh
/-
  TermOrder.
-/
namespace Go.Proofs.YtniogaimhkcedaaDoor.sh
open Go Go.RowKit
set_option linter.unusedVariables false
set_option linter.unusedSimpArgs false

theorem ValsV.take {p : Option Addr} {n c k : Nat} {w : World} {vs : List Value} (h : ValsV (.slice p n c) w vs) (hk : k ≤ vs.length) : ValsV (.slice p k c) w (vs.take k) := by
  obtain ⟨p', c', e1, h2, h3⟩ := h
  cases e1
  have hl : (vs.take k).length = k := by rw [List.length_take]; omega
  refine ⟨p, c, by rw [hl], by omega, fun hne => ?_⟩
  obtain ⟨A, rfl, hA, hc⟩ := h3 (fun e => hne (by rw [e]; simp))
  refine ⟨A, rfl, hA, fun j x hx => hc j x ?_⟩
  have hj : j < k := by
    have := (List.getElem?_eq_some_iff.1 hx).1
    omega
  rwa [List.getElem?_take_of_lt hj] at hx
theorem namesL_take {k n : Nat} (h : k ≤ n) : (namesL n).take k = namesL k := by
  unfold namesL
  rw [← List.map_take, List.take_range]
  congr 1
  rw [Nat.min_eq_left h]
theorem strs_take (ll : List (List Nat)) (k : Nat) : (strs ll).take k = strs (ll.take k) := by unfold strs; rw [List.map_take]

end Go.Proofs.YtniogaimhkcedaaDoor.sh
/-
  TermBoth.
-/
namespace Go.Proofs.YtniogaimhkcedaaDoor.sh
open Go Go.RowKit
set_option linter.unusedVariables false
set_option linter.unusedSimpArgs false

theorem dhL_name (ts : List TermL) (a b : List Nat) : Bytes (dhL ts a b).2.1 ∧ (dhL ts a b).2.1.length ≤ maxLen := by
  rw [dhL_part]
  split
  · exact ⟨putL_bytes _ _, Nat.le_trans (putL_len32 _ _) (by decide)⟩
  · exact ⟨nil_bytes, Nat.zero_le _⟩
theorem run_eqBB {o : Oper} {a : Act} {x y : Operand} {u : TypeId} {b : Bool} (ho : o.op = .binOp .eql 4 x y u) (hx : a.eval x = .bool b) (hy : a.eval y = .bool b) (w : World) : (execOp a.eval o).run Tryd.prog w = .ok (.value (.bool true)) w := by
  unfold execOp
  simp only [ho, hx, hy]
  cases b <;> kernel_rfl
theorem fits_one {a : List Nat} (h : a.length ≤ 1000) : Fits [a] := ⟨by simp, fun l hl => by simp at hl; subst hl; omega, by simp [itemsL, itemL]; omega⟩
theorem fits_two {a b : List Nat} (h : a.length ≤ 1000) (h2 : b.length ≤ 1000) : Fits [a, b] := ⟨by simp, fun l hl => by simp at hl; rcases hl with rfl | rfl <;> omega, by simp [itemsL, itemL]; omega⟩
theorem fits_sort {a b : List Nat} (h : a.length ≤ 1000) (h2 : b.length ≤ 1000) : Fits (sort2 a b) := by
  unfold sort2
  split
  · exact fits_two h2 h
  · exact fits_two h h2
end Go.Proofs.YtniogaimhkcedaaDoor.sh
/-
  TermSame.
-/
namespace Go.Proofs.YtniogaimhkcedaaDoor.sh
open Go Go.RowKit
set_option linter.unusedVariables false
set_option linter.unusedSimpArgs false

theorem partX_name {ts : List TermL} {i : Nat} (hi : i < ts.length) (hN : ts.length < 1000000) : partX ts (termN (i + 1)) = ts[i]? := by
  have h := noL_name (n := i + 1) (by omega)
  rw [partX_some (termN_bytes _) hN (by rw [h]; omega) (by rw [h]; omega), h, Nat.add_sub_cancel]
theorem putL_same {ts : List TermL} (h : Terms ts) {t : TermL} {i : Nat} (hi : ts[i]? = some t) : putL ts t = (ts, termN (i + 1)) := by
  have hm := List.mem_of_getElem? hi
  rw [putL_old (h.1.2 t hm) hm, idx_at h.1.1 hi]
/-- What a name is made again of: by the kind. -/
def again (k : Nat) (ll : List (List Nat)) : Prop := (k = 1 ∧ ∃ s, ll = [s]) ∨ (k = 2 ∧ ∃ s, ll = [s]) ∨ k = 3 ∨ k = 4 ∨ k = 5
theorem again_of {t : TermL} (h : Formed t) : again t.1 t.2 := by
  rcases h.2 with h | h | ⟨h, _⟩ | h | h
  · exact .inl h
  · exact .inr (.inl h)
  · exact .inr (.inr (.inl h))
  · exact .inr (.inr (.inr (.inl h)))
  · exact .inr (.inr (.inr (.inr h)))

end Go.Proofs.YtniogaimhkcedaaDoor.sh
/-
  The reference's lists of terms in memory; appended to; what is picked of them.
-/
namespace Go.Proofs.YtniogaimhkcedaaDoor.sh
open Go Go.RowKit
set_option linter.unusedVariables false
set_option linter.unusedSimpArgs false

/-- The cells of terms: a kind, a slice of parts. -/
def tcells : List TermL → List Value → List Value
  | t :: ts, V :: Vs => .int .u8 (t.1 : Int) :: V :: tcells ts Vs
  | _, _ => []
theorem tcells_len : ∀ {ts : List TermL} {Vs : List Value}, Vs.length = ts.length → (tcells ts Vs).length = ts.length * 2
  | [], [], _ => rfl
  | [], _ :: _, h => by cases h
  | _ :: _, [], h => by cases h
  | t :: ts, V :: Vs, h => by
    have := tcells_len (ts := ts) (Vs := Vs) (by simpa using h)
    simp only [tcells, List.length_cons, this]
    omega
theorem tcells_append : ∀ {ts : List TermL} {Vs : List Value} (t : TermL) (V : Value), Vs.length = ts.length → tcells (ts ++ [t]) (Vs ++ [V]) = tcells ts Vs ++ [.int .u8 (t.1 : Int), V]
  | [], [], _, _, _ => rfl
  | [], _ :: _, _, _, h => by cases h
  | _ :: _, [], _, _, h => by cases h
  | u :: ts, U :: Vs, t, V, h => by
    have := tcells_append (ts := ts) (Vs := Vs) t V (by simpa using h)
    simp only [List.cons_append, tcells, this]
theorem tcells_get : ∀ {ts : List TermL} {Vs : List Value} {i : Nat} {t : TermL} {V : Value}, ts[i]? = some t → Vs[i]? = some V → (tcells ts Vs)[i * 2]? = some (.int .u8 (t.1 : Int)) ∧ (tcells ts Vs)[i * 2 + 1]? = some V
  | [], _, _, _, _, h, _ => by simp at h
  | _ :: _, [], _, _, _, _, h => by simp at h
  | u :: ts, U :: Vs, 0, t, V, h, h2 => by
    simp at h h2
    subst h h2
    exact ⟨rfl, rfl⟩
  | u :: ts, U :: Vs, i + 1, t, V, h, h2 => by
    simp at h h2
    obtain ⟨h3, h4⟩ := tcells_get (ts := ts) (Vs := Vs) h h2
    rw [show (i + 1) * 2 = i * 2 + 2 by omega]
    exact ⟨h3, h4⟩
theorem tcells_one : ∀ {ts : List TermL} {Vs : List Value}, (∀ V ∈ Vs, V.oneCell' = true) → ∀ x ∈ tcells ts Vs, x.oneCell' = true
  | [], _, _, x, hx => by simp [tcells] at hx
  | _ :: _, [], _, x, hx => by simp [tcells] at hx
  | t :: ts, V :: Vs, h, x, hx => by
    simp only [tcells, List.mem_cons] at hx
    rcases hx with rfl | rfl | hx
    · rfl
    · exact h _ List.mem_cons_self
    · exact tcells_one (fun V hV => h V (List.mem_cons_of_mem _ hV)) x hx
/-- Terms that a slice of the reference holds, all in blocks of D. -/
def TsV (D : Nat → Prop) (v : Value) (w : World) (ts : List TermL) : Prop := ∃ (Vs : List Value) (p : Option Addr) (c : Nat), Vs.length = ts.length ∧ v = .slice p ts.length c ∧ ts.length ≤ c ∧
  (ts ≠ [] → ∃ A, p = some A ∧ A.block < w.heap.size ∧ D A.block ∧ ∀ (j : Nat) (x : Value), (tcells ts Vs)[j]? = some x → w.cell? (A.add j) = some x) ∧
  ∀ (j : Nat) (t : TermL) (V : Value), ts[j]? = some t → Vs[j]? = some V → ValsV V w (strs t.2) ∧ ∀ b, blkOf V = some b → D b
theorem ts_nil (D : Nat → Prop) (w : World) : TsV D (.slice none 0 0) w [] := ⟨[], none, 0, rfl, rfl, Nat.le_refl _, fun h => absurd rfl h, fun j t V h => by simp at h⟩
theorem ts_form {D : Nat → Prop} {v : Value} {w : World} {ts : List TermL} {n : Nat} (h : TsV D v w ts) (hn : ts.length = n) : ∃ p c, v = .slice p n c ∧ n ≤ c := by
  obtain ⟨Vs, p, c, _, rfl, h2, _⟩ := h
  exact ⟨p, c, by rw [hn], by omega⟩
theorem TsV.under {D : Nat → Prop} {v : Value} {w w' : World} {ts : List TermL} (h : TsV D v w ts) (hb : Below w.heap.size w w') : TsV D v w' ts := by
  obtain ⟨Vs, p, c, h1, h2, h3, h4, h5⟩ := h
  refine ⟨Vs, p, c, h1, h2, h3, fun hne => ?_, fun j t V ht hV => ⟨(h5 j t V ht hV).1.under hb, (h5 j t V ht hV).2⟩⟩
  obtain ⟨A, e1, e2, e3, e4⟩ := h4 hne
  exact ⟨A, e1, Nat.lt_of_lt_of_le e2 hb.size, e3, fun j x hx => (hb.cell (by rw [add_block]; exact e2)).trans (e4 j x hx)⟩
theorem TsV.turn {D : Nat → Prop} {v : Value} {w w' : World} {ts : List TermL} {M M' : Nat → Prop} (h : TsV D v w ts) (ht : Turn M w M' w') (hD : ∀ b, D b → ¬ M b) : TsV D v w' ts := by
  obtain ⟨Vs, p, c, h1, h2, h3, h4, h5⟩ := h
  refine ⟨Vs, p, c, h1, h2, h3, fun hne => ?_, fun j t V ht' hV => ⟨ht.vals (h5 j t V ht' hV).1 (fun b hb => hD b ((h5 j t V ht' hV).2 b hb)), (h5 j t V ht' hV).2⟩⟩
  obtain ⟨A, e1, e2, e3, e4⟩ := h4 hne
  exact ⟨A, e1, Nat.lt_of_lt_of_le e2 ht.size, e3, fun j x hx => (World.cell?_of_block (by rw [add_block]; exact ht.1.block _ e2 (hD _ e3))).trans (e4 j x hx)⟩
theorem TsV.mono {D D' : Nat → Prop} {v : Value} {w : World} {ts : List TermL} (h : TsV D v w ts) (hD : ∀ b, D b → D' b) : TsV D' v w ts := by
  obtain ⟨Vs, p, c, h1, h2, h3, h4, h5⟩ := h
  refine ⟨Vs, p, c, h1, h2, h3, fun hne => ?_, fun j t V ht hV => ⟨(h5 j t V ht hV).1, fun b hb => hD b ((h5 j t V ht hV).2 b hb)⟩⟩
  obtain ⟨A, e1, e2, e3, e4⟩ := h4 hne
  exact ⟨A, e1, e2, hD _ e3, e4⟩
theorem ts_at {D : Nat → Prop} {p : Option Addr} {n c : Nat} {w : World} {ts : List TermL} {i k : Nat} {ll : List (List Nat)} (h : TsV D (.slice p n c) w ts) (ht : ts[i]? = some (k, ll)) : ∃ A V, p = some A ∧ A.block < w.heap.size ∧ w.cell? (A.add (i * 2)) = some (.int .u8 (k : Int)) ∧ w.cell? ((A.add (i * 2)).add 1) = some V ∧ ValsV V w (strs ll) := by
  obtain ⟨Vs, p', c', h1, h2, h3, h4, h5⟩ := h
  cases h2
  obtain ⟨A, rfl, e2, e3, e4⟩ := h4 (by intro e; rw [e] at ht; simp at ht)
  obtain ⟨V, hV⟩ : ∃ V, Vs[i]? = some V := ⟨_, List.getElem?_eq_getElem (by rw [h1]; exact (List.getElem?_eq_some_iff.1 ht).1)⟩
  obtain ⟨g1, g2⟩ := tcells_get ht hV
  exact ⟨A, V, rfl, e2, e4 _ _ g1, by rw [add_add]; exact e4 _ _ g2, (h5 i _ V ht hV).1⟩

theorem run_idxT {o : Oper} {a : Act} {x y : Operand} {i l c : Nat} {A : Addr} (ho : o.op = .indexAddr 26 x y) (hx : a.eval x = .slice (some A) l c) (hy : a.eval y = .int .i64 (i : Int)) (hi : i < l) (w : World) : (execOp a.eval o).run Tryd.prog w = .ok (.value (.pointer (some (A.add (i * 2))))) w := by
  have h1 : ((i : Int) < (l : Int)) := by omega
  have hs : ∀ w, (sizeOf 41).run Tryd.prog w = .ok 2 w := fun w => by kernel_rfl
  unfold execOp
  simp only [ho, hx, hy, Instr.indexAt]
  simp [asIntOf, run_underlying Tryd.underlying26, h1, hs, go_sem]
  intro h
  omega
theorem run_fldT0 {o : Oper} {a : Act} {x : Operand} {A : Addr} (ho : o.op = .fieldAddr 41 x 0) (hx : a.eval x = .pointer (some A)) (w : World) : (execOp a.eval o).run Tryd.prog w = .ok (.value (.pointer (some A))) w := by
  unfold execOp
  simp only [ho, hx]
  simp [go_sem, Instr.fieldAt, run_underlying Tryd.underlying41, Addr.add]
theorem run_fldT1 {o : Oper} {a : Act} {x : Operand} {A : Addr} (ho : o.op = .fieldAddr 41 x 1) (hx : a.eval x = .pointer (some A)) (w : World) : (execOp a.eval o).run Tryd.prog w = .ok (.value (.pointer (some (A.add 1)))) w := by
  unfold execOp
  simp only [ho, hx]
  simp [go_sem, Instr.fieldAt, run_underlying Tryd.underlying41]

theorem rowT_blk {base : Nat} {e : TypeId} {s n : Nat} {v : Value} {xs : List Value} {w : World} (h : w.ownsRow base e s v n xs) : v.ownBlock = blkOf v := by
  rcases h.2 with ⟨rfl, _⟩ | ⟨g, cap, cur, rfl, _⟩ <;> rfl
theorem appT_run {ty : TypeId} {base n m c : Nat} {l ms : List Value} {v : Value} {p : Option Addr} {w : World} (hown : w.ownsRow base 41 2 v n l) (hml : ms.length = m * 2) (hx : m ≠ 0 → ∃ A, p = some A ∧ ∀ (j : Nat) (x : Value), ms[j]? = some x → w.cell? (A.add j) = some x) (h1 : ∀ x ∈ ms, x.oneCell' = true) (hn : n + m ≤ 1000001) (hbase : base ≤ w.heap.size) :
    ∃ v' w', (Builtin.append_ #[26, 26] ty #[v, .slice p m c]).run Tryd.prog w = .ok v' w' ∧ w'.ownsRow base 41 2 v' (n + m) (l ++ ms) ∧ w.grownBy w' (blkOf v) ∧ (blkOf v' = blkOf v ∨ blkOf v' = some w.heap.size) := by
  have hi := info_term
  cases hq : Tryd.prog.info? 41 with
  | none => rw [hq] at hi; cases hi
  | some i0 =>
  rw [hq] at hi
  simp only [Option.map_some, Option.some.injEq, Prod.mk.injEq] at hi
  obtain ⟨hz0, hz1, hz2⟩ := hi
  have hbl := rowT_blk hown
  cases p with
  | none =>
    have hm0 : m = 0 := by
      rcases Nat.eq_zero_or_pos m with h | h
      · exact h
      · obtain ⟨A, e, _⟩ := hx (by omega); cases e
    subst hm0
    have hms : ms = [] := List.eq_nil_of_length_eq_zero (by omega)
    subst hms
    refine ⟨v, w, ?_, by rw [List.append_nil]; exact hown, ⟨rfl, rfl, rfl, Nat.le_refl _, fun _ _ _ => rfl⟩, .inl rfl⟩
    rcases hown.2 with ⟨rfl, h0⟩ | ⟨g, cap, cur, rfl, _, _, hnc, _⟩
    · simp [Builtin.append_, run_underlying Tryd.underlying26, sizeOf, typeInfo, hq, Builtin.lenOf, Builtin.firstCells, h0]
    · simp [Builtin.append_, run_underlying Tryd.underlying26, sizeOf, typeInfo, hq, Builtin.lenOf, Builtin.firstCells, hnc, storeCells]
  | some A =>
    obtain ⟨v', w', h4, h5, h6, _, h8⟩ := run_append_own_at (P := Tryd.prog) (w := w) base 26 ty 41 i0 (.agg #[.int .u8 0, .slice none 0 0]) 2 32 Tryd.underlying26 hq hz0 hz1 hz2 rfl (by decide) v n l hown A m c ms hml (by
      intro j y hj
      by_cases h0 : m = 0
      · subst h0
        rw [List.eq_nil_of_length_eq_zero (show ms.length = 0 by omega)] at hj
        simp at hj
      · obtain ⟨A', e1, e3⟩ := hx h0
        cases e1
        exact e3 j y hj) h1 (by unfold maxLen; omega) (by omega) hbase
    have hb2 := rowT_blk h5
    rw [hb2, hbl] at h8
    exact ⟨v', w', h4, h5, by rw [← hbl]; exact h6, h8⟩
/-- 'append' of terms in a plain region. -/
theorem wl_appT {ops : Array Oper} {rest : List Oper} {o : Oper} {a : Act} {w : World} {Q : Exit → Act → World → Prop} (hgd : o.guard = none) (s x : Operand) (ho : o.op = .call { callee := .builtin .append, args := #[s, x], argTypes := #[26, 26] }) (base n m c : Nat) (l ms : List Value) (v : Value) (p : Option Addr) (hs : a.eval s = v) (hxv : a.eval x = .slice p m c)
    (hown : w.ownsRow base 41 2 v n l) (hml : ms.length = m * 2) (hx : m ≠ 0 → ∃ A, p = some A ∧ ∀ (j : Nat) (x : Value), ms[j]? = some x → w.cell? (A.add j) = some x) (h1 : ∀ x ∈ ms, x.oneCell' = true) (hn : n + m ≤ 1000001) (hbase : base ≤ w.heap.size)
    (hk : ∀ v' w', w'.ownsRow base 41 2 v' (n + m) (l ++ ms) → w.grownBy w' (blkOf v) → (blkOf v' = blkOf v ∨ blkOf v' = some w.heap.size) → wpList Tryd.prog ops Q rest (a.put o.dst v') w') : wpList Tryd.prog ops Q (o :: rest) a w :=
  wpList_plain hgd fun K hK => by
    obtain ⟨v', w', h4, h5, h6, h7⟩ := appT_run (ty := o.type) (c := c) hown hml hx h1 hn hbase
    unfold Oper.wp execOp
    simp only [ho, resolve, invoke, builtin, Sem.run_bind, Sem.run_pure, Result.andThen_ok, List.map_toArray, List.map_cons, List.map_nil, hs, hxv, h4]
    exact hK _ _ (hk v' w' h5 h6 h7)
theorem run_bsT (k : Nat) (p : Option Addr) (m c : Nat) (w : World) : (Instr.buildSlice 26 1 #[(0, .agg #[.int .u8 (k : Int), .slice p m c])]).run Tryd.prog w = .ok (.slice (some ⟨w.heap.size, 0, none⟩) 1 1) (w.alloc (.cells #[.int .u8 (k : Int), .slice p m c] 41)) := by kernel_rfl
theorem wl_bsT {ops : Array Oper} {rest : List Oper} {o : Oper} {a : Act} {w : World} {Q : Exit → Act → World → Prop} (hgd : o.guard = none) (x : Operand) (ho : o.op = .buildSlice 26 1 #[(0, x)]) (k : Nat) (p : Option Addr) (m c : Nat) (hx : a.eval x = .agg #[.int .u8 (k : Int), .slice p m c])
    (h : wpList Tryd.prog ops Q rest (a.put o.dst (.slice (some ⟨w.heap.size, 0, none⟩) 1 1)) (w.alloc (.cells #[.int .u8 (k : Int), .slice p m c] 41))) : wpList Tryd.prog ops Q (o :: rest) a w :=
  wpList_plain hgd fun K hK => by
    have hrun : (execOp a.eval o).run Tryd.prog w = .ok (.value (.slice (some ⟨w.heap.size, 0, none⟩) 1 1)) (w.alloc (.cells #[.int .u8 (k : Int), .slice p m c] 41)) := by
      unfold execOp
      simp only [ho]
      simp [hx, run_bsT]
    unfold Oper.wp
    rw [hrun]
    exact hK _ _ h

end Go.Proofs.YtniogaimhkcedaaDoor.sh
/-
  The reference's Put.
-/
namespace Go.Proofs.YtniogaimhkcedaaDoor.sh
open Go Go.RowKit
set_option linter.unusedVariables false
set_option linter.unusedSimpArgs false

theorem run_bs0S (w : World) : (Instr.buildSlice 29 0 #[]).run Tryd.prog w = .ok (.slice (some ⟨w.heap.size, 0, none⟩) 0 0) (w.alloc (.cells #[] 9)) := by kernel_rfl
theorem wl_bs0S {ops : Array Oper} {rest : List Oper} {o : Oper} {a : Act} {w : World} {Q : Exit → Act → World → Prop} (hgd : o.guard = none) (ho : o.op = .buildSlice 29 0 #[]) (h : wpList Tryd.prog ops Q rest (a.put o.dst (.slice (some ⟨w.heap.size, 0, none⟩) 0 0)) (w.alloc (.cells #[] 9))) : wpList Tryd.prog ops Q (o :: rest) a w :=
  wpList_plain hgd fun K hK => by
    have hrun : (execOp a.eval o).run Tryd.prog w = .ok (.value (.slice (some ⟨w.heap.size, 0, none⟩) 0 0)) (w.alloc (.cells #[] 9)) := by
      unfold execOp
      simp only [ho]
      simp [run_bs0S]
    unfold Oper.wp
    rw [hrun]
    exact hK _ _ h
theorem run_bs0T (w : World) : (Instr.buildSlice 26 0 #[]).run Tryd.prog w = .ok (.slice (some ⟨w.heap.size, 0, none⟩) 0 0) (w.alloc (.cells #[] 41)) := by kernel_rfl
theorem wl_bs0T {ops : Array Oper} {rest : List Oper} {o : Oper} {a : Act} {w : World} {Q : Exit → Act → World → Prop} (hgd : o.guard = none) (ho : o.op = .buildSlice 26 0 #[]) (h : wpList Tryd.prog ops Q rest (a.put o.dst (.slice (some ⟨w.heap.size, 0, none⟩) 0 0)) (w.alloc (.cells #[] 41))) : wpList Tryd.prog ops Q (o :: rest) a w :=
  wpList_plain hgd fun K hK => by
    have hrun : (execOp a.eval o).run Tryd.prog w = .ok (.value (.slice (some ⟨w.heap.size, 0, none⟩) 0 0)) (w.alloc (.cells #[] 41)) := by
      unfold execOp
      simp only [ho]
      simp [run_bs0T]
    unfold Oper.wp
    rw [hrun]
    exact hK _ _ h
theorem term_row0 {base : Nat} (w : World) (hb : base ≤ w.heap.size) : (w.alloc (.cells #[] 41)).ownsRow base 41 2 (.slice (some ⟨w.heap.size, 0, none⟩) 0 0) 0 [] :=
  ⟨rfl, .inr ⟨w.heap.size, 0, #[], rfl, hb, heap_new w _, Nat.le_refl _, by decide, rfl, rfl⟩⟩
theorem run_buildT {o : Oper} {a : Act} {x y : Operand} {k m c : Nat} {p : Option Addr} (ho : o.op = .build 41 #[(0, x), (1, y)]) (hx : a.eval x = .int .u8 (k : Int)) (hy : a.eval y = .slice p m c) (w : World) : (execOp a.eval o).run Tryd.prog w = .ok (.value (.agg #[.int .u8 (k : Int), .slice p m c])) w := by
  have hb : (Instr.build 41 #[(0, .int .u8 (k : Int)), (1, .slice p m c)]).run Tryd.prog w = .ok (.agg #[.int .u8 (k : Int), .slice p m c]) w := by kernel_rfl
  unfold execOp
  simp only [ho]
  simp [hx, hy, hb]
theorem infoT2 : (Tryd.prog.info? 41).map (·.size) = some 2 := by kernel_rfl
theorem vals_one {v : Value} {w : World} {vs : List Value} (h : ValsV v w vs) : v.oneCell' = true := by
  obtain ⟨p, c, rfl, _⟩ := h
  rfl
theorem ts_cells {D : Nat → Prop} {p : Option Addr} {n c : Nat} {w : World} {ts : List TermL} (h : TsV D (.slice p n c) w ts) : ∃ Vs : List Value, Vs.length = ts.length ∧
    (∀ w', Below w.heap.size w w' → n ≠ 0 → ∃ A, p = some A ∧ ∀ (j : Nat) (x : Value), (tcells ts Vs)[j]? = some x → w'.cell? (A.add j) = some x) ∧
    (∀ w', Below w.heap.size w w' → ∀ (j : Nat) (t : TermL) (V : Value), ts[j]? = some t → Vs[j]? = some V → ValsV V w' (strs t.2) ∧ ∀ b, blkOf V = some b → D b) ∧ ∀ x ∈ tcells ts Vs, x.oneCell' = true := by
  obtain ⟨Vs, p', c', h1, h2, h3, h4, h5⟩ := h
  cases h2
  refine ⟨Vs, h1, fun w' hb hne => ?_, fun w' hb j t V ht hV => ⟨(h5 j t V ht hV).1.under hb, (h5 j t V ht hV).2⟩, tcells_one fun V hV => ?_⟩
  · obtain ⟨A, e1, e2, e3, e4⟩ := h4 (by intro e; rw [e] at hne; exact hne rfl)
    exact ⟨A, e1, fun j x hx => (hb.cell (by rw [add_block]; exact e2)).trans (e4 j x hx)⟩
  · obtain ⟨j, hj⟩ := List.mem_iff_getElem?.1 hV
    exact vals_one (h5 j _ V (List.getElem?_eq_getElem (by rw [← h1]; exact (List.getElem?_eq_some_iff.1 hj).1)) hj).1
theorem ts_row {D : Nat → Prop} {base : Nat} {v : Value} {w : World} {us : List TermL} {Vs : List Value} (hl : Vs.length = us.length) (hr : w.ownsRow base 41 2 v us.length (tcells us Vs)) (hV : ∀ (j : Nat) (t : TermL) (V : Value), us[j]? = some t → Vs[j]? = some V → ValsV V w (strs t.2) ∧ ∀ b, blkOf V = some b → D b) (hD : ∀ b, base ≤ b → b < w.heap.size → D b) : TsV D v w us := by
  rcases hr.2 with ⟨rfl, h0⟩ | ⟨g, cap, cur, rfl, hb, hg, hn, hm, hs, ht⟩
  · have : us = [] := List.eq_nil_of_length_eq_zero h0
    subst this
    exact ts_nil D w
  · have hlt : g < w.heap.size := (Array.getElem?_eq_some_iff.1 hg).1
    refine ⟨Vs, _, cap, hl, rfl, hn, fun _ => ⟨_, rfl, hlt, hD g hb hlt, fun j x hx => ?_⟩, hV⟩
    rw [addr_add, Nat.zero_add]
    refine cell_row hg ?_
    have hj := (List.getElem?_eq_some_iff.1 hx).1
    rw [tcells_len hl] at hj
    have h3 : (cur.toList.take (us.length * 2))[j]? = (tcells us Vs)[j]? := by rw [ht]
    rw [List.getElem?_take_of_lt hj, hx, Array.getElem?_toList] at h3
    exact h3
theorem ts_put {D : Nat → Prop} {base k : Nat} {v V' : Value} {w : World} {ts : List TermL} {Vs : List Value} {ll : List (List Nat)} (hl : Vs.length = ts.length) (hr : w.ownsRow base 41 2 v (ts.length + 1) (tcells ts Vs ++ [.int .u8 (k : Int), V'])) (hold : ∀ (j : Nat) (t : TermL) (V : Value), ts[j]? = some t → Vs[j]? = some V → ValsV V w (strs t.2) ∧ ∀ b, blkOf V = some b → D b)
    (hnew : ValsV V' w (strs ll)) (hnb : ∀ b, blkOf V' = some b → D b) (hD : ∀ b, base ≤ b → b < w.heap.size → D b) : TsV D v w (ts ++ [(k, ll)]) := by
  refine ts_row (Vs := Vs ++ [V']) (by simp [hl]) (by rw [tcells_append (k, ll) V' hl, List.length_append]; exact hr) (fun j t V ht hV => ?_) hD
  by_cases hj : j < ts.length
  · rw [List.getElem?_append_left hj] at ht
    rw [List.getElem?_append_left (by omega)] at hV
    exact hold j t V ht hV
  · have hj2 := (List.getElem?_eq_some_iff.1 ht).1
    rw [List.length_append, List.length_singleton] at hj2
    obtain rfl : j = ts.length := by omega
    rw [List.getElem?_append_right (Nat.le_refl _), Nat.sub_self] at ht
    rw [← hl, List.getElem?_append_right (Nat.le_refl _), Nat.sub_self] at hV
    simp at ht hV
    subst ht hV
    exact ⟨hnew, hnb⟩
theorem row_range {base s n : Nat} {e : TypeId} {v : Value} {xs : List Value} {w : World} (h : w.ownsRow base e s v n xs) : ∀ b, blkOf v = some b → base ≤ b ∧ b < w.heap.size := fun b hb => by
  rcases h.2 with ⟨rfl, _⟩ | ⟨g, cap, cur, rfl, h1, h2, _⟩
  · cases hb
  · cases hb
    exact ⟨h1, (Array.getElem?_eq_some_iff.1 h2).1⟩
theorem new_cells (w : World) (A : Array Value) (e : TypeId) : (1 : Nat) ≠ 0 → ∃ B, some (⟨w.heap.size, 0, none⟩ : Addr) = some B ∧ ∀ (j : Nat) (x : Value), A.toList[j]? = some x → (w.alloc (.cells A e)).cell? (B.add j) = some x := fun _ => ⟨_, rfl, fun j x hx => by
  rw [addr_add, Nat.zero_add]
  rw [Array.getElem?_toList] at hx
  exact cell_row (blk_new w e A) hx⟩
theorem row_under {base s n : Nat} {e : TypeId} {v : Value} {xs : List Value} {w w' : World} (h : w.ownsRow base e s v n xs) (hb : Below w.heap.size w w') : w'.ownsRow base e s v n xs := by
  obtain ⟨h1, h2⟩ := h
  refine ⟨h1, ?_⟩
  rcases h2 with h | ⟨g, cap, cur, rfl, hq, hgt, r⟩
  · exact .inl h
  · refine .inr ⟨g, cap, cur, rfl, hq, ?_, r⟩
    rw [hb.block g (Array.getElem?_eq_some_iff.1 hgt).1]
    exact hgt
/-- What Put and Dh and an act come to, on a list of the reference. -/
def News (D : Nat → Prop) (w w' : World) (b : Nat) : Prop := D b ∨ (w.heap.size ≤ b ∧ b < w'.heap.size)
def RPut (D : Nat → Prop) (w : World) (us : List TermL) (N : List Nat) (e : Ending) (w' : World) : Prop := ∃ v', e = .returned (.tuple #[v', .string (strOf N)]) ∧ TsV (News D w w') v' w' us

end Go.Proofs.YtniogaimhkcedaaDoor.sh
/-
  The reference's Dh.
-/
namespace Go.Proofs.YtniogaimhkcedaaDoor.sh
open Go Go.RowKit
set_option linter.unusedVariables false
set_option linter.unusedSimpArgs false

def RDh (D : Nat → Prop) (w : World) (us : List TermL) (N : List Nat) (F : Bool) (e : Ending) (w' : World) : Prop := ∃ v', e = .returned (.tuple #[v', .string (strOf N), .bool F]) ∧ TsV (News D w w') v' w' us
theorem News.under {D : Nat → Prop} {w w1 w2 w3 : World} (h : w.heap.size ≤ w1.heap.size) (h2 : w2.heap.size ≤ w3.heap.size) {b : Nat} (hb : News D w1 w2 b) : News D w w3 b := by
  rcases hb with hb | ⟨h3, h4⟩
  · exact .inl hb
  · exact .inr ⟨Nat.le_trans h h3, Nat.lt_of_lt_of_le h4 h2⟩
theorem TsV.news {D : Nat → Prop} {v : Value} {w w1 w2 w3 : World} {ts : List TermL} (h : TsV (News D w1 w2) v w2 ts) (h1 : w.heap.size ≤ w1.heap.size) (h2 : Below w2.heap.size w2 w3) : TsV (News D w w3) v w3 ts := (h.under h2).mono fun b hb => hb.under h1 h2.size
theorem TsV.old {D : Nat → Prop} {v : Value} {w w1 : World} {ts : List TermL} (h : TsV D v w ts) (h2 : Below w.heap.size w w1) : TsV (News D w w1) v w1 ts := (h.under h2).mono fun b hb => .inl hb
theorem alloc_size (w : World) (o : Obj) : (w.alloc o).heap.size = w.heap.size + 1 := Array.size_push _
theorem new2s (a b : List Nat) (w : World) (o : Obj) : ValsV (.slice (some ⟨w.heap.size + 1, 0, none⟩) 2 2) ((w.alloc o).alloc (.cells #[.string (strOf a), .string (strOf b)] 9)) (strs [a, b]) := by
  have h := new2 a b (w.alloc o)
  rw [alloc_size] at h
  exact h
theorem sort2_lt {a y : List Nat} (h : lessL y a = true) : sort2 a y = [y, a] := if_pos h
theorem sort2_ge {a y : List Nat} (h : lessL y a = false) : sort2 a y = [a, y] := by unfold sort2; rw [h]; rfl

end Go.Proofs.YtniogaimhkcedaaDoor.sh
/-
  FOR LAYER 10, the mathematics: which terms a text tells; what is known; the least set of terms.
-/
namespace Go.Proofs.YtniogaimhkcedaaDoor.sh
open Go Go.RowKit
set_option linter.unusedVariables false
set_option linter.unusedSimpArgs false

/-- The terms that a text tells, by their numbers (from 0 on): the one that it names; else those that its parts tell, if it is a text of texts. -/
inductive Leaf (ts : List TermL) : List Nat → Nat → Prop
  | name {s : List Nat} {n : Nat} : findN ts.length s = n + 1 → Leaf ts s n
  | part {s l : List Nat} {k n : Nat} {ll : List (List Nat)} : findN ts.length s = 0 → splitL s = some (k, ll) → l ∈ ll → Leaf ts l n → Leaf ts s n
theorem leaf_name {ts : List TermL} {s : List Nat} {m n : Nat} (h : findN ts.length s = m + 1) : Leaf ts s n ↔ n = m := by
  constructor
  · intro hl
    cases hl with
    | name h2 => omega
    | part h2 => omega
  · rintro rfl
    exact .name h
theorem leaf_part {ts : List TermL} {s : List Nat} {k n : Nat} {ll : List (List Nat)} (h : findN ts.length s = 0) (h2 : splitL s = some (k, ll)) : Leaf ts s n ↔ ∃ l ∈ ll, Leaf ts l n := by
  constructor
  · intro hl
    cases hl with
    | name h3 => omega
    | part h3 h4 h5 h6 =>
      rw [h2] at h4
      cases h4
      exact ⟨_, h5, h6⟩
  · rintro ⟨l, h3, h4⟩
    exact .part h h2 h3 h4
theorem leaf_none {ts : List TermL} {s : List Nat} {n : Nat} (h : findN ts.length s = 0) (h2 : splitL s = none) : ¬ Leaf ts s n := fun hl => by
  cases hl with
  | name h3 => omega
  | part h3 h4 => rw [h2] at h4; cases h4
theorem leaf_lt {ts : List TermL} {s : List Nat} {n : Nat} (h : Leaf ts s n) : n < ts.length := by
  induction h with
  | @name s n h => have := findN_le ts.length s; rw [h] at this; omega
  | part _ _ _ _ ih => exact ih
/-- A text is known, where those terms are. -/
def KnownS (ts : List TermL) (H : Nat → Prop) (s : List Nat) : Prop := ∀ n, Leaf ts s n → H n
theorem known_name {ts : List TermL} {H : Nat → Prop} {s : List Nat} {m : Nat} (h : findN ts.length s = m + 1) : KnownS ts H s ↔ H m := ⟨fun hk => hk m (.name h), fun hm n hn => by rw [(leaf_name h).1 hn]; exact hm⟩
theorem known_part {ts : List TermL} {H : Nat → Prop} {s : List Nat} {k : Nat} {ll : List (List Nat)} (h : findN ts.length s = 0) (h2 : splitL s = some (k, ll)) : KnownS ts H s ↔ ∀ l ∈ ll, KnownS ts H l :=
  ⟨fun hk l hl n hn => hk n (.part h h2 hl hn), fun hk n hn => by
    obtain ⟨l, hl, h3⟩ := (leaf_part h h2).1 hn
    exact hk l hl n h3⟩
theorem known_text {ts : List TermL} {H : Nat → Prop} {s : List Nat} (h : findN ts.length s = 0) (h2 : splitL s = none) : KnownS ts H s := fun n hn => absurd hn (leaf_none h h2)
theorem KnownS.mono {ts : List TermL} {H H' : Nat → Prop} {s : List Nat} (h : KnownS ts H s) (hH : ∀ n, H n → H' n) : KnownS ts H' s := fun n hn => hH n (h n hn)
/-- What a secret is known by, or its public key in the table. -/
def PubK (ts : List TermL) (H : Nat → Prop) (y : List Nat) : Prop := (∃ i, ts[i]? = some (2, [y]) ∧ H i) ∨ KnownS ts H y
theorem PubK.mono {ts : List TermL} {H H' : Nat → Prop} {s : List Nat} (h : PubK ts H s) (hH : ∀ n, H n → H' n) : PubK ts H' s := by
  rcases h with ⟨i, h1, h2⟩ | h
  · exact .inl ⟨i, h1, hH i h2⟩
  · exact .inr (h.mono hH)
/-- A term can be made of what is known. -/
inductive MakesK (ts : List TermL) (H : Nat → Prop) : TermL → Prop
  | pub {x : List Nat} : KnownS ts H x → MakesK ts H (2, [x])
  | dh1 {x y : List Nat} : KnownS ts H x → PubK ts H y → MakesK ts H (3, [x, y])
  | dh2 {x y : List Nat} : KnownS ts H y → PubK ts H x → MakesK ts H (3, [x, y])
  | hash {ll : List (List Nat)} : (∀ p ∈ ll, KnownS ts H p) → MakesK ts H (4, ll)
  | box {k n a x : List Nat} : KnownS ts H k → KnownS ts H a → KnownS ts H x → MakesK ts H (5, [k, n, a, x])
theorem MakesK.mono {ts : List TermL} {H H' : Nat → Prop} {t : TermL} (h : MakesK ts H t) (hH : ∀ n, H n → H' n) : MakesK ts H' t := by
  cases h with
  | pub h => exact .pub (h.mono hH)
  | dh1 h h2 => exact .dh1 (h.mono hH) (h2.mono hH)
  | dh2 h h2 => exact .dh2 (h.mono hH) (h2.mono hH)
  | hash h => exact .hash fun p hp => (h p hp).mono hH
  | box h h2 h3 => exact .box (h.mono hH) (h2.mono hH) (h3.mono hH)
theorem makes_not_atom {ts : List TermL} {H : Nat → Prop} {t : TermL} (h : MakesK ts H t) : t.1 ≠ 1 := by cases h <;> simp
/-- What holds of all that can be made of what it holds of, and of what boxes tell. -/
structure ClosedK (ts : List TermL) (H : Nat → Prop) : Prop where
  made : ∀ i t, ts[i]? = some t → MakesK ts H t → H i
  told : ∀ i k n a x, ts[i]? = some (5, [k, n, a, x]) → H i → KnownS ts H k → ∀ j, Leaf ts x j → H j
/-- What is known by who was told some texts: the least. -/
def KN (ts : List TermL) (told : List (List Nat)) (n : Nat) : Prop := ∀ P : Nat → Prop, (∀ s ∈ told, ∀ j, Leaf ts s j → P j) → ClosedK ts P → P n
theorem kn_told {ts : List TermL} {told : List (List Nat)} {s : List Nat} {n : Nat} (hs : s ∈ told) (hn : Leaf ts s n) : KN ts told n := fun P h1 _ => h1 s hs n hn
theorem kn_least {ts : List TermL} {told : List (List Nat)} {P : Nat → Prop} (h1 : ∀ s ∈ told, ∀ j, Leaf ts s j → P j) (h2 : ClosedK ts P) : ∀ n, KN ts told n → P n := fun n h => h P h1 h2
theorem kn_closed (ts : List TermL) (told : List (List Nat)) : ClosedK ts (KN ts told) where
  made i t ht hm P h1 h2 := h2.made i t ht (hm.mono (kn_least h1 h2))
  told i k n a x ht hi hk j hj P h1 h2 := h2.told i k n a x ht (hi P h1 h2) (hk.mono (kn_least h1 h2)) j hj
theorem kn_sub {ts : List TermL} {told more : List (List Nat)} (h : ∀ s ∈ told, ∀ j, Leaf ts s j → KN ts more j) : ∀ n, KN ts told n → KN ts more n := kn_least h (kn_closed ts more)
theorem kn_mono {ts : List TermL} {told more : List (List Nat)} (h : ∀ s ∈ told, s ∈ more) : ∀ n, KN ts told n → KN ts more n := kn_sub fun s hs j hj => kn_told (h s hs) hj
theorem kn_lt {ts : List TermL} {told : List (List Nat)} {n : Nat} (h : KN ts told n) : n < ts.length :=
  h (· < ts.length) (fun _ _ _ hj => leaf_lt hj) ⟨fun i t ht _ => (List.getElem?_eq_some_iff.1 ht).1, fun _ _ _ _ _ _ _ _ _ hj => leaf_lt hj⟩
/-- Who is told what he knows knows no more. -/
theorem kn_again {ts : List TermL} {told again : List (List Nat)} (h : ∀ s ∈ again, KnownS ts (KN ts told) s) (h2 : ∀ n, KN ts told n → ∃ s ∈ again, Leaf ts s n) : ∀ n, KN ts again n ↔ KN ts told n := fun n =>
  ⟨kn_sub (fun s hs j hj => h s hs j hj) n, fun hn => by
    obtain ⟨s, hs, hl⟩ := h2 n hn
    exact kn_told hs hl⟩
/-- What can be made of nothing. -/
def SN (ts : List TermL) (n : Nat) : Prop := ∀ P : Nat → Prop, (∀ i t, ts[i]? = some t → MakesK ts P t → P i) → P n
theorem sn_made {ts : List TermL} {i : Nat} {t : TermL} (ht : ts[i]? = some t) (hm : MakesK ts (SN ts) t) : SN ts i := fun P hP => hP i t ht (hm.mono fun n h => h P hP)
theorem sn_inv {ts : List TermL} {n : Nat} (h : SN ts n) : ∃ t, ts[n]? = some t ∧ MakesK ts (SN ts) t :=
  (h (fun n => SN ts n ∧ ∃ t, ts[n]? = some t ∧ MakesK ts (SN ts) t) fun i t ht hm => by
    have := hm.mono (H' := SN ts) fun n h => h.1
    exact ⟨sn_made ht this, t, ht, this⟩).2
theorem sn_closed (ts : List TermL) : ClosedK ts (SN ts) where
  made i t ht hm := sn_made ht hm
  told i k n a x ht hi hk j hj := by
    obtain ⟨t, h1, h2⟩ := sn_inv hi
    rw [ht] at h1
    cases h1
    cases h2 with
    | box _ _ h => exact h j hj
/-- Who is told nothing knows just what can be made of nothing: no atom among it. -/
theorem kn_nothing {ts : List TermL} : ∀ n, KN ts [] n ↔ SN ts n := fun n => ⟨kn_least (fun s hs => by cases hs) (sn_closed ts) n, fun h => h _ fun i t ht hm => (kn_closed ts []).made i t ht hm⟩
theorem kn_no_atom {ts : List TermL} {n : Nat} {t : TermL} (ht : ts[n]? = some t) (hk : t.1 = 1) : ¬ KN ts [] n := fun h => by
  obtain ⟨u, h1, h2⟩ := sn_inv ((kn_nothing n).1 h)
  rw [ht] at h1
  cases h1
  exact makes_not_atom h2 hk

/-- The loop over texts that are still to be looked at: what is behind it tells what the first one tells. -/
def TodoL (ts : List TermL) (todo : List (List Nat)) (n : Nat) : Prop := ∃ s ∈ todo, Leaf ts s n
def weight (todo : List (List Nat)) : Nat := (todo.map fun s => s.length + 1).sum
theorem weight_nil : weight [] = 0 := rfl
theorem weight_cons (s : List Nat) (l : List (List Nat)) : weight (s :: l) = s.length + 1 + weight l := rfl
theorem weight_append (l m : List (List Nat)) : weight (l ++ m) = weight l + weight m := by simp [weight]
theorem weight_items : ∀ ll : List (List Nat), weight ll ≤ (itemsL ll).length
  | [] => Nat.le_refl _
  | l :: ll => by
    rw [weight_cons, itemsL_cons, List.length_append, itemL_len]
    have := weight_items ll
    omega
/-- The parts of a text of texts weigh less than it. -/
theorem weight_split {s : List Nat} {k : Nat} {ll : List (List Nat)} (hy : Bytes s) (h : splitL s = some (k, ll)) : weight ll + 3 ≤ s.length := by
  have h2 := ((splitL_says hy).1 h).1
  have h3 := weight_items ll
  rw [h2, joinL_len]
  omega
theorem split_bytes {s : List Nat} {k : Nat} {ll : List (List Nat)} (hy : Bytes s) (h : splitL s = some (k, ll)) : ∀ l ∈ ll, Bytes l := (says_bytes hy ((splitL_says hy).1 h)).2
theorem len_weight : ∀ l : List (List Nat), l.length ≤ weight l
  | [] => Nat.le_refl _
  | s :: l => by
    rw [weight_cons, List.length_cons]
    have := len_weight l
    omega
theorem todo_name {ts : List TermL} {s : List Nat} {l : List (List Nat)} {m n : Nat} (h : findN ts.length s = m + 1) : TodoL ts (s :: l) n ↔ n = m ∨ TodoL ts l n := by
  unfold TodoL
  simp only [List.mem_cons, exists_eq_or_imp, leaf_name h]
theorem todo_part {ts : List TermL} {s : List Nat} {l ll : List (List Nat)} {k n : Nat} (h : findN ts.length s = 0) (h2 : splitL s = some (k, ll)) : TodoL ts (s :: l) n ↔ TodoL ts (l ++ ll) n := by
  unfold TodoL
  simp only [List.mem_cons, exists_eq_or_imp, leaf_part h h2, List.mem_append]
  constructor
  · rintro (⟨x, h3, h4⟩ | ⟨x, h3, h4⟩)
    · exact ⟨x, .inr h3, h4⟩
    · exact ⟨x, .inl h3, h4⟩
  · rintro ⟨x, h3 | h3, h4⟩
    · exact .inr ⟨x, h3, h4⟩
    · exact .inl ⟨x, h3, h4⟩
theorem todo_text {ts : List TermL} {s : List Nat} {l : List (List Nat)} {n : Nat} (h : findN ts.length s = 0) (h2 : splitL s = none) : TodoL ts (s :: l) n ↔ TodoL ts l n := by
  unfold TodoL
  simp only [List.mem_cons, exists_eq_or_imp]
  exact ⟨fun h3 => h3.resolve_left (leaf_none h h2), .inr⟩
theorem todo_one {ts : List TermL} {s : List Nat} {n : Nat} : TodoL ts [s] n ↔ Leaf ts s n := by simp [TodoL]

/-- A list of bools as a set. -/
def hadP (b : List Bool) (n : Nat) : Prop := b[n]? = some true
def cntB (b : List Bool) : Nat := b.countP id
theorem cnt_le (b : List Bool) : cntB b ≤ b.length := List.countP_le_length
/-- Of two lists of a length, the one within the other: as many just if the same. -/
theorem cnt_grows : ∀ {b c : List Bool}, b.length = c.length → (∀ n, hadP b n → hadP c n) → cntB b ≤ cntB c ∧ (cntB b = cntB c → b = c)
  | [], [], _, _ => ⟨Nat.le_refl _, fun _ => rfl⟩
  | [], _ :: _, h, _ => by cases h
  | _ :: _, [], h, _ => by cases h
  | x :: b, y :: c, h, h2 => by
    have ih := cnt_grows (b := b) (c := c) (by simpa using h) (fun n hn => h2 (n + 1) hn)
    have h0 : x = true → y = true := fun e => by
      have := h2 0 (by rw [e]; rfl)
      simpa [hadP] using this
    unfold cntB at ih ⊢
    cases x <;> cases y <;> simp at h0 ⊢
    · exact ⟨ih.1, ih.2⟩
    · exact ⟨by omega, fun e => by omega⟩
    · exact ⟨ih.1, ih.2⟩
theorem had_set {b : List Bool} {i n : Nat} (hi : i < b.length) : hadP (b.set i true) n ↔ n = i ∨ hadP b n := by
  unfold hadP
  rw [List.getElem?_set]
  by_cases h : i = n
  · subst h
    simp [hi]
  · rw [if_neg h]
    constructor
    · exact .inr
    · rintro (e | e)
      · exact absurd e.symm h
      · exact e
theorem had_lt {b : List Bool} {n : Nat} (h : hadP b n) : n < b.length := (List.getElem?_eq_some_iff.1 h).1
theorem had_none (n i : Nat) : ¬ hadP (List.replicate n false) i := fun h => by
  unfold hadP at h
  rw [List.getElem?_replicate] at h
  split at h <;> simp at h
end Go.Proofs.YtniogaimhkcedaaDoor.sh
