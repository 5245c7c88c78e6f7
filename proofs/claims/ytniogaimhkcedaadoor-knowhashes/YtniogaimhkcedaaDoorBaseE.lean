/-
  General pieces, joined: DD DE DF DG DH DI DJ DK DL XV DM DN DO DP DQ DR DS DT DW.
-/
import Derived.Test.YtniogaimhkcedaaDoorBaseD
import Derived.Maps.OwnSet
import Derived.WalkSpells
/-
  Names of terms: strings.TrimLeft at a byte 0, term.nameOf, term.numberOf.
-/
namespace Go.Proofs.YtniogaimhkcedaaDoor.sh
open Go Go.RowKit
set_option linter.unusedVariables false
set_option linter.unusedSimpArgs false

theorem map_inj8 {l m : List Nat} (hl : Bytes l) (hm : Bytes m) (h : (l.map fun n => UInt8.ofNat n) = m.map fun n => UInt8.ofNat n) : l = m := strOf_same hl hm (by rw [← strOf_mk l, ← strOf_mk m, h])
theorem u8_zero {n : Nat} (h : n < 256) : (UInt8.ofNat n == 0) = decide (n = 0) := by
  by_cases h0 : n = 0
  · subst h0; rfl
  · rw [decide_eq_false h0]
    refine beq_eq_false_iff_ne.2 fun e => h0 ?_
    have := congrArg UInt8.toNat e
    simp at this
    omega
/-- Without the bytes 0 ahead. -/
def dropZ (l : List Nat) : List Nat := l.dropWhile (fun n => decide (n = 0))
theorem dropZ_map : ∀ {l : List Nat}, Bytes l → (l.map fun n => UInt8.ofNat n).dropWhile (· == 0) = (dropZ l).map fun n => UInt8.ofNat n
  | [], _ => rfl
  | x :: l, h => by
    have hx : x < 256 := h 0 x rfl
    have hl : Bytes l := fun i y hy => h (i + 1) y hy
    unfold dropZ
    rw [List.map_cons, List.dropWhile_cons, List.dropWhile_cons, u8_zero hx]
    by_cases h0 : x = 0
    · rw [if_pos (by simpa using h0), if_pos (by simpa using h0)]
      exact dropZ_map hl
    · rw [if_neg (by simpa using h0), if_neg (by simpa using h0)]
      rfl
theorem sTrim0 {l : List Nat} (h : Bytes l) (w : World) :
    Calls Tryd.prog 72 #[.string (strOf l), .int .u8 0] w fun e w' => e = .returned (.string (strOf (dropZ l))) ∧ w' = w := by
  have h1 := sTrimB l 0 w
  unfold Lib.trimLeftB at h1
  rw [dropZ_map h, strOf_mk] at h1
  exact h1
theorem drop_zeros : ∀ (k : Nat) {t : List Nat}, t.head? ≠ some 0 → dropZ (List.replicate k 0 ++ t) = t
  | 0, [], _ => rfl
  | 0, x :: t, h => by
    have hx : ¬ x = 0 := fun e => h (by rw [e]; rfl)
    show dropZ (x :: t) = _
    unfold dropZ
    rw [List.dropWhile_cons, if_neg (by simpa using hx)]
  | k + 1, t, h => by
    show dropZ (0 :: (List.replicate k 0 ++ t)) = t
    unfold dropZ
    rw [List.dropWhile_cons, if_pos (by rfl)]
    exact drop_zeros k h
theorem dropZ_form : ∀ l : List Nat, ∃ k, l = List.replicate k 0 ++ dropZ l ∧ (dropZ l).head? ≠ some 0
  | [] => ⟨0, rfl, by simp [dropZ]⟩
  | x :: l => by
    by_cases h0 : x = 0
    · obtain ⟨k, h1, h2⟩ := dropZ_form l
      have e : dropZ (x :: l) = dropZ l := by
        unfold dropZ
        rw [List.dropWhile_cons, if_pos (by simpa using h0)]
      refine ⟨k + 1, ?_, by rw [e]; exact h2⟩
      rw [e, List.replicate_succ, List.cons_append, ← h1, h0]
    · have e : dropZ (x :: l) = x :: l := by
        unfold dropZ
        rw [List.dropWhile_cons, if_neg (by simpa using h0)]
      exact ⟨0, by rw [e]; rfl, by rw [e]; simpa using h0⟩
theorem dropZ_bytes {l : List Nat} (h : Bytes l) : Bytes (dropZ l) := by
  obtain ⟨k, h1, _⟩ := dropZ_form l
  rw [h1] at h
  exact bytes_of_all fun x hx => h.all x (List.mem_append_right _ hx)
theorem bigL_num : ∀ (k n : Nat), n < 256 ^ k → bigL n k = List.replicate (k - (numT n k).length) 0 ++ numT n k
  | 0, n, h => by simp at h; subst h; rfl
  | k + 1, n, h => by
    have hd : n / 256 < 256 ^ k := by rw [Nat.pow_succ] at h; omega
    have ih := bigL_num k (n / 256) hd
    unfold bigL numT
    by_cases h0 : n = 0
    · subst h0
      rw [if_pos rfl]
      rw [show 0 / 256 = 0 from rfl, numT_zero] at ih
      rw [show 0 / 256 = 0 from rfl, ih]
      simp [List.replicate_succ']
    · rw [if_neg h0, ih, List.length_append, List.length_singleton, List.append_assoc, show k + 1 - ((numT (n / 256) k).length + 1) = k - (numT (n / 256) k).length by omega]
/-- The number of a name; 0 of what is none. -/
def noL (l : List Nat) : Nat := if l.take 4 = [116, 101, 114, 109] ∧ l.length = 32 then rdV (dropZ (l.drop 4)) else 0
theorem termN_drop (n : Nat) (h : n < 18446744073709551616) : (termN n).drop 4 = List.replicate (28 - (numL n).length) 0 ++ numL n := by
  have h1 := bigL_num 8 n h
  have h2 := numL_len n
  unfold termN
  rw [List.append_assoc, List.drop_append_of_le_length (by decide), show ([116, 101, 114, 109] : List Nat).drop 4 = [] from rfl, List.nil_append, h1]
  show List.replicate 20 0 ++ (List.replicate (8 - (numL n).length) 0 ++ numL n) = _
  rw [← List.append_assoc, List.replicate_append_replicate, show 20 + (8 - (numL n).length) = 28 - (numL n).length by omega]
theorem noL_name {n : Nat} (h : n < 18446744073709551616) : noL (termN n) = n := by
  unfold noL
  rw [if_pos ⟨by unfold termN; rfl, termN_len n⟩, termN_drop n h, drop_zeros _ (numL_head n h)]
  unfold rdV
  rw [if_pos ⟨numL_len n, numL_head n h⟩]
  exact numL_read n h
theorem noL_of {l : List Nat} (hy : Bytes l) (h : noL l ≠ 0) : l = termN (noL l) ∧ noL l < 18446744073709551616 := by
  unfold noL at h ⊢
  by_cases h1 : l.take 4 = [116, 101, 114, 109] ∧ l.length = 32
  · rw [if_pos h1] at h ⊢
    obtain ⟨k, e1, e2⟩ := dropZ_form (l.drop 4)
    have hb := dropZ_bytes (hy.drop 4)
    unfold rdV at h ⊢
    by_cases hR : Reads (dropZ (l.drop 4))
    · rw [if_pos hR] at h ⊢
      have hlt : readT (dropZ (l.drop 4)) < 18446744073709551616 := by
        have h2 := readT_lt _ _ rfl hb
        have h3 : 256 ^ (dropZ (l.drop 4)).length ≤ 256 ^ 8 := Nat.pow_le_pow_right (by decide) hR.1
        omega
      refine ⟨?_, hlt⟩
      have e3 := numL_of _ hb hR.1 hR.2
      have e4 := termN_drop _ hlt
      rw [e3] at e4
      have hk : k = 28 - (dropZ (l.drop 4)).length := by
        have := congrArg List.length e1
        rw [List.length_drop, List.length_append, List.length_replicate, h1.2] at this
        omega
      rw [← hk, ← e1] at e4
      have e5 : (termN (readT (dropZ (l.drop 4)))).take 4 = l.take 4 := by rw [h1.1]; unfold termN; rfl
      rw [← List.take_append_drop 4 (termN _), e5, e4, List.take_append_drop]
    · rw [if_neg hR] at h; exact absurd rfl h
  · rw [if_neg h1] at h; exact absurd rfl h
theorem findN_no {N : Nat} {l : List Nat} (hy : Bytes l) (hN : N < 18446744073709551616) : findN N l = if noL l ≤ N then noL l else 0 := by
  by_cases h0 : noL l = 0
  · rw [h0, if_pos (Nat.zero_le _)]
    refine findN_none fun i h1 h2 e => ?_
    have := noL_name (n := i) (by omega)
    rw [e, h0] at this
    omega
  · obtain ⟨e1, e2⟩ := noL_of hy h0
    by_cases h : noL l ≤ N
    · rw [if_pos h]
      conv => lhs; rw [e1]
      exact findN_at N _ hN (by omega) h
    · rw [if_neg h]
      refine findN_none fun i h1 h2 e => ?_
      have := noL_name (n := i) (by omega)
      rw [e] at this
      omega

set_option maxRecDepth 100000 in
set_option maxHeartbeats 1000000 in
theorem TrimD {l : List Nat} {w : World} (hl : Bytes l) :
    Calls Tryd.prog 64 #[.string (strOf l), .string ⟨#[0]⟩] w fun e w' => e = .returned (.string (strOf (dropZ l))) ∧ w' = w := by
  have CT := sTrim0 hl w
  have KL : Kept _ := ⟨hl⟩
  by_cases h0 : l = []
  · subst h0
    have B1 : Kept (true = decide (([] : List Nat) = [])) := ⟨rfl⟩
    clear hl CT
    go_enter Tryd.func64, Tryd.ntmps64
    go_wp2_with (first | ((with_reducible refine wv_val (d := 8) ?hd ?hw (.bool true) ?hr ?_); (case hd => rfl); (case hw => kernel_rfl); (case hr => intro w; exact run_seq (l := []) (m := []) rfl (by kernel_rfl) rfl nil_bytes nil_bytes B1.out w); simp only [Act.put, List.setIfInBounds_toArray, List.set_cons_succ, List.set_cons_zero]))
    go_ret
    exact ⟨rfl, rfl⟩
  · have B1 : Kept (false = decide (l = [])) := ⟨(decide_eq_false h0).symm⟩
    have B2 : Kept (false = decide (([0] : List Nat) = [])) := ⟨rfl⟩
    have Y0 : Kept (Bytes [0]) := ⟨bytes_of_all (fun x hx => by simp at hx; omega)⟩
    have K1 : Kept (1 = ([0] : List Nat).length) := ⟨rfl⟩
    have K2 : Kept (([0] : List Nat)[0]? = some 0) := ⟨rfl⟩
    clear h0 hl
    go_enter Tryd.func64, Tryd.ntmps64
    go_wp2_with (first | ((with_reducible refine wv_val (d := 8) ?hd ?hw (.bool false) ?hr ?_); (case hd => rfl); (case hw => kernel_rfl); (case hr => intro w; exact run_seq (m := []) rfl (by kernel_rfl) rfl KL.out nil_bytes B1.out w); simp only [Act.put, List.setIfInBounds_toArray, List.set_cons_succ, List.set_cons_zero]) | ((with_reducible refine wv_val (d := 11) ?hd ?hw (.bool false) ?hr ?_); (case hd => rfl); (case hw => kernel_rfl); (case hr => intro w; exact run_seq (l := [0]) (m := []) rfl (by kernel_rfl) rfl Y0.out nil_bytes B2.out w); simp only [Act.put, List.setIfInBounds_toArray, List.set_cons_succ, List.set_cons_zero]) | ((with_reducible refine wv_val (d := 15) ?hd ?hw (.int .i64 ((1 : Nat) : Int)) ?hr ?_); (case hd => rfl); (case hw => kernel_rfl); (case hr => intro w; exact run_slen (l := [0]) rfl (by kernel_rfl) K1.out w); simp only [Act.put, List.setIfInBounds_toArray, List.set_cons_succ, List.set_cons_zero]) | ((with_reducible refine wv_val (d := 19) ?hd ?hw (.int .u8 ((0 : Nat) : Int)) ?hr ?_); (case hd => rfl); (case hw => kernel_rfl); (case hr => intro w; exact run_sidx (l := [0]) (i := 0) rfl (by kernel_rfl) rfl Y0.out K2.out w); simp only [Act.put, List.setIfInBounds_toArray, List.set_cons_succ, List.set_cons_zero]) | ((with_reducible refine wv_val (d := 24) ?hd ?hw (.int .u8 ((0 : Nat) : Int)) ?hr ?_); (case hd => rfl); (case hw => kernel_rfl); (case hr => intro w; exact run_sidx (l := [0]) (i := 0) rfl (by kernel_rfl) rfl Y0.out K2.out w); simp only [Act.put, List.setIfInBounds_toArray, List.set_cons_succ, List.set_cons_zero]))
    refine CT.mono ?_
    rintro e w2 ⟨rfl, rfl⟩
    go_wp2_with fail
    go_ret
    exact ⟨rfl, rfl⟩

theorem rep_map : ∀ c : Nat, Lib.repeatL ([0].map fun n : Nat => UInt8.ofNat n) c = (List.replicate c 0).map fun n : Nat => UInt8.ofNat n
  | 0 => rfl
  | c + 1 => by
    unfold Lib.repeatL
    rw [rep_map c, List.replicate_succ]
    rfl
theorem RepD {c : Nat} {w : World} (hc : c ≤ 28) :
    Calls Tryd.prog 56 #[.string ⟨#[0]⟩, .int .i64 (c : Int)] w fun e w' => e = .returned (.string (strOf (List.replicate c 0))) ∧ Below w.heap.size w w' := by
  have h := sRep (l := [0]) (c := c) w (by simp; omega) (by omega)
  rw [rep_map, strOf_mk] at h
  exact h
set_option maxRecDepth 100000 in
set_option maxHeartbeats 1000000 in
theorem nameOfD {n : Nat} {w : World} (hn : n < 18446744073709551616) :
    Calls Tryd.prog 37 #[.int .u64 (n : Int)] w fun e w' => e = .returned (.string (strOf (termN n))) ∧ Below w.heap.size w w' := by
  have CN := NumD (w := w) hn
  have hz8 := numL_len n
  have hD := termN_drop n hn
  have hH : (termN n).take 4 = [116, 101, 114, 109] := by unfold termN; rfl
  obtain ⟨D, hDe⟩ : ∃ D, D = numL n := ⟨_, rfl⟩
  rw [← hDe] at CN hz8 hD
  obtain ⟨z, hz⟩ : ∃ z, z = D.length := ⟨_, rfl⟩
  rw [← hz] at hz8 hD
  obtain ⟨c, hc⟩ : ∃ c, c = 28 - z := ⟨_, rfl⟩
  rw [← hc] at hD
  have hc28 : c ≤ 28 := by omega
  have CR := fun w1 : World => RepD (w := w1) hc28
  obtain ⟨R, hR⟩ : ∃ R, R = List.replicate c 0 := ⟨_, rfl⟩
  rw [← hR] at CR hD
  obtain ⟨T, hT⟩ : ∃ T, T = termN n := ⟨_, rfl⟩
  rw [← hT] at hD hH ⊢
  obtain ⟨P, hP⟩ : ∃ P, P = [116, 101, 114, 109] ++ R := ⟨_, rfl⟩
  have KT : Kept (T = P ++ D) := ⟨by rw [hP, List.append_assoc, ← hD, ← hH, List.take_append_drop]⟩
  have KP : Kept _ := ⟨hP⟩
  have KZ : Kept _ := ⟨hz⟩
  have KC : Kept _ := ⟨hc⟩
  have KCN : Kept _ := ⟨CN⟩
  have KCR : Kept _ := ⟨CR⟩
  have B1 : Kept (([116, 101, 114, 109] : List Nat).length + R.length < 4611686018427387904) := ⟨by rw [hR, List.length_replicate]; simp; omega⟩
  have B2 : Kept (P.length + D.length < 4611686018427387904) := ⟨by rw [hP, hR, List.length_append, List.length_replicate, ← hz]; simp; omega⟩
  clear hD hH hDe hz hc hR hT hP CN CR
  go_enter Tryd.func37, Tryd.ntmps37
  go_wp2_with fail
  refine KCN.out.mono ?_
  rintro e w1 ⟨rfl, q1⟩
  go_wp2_with (first | ((with_reducible refine wv_val (d := 7) ?hd ?hw (.int .i64 (z : Int)) ?hr ?_); (case hd => rfl); (case hw => kernel_rfl); (case hr => intro w; exact run_slen rfl (by kernel_rfl) KZ.out w); simp only [Act.put, List.setIfInBounds_toArray, List.set_cons_succ, List.set_cons_zero]) | ((with_reducible refine wv_val (d := 8) ?hd ?hw (.int .i64 (c : Int)) ?hr ?_); (case hd => rfl); (case hw => kernel_rfl); (case hr => intro w; exact run_subC 28 rfl (by kernel_rfl) KC.out (by omega) (by decide) w); simp only [Act.put, List.setIfInBounds_toArray, List.set_cons_succ, List.set_cons_zero]))
  refine (KCR.out w1).mono ?_
  rintro e w2 ⟨rfl, q2⟩
  go_wp2_with (first | ((with_reducible refine wv_val (d := 10) ?hd ?hw (.string (strOf P)) ?hr ?_); (case hd => rfl); (case hw => kernel_rfl); (case hr => intro w; exact run_scat (l := [116, 101, 114, 109]) rfl (by kernel_rfl) (by kernel_rfl) B1.out KP.out w); simp only [Act.put, List.setIfInBounds_toArray, List.set_cons_succ, List.set_cons_zero]) | ((with_reducible refine wv_val (d := 12) ?hd ?hw (.string (strOf T)) ?hr ?_); (case hd => rfl); (case hw => kernel_rfl); (case hr => intro w; exact run_scat rfl (by kernel_rfl) (by kernel_rfl) B2.out KT.out w); simp only [Act.put, List.setIfInBounds_toArray, List.set_cons_succ, List.set_cons_zero]))
  go_ret
  exact ⟨rfl, q1.trans (q2.mono q1.size)⟩

theorem hasP_eq {l : List Nat} (hl : Bytes l) : Lib.hasPrefix (l.map fun n => UInt8.ofNat n) ([116, 101, 114, 109].map fun n : Nat => UInt8.ofNat n) = decide (l.take 4 = [116, 101, 114, 109]) := by
  unfold Lib.hasPrefix
  have hT : Bytes [116, 101, 114, 109] := bytes_of_all (fun x hx => by simp at hx; omega)
  by_cases h : l.take 4 = [116, 101, 114, 109]
  · rw [decide_eq_true h, List.isPrefixOf_iff_prefix, List.prefix_iff_eq_take, List.length_map, ← List.map_take]
    exact congrArg _ h.symm
  · rw [decide_eq_false h]
    refine Bool.eq_false_iff.2 fun e => h ?_
    rw [List.isPrefixOf_iff_prefix, List.prefix_iff_eq_take, List.length_map, ← List.map_take] at e
    exact (map_inj8 hT (hl.take _) e).symm
theorem CutD {l : List Nat} (hl : Bytes l) (w : World) :
    Calls Tryd.prog 62 #[.string (strOf l), .string ⟨#[116, 101, 114, 109]⟩] w fun e w' => e = .returned (.tuple #[.string (strOf (if l.take 4 = [116, 101, 114, 109] then l.drop 4 else l)), .bool (decide (l.take 4 = [116, 101, 114, 109]))]) ∧ w' = w := by
  have h := sCut l [116, 101, 114, 109] w
  unfold Lib.trimPrefix at h
  rw [hasP_eq hl] at h
  refine h.mono ?_
  rintro e w' ⟨rfl, rfl⟩
  refine ⟨?_, rfl⟩
  by_cases h : l.take 4 = [116, 101, 114, 109]
  · rw [if_pos h, decide_eq_true h, if_pos rfl, List.length_map, ← List.map_drop, strOf_mk]
    rfl
  · rw [if_neg h, decide_eq_false h, if_neg (by decide), strOf_mk]
set_option maxRecDepth 100000 in
set_option maxHeartbeats 1000000 in
theorem numberOfD {l : List Nat} {w : World} (hl : Bytes l) (hL : l.length ≤ maxLen) :
    Calls Tryd.prog 49 #[.string (strOf l)] w fun e w' => e = .returned (.int .u64 (noL l : Int)) ∧ w' = w := by
  have CC := CutD hl w
  obtain ⟨N, hN⟩ : ∃ N, N = noL l := ⟨_, rfl⟩
  rw [← hN]
  by_cases h4 : l.take 4 = [116, 101, 114, 109]
  case neg =>
    rw [if_neg h4, decide_eq_false h4] at CC
    have K0 : Kept (N = 0) := ⟨by rw [hN]; unfold noL; rw [if_neg (fun h => h4 h.1)]⟩
    have KCC : Kept _ := ⟨CC⟩
    clear hN h4 CC
    go_enter Tryd.func49, Tryd.ntmps49
    go_wp2_with fail
    refine KCC.out.mono ?_
    rintro e w1 ⟨rfl, hw⟩
    obtain rfl := hw.symm
    go_wp2_with fail
    go_ret
    exact ⟨by rw [K0.out]; rfl, rfl⟩
  case pos =>
    rw [if_pos h4, decide_eq_true h4] at CC
    obtain ⟨m, hm⟩ : ∃ m, m = l.length := ⟨_, rfl⟩
    have KM : Kept _ := ⟨hm⟩
    by_cases h32 : m = 32
    case neg =>
      have K0 : Kept (N = 0) := ⟨by rw [hN]; unfold noL; rw [if_neg (fun h => h32 (hm.trans h.2))]⟩
      have B1 : Kept (true = !decide ((m : Int) = 32)) := ⟨by rw [decide_eq_false (by omega)]; rfl⟩
      have KCC : Kept _ := ⟨CC⟩
      clear hN h4 CC h32 hm
      go_enter Tryd.func49, Tryd.ntmps49
      go_wp2_with fail
      refine KCC.out.mono ?_
      rintro e w1 ⟨rfl, hw⟩
      obtain rfl := hw.symm
      go_wp2_with (first | ((with_reducible refine wv_val (d := 16) ?hd ?hw (.int .i64 (m : Int)) ?hr ?_); (case hd => rfl); (case hw => kernel_rfl); (case hr => intro w; exact run_slen rfl (by kernel_rfl) KM.out w); simp only [Act.put, List.setIfInBounds_toArray, List.set_cons_succ, List.set_cons_zero]) | ((with_reducible refine wv_val (d := 17) ?hd ?hw (.bool true) ?hr ?_); (case hd => rfl); (case hw => kernel_rfl); (case hr => intro w; exact run_neI rfl (by kernel_rfl) rfl B1.out w); simp only [Act.put, List.setIfInBounds_toArray, List.set_cons_succ, List.set_cons_zero]))
      go_ret
      exact ⟨by rw [K0.out]; rfl, rfl⟩
    case pos =>
      have B1 : Kept (false = !decide ((m : Int) = 32)) := ⟨by rw [decide_eq_true (by omega)]; rfl⟩
      have CT := fun w1 : World => TrimD (w := w1) (hl.drop 4)
      obtain ⟨T, hT⟩ : ∃ T, T = dropZ (l.drop 4) := ⟨_, rfl⟩
      have CR := fun w1 : World => ReadD (s := T) (w := w1) (by rw [hT]; exact dropZ_bytes (hl.drop 4)) (by
        obtain ⟨k, e1, _⟩ := dropZ_form (l.drop 4)
        have := congrArg List.length e1
        rw [List.length_append, List.length_drop, List.length_replicate, ← hT, ← hm] at this
        unfold maxLen
        omega)
      rw [← hT] at CT
      have hV : N = rdV T := by rw [hN]; unfold noL; rw [if_pos ⟨h4, by omega⟩, hT]
      rw [← hV] at CR
      have KE : Kept ((rdE T = 0) ∨ (rdE T = 4 ∧ N = 0)) := ⟨by
        rw [hV]
        unfold rdE rdV
        by_cases hR : Reads T
        · exact .inl (if_pos hR)
        · exact .inr ⟨if_neg hR, if_neg hR⟩⟩
      obtain ⟨E, hE⟩ : ∃ E, E = rdE T := ⟨_, rfl⟩
      rw [← hE] at CR KE
      have KCC : Kept _ := ⟨CC⟩
      have KCT : Kept _ := ⟨CT⟩
      have KCR : Kept _ := ⟨CR⟩
      clear hN h4 CC h32 hm hT CT CR hV hE
      rcases KE.out with hE | ⟨hE, hN0⟩
      · subst hE
        clear KE
        go_enter Tryd.func49, Tryd.ntmps49
        go_wp2_with fail
        refine KCC.out.mono ?_
        rintro e w1 ⟨rfl, hw⟩
        obtain rfl := hw.symm
        go_wp2_with (first | ((with_reducible refine wv_val (d := 16) ?hd ?hw (.int .i64 (m : Int)) ?hr ?_); (case hd => rfl); (case hw => kernel_rfl); (case hr => intro w; exact run_slen rfl (by kernel_rfl) KM.out w); simp only [Act.put, List.setIfInBounds_toArray, List.set_cons_succ, List.set_cons_zero]) | ((with_reducible refine wv_val (d := 17) ?hd ?hw (.bool false) ?hr ?_); (case hd => rfl); (case hw => kernel_rfl); (case hr => intro w; exact run_neI rfl (by kernel_rfl) rfl B1.out w); simp only [Act.put, List.setIfInBounds_toArray, List.set_cons_succ, List.set_cons_zero]))
        refine (KCT.out w).mono ?_
        rintro e w2 ⟨rfl, hw⟩
        obtain rfl := hw.symm
        go_wp2_with fail
        refine (KCR.out w).mono ?_
        rintro e w3 ⟨rfl, hw⟩
        obtain rfl := hw.symm
        go_wp2_with fail
        go_ret
        exact ⟨rfl, rfl⟩
      · subst hE hN0
        clear KE
        go_enter Tryd.func49, Tryd.ntmps49
        go_wp2_with fail
        refine KCC.out.mono ?_
        rintro e w1 ⟨rfl, hw⟩
        obtain rfl := hw.symm
        go_wp2_with (first | ((with_reducible refine wv_val (d := 16) ?hd ?hw (.int .i64 (m : Int)) ?hr ?_); (case hd => rfl); (case hw => kernel_rfl); (case hr => intro w; exact run_slen rfl (by kernel_rfl) KM.out w); simp only [Act.put, List.setIfInBounds_toArray, List.set_cons_succ, List.set_cons_zero]) | ((with_reducible refine wv_val (d := 17) ?hd ?hw (.bool false) ?hr ?_); (case hd => rfl); (case hw => kernel_rfl); (case hr => intro w; exact run_neI rfl (by kernel_rfl) rfl B1.out w); simp only [Act.put, List.setIfInBounds_toArray, List.set_cons_succ, List.set_cons_zero]))
        refine (KCT.out w).mono ?_
        rintro e w2 ⟨rfl, hw⟩
        obtain rfl := hw.symm
        go_wp2_with fail
        refine (KCR.out w).mono ?_
        rintro e w3 ⟨rfl, hw⟩
        obtain rfl := hw.symm
        go_wp2_with fail
        go_ret
        exact ⟨rfl, rfl⟩
end Go.Proofs.YtniogaimhkcedaaDoor.sh
/-
  What a table of terms is in memory: a struct, a map, a slice; what calls leave of it; (*Table).made.
-/
namespace Go.Proofs.YtniogaimhkcedaaDoor.sh
open Go Go.RowKit Go.Maps
set_option linter.unusedVariables false
set_option linter.unusedSimpArgs false

/-- A term that a table may have. -/
def GoodT (t : TermL) : Prop := t.1 < 256 ∧ (∀ p ∈ t.2, Bytes p) ∧ Fits t.2
def keyL (t : TermL) : List Nat := joinL t.1 t.2
def litL (l : List Nat) : Lit := .string (l.map fun n => UInt8.ofNat n)
theorem keyL_bytes {t : TermL} (h : GoodT t) : Bytes (keyL t) := joinL_bytes h.1 h.2.1 h.2.2
theorem keyL_inj {t u : TermL} (h : GoodT t) (h2 : GoodT u) (e : litL (keyL t) = litL (keyL u)) : t = u := by
  unfold litL at e
  have := map_inj8 (keyL_bytes h) (keyL_bytes h2) (by simpa using e)
  obtain ⟨e1, e2⟩ := join_one this
  exact Prod.ext e1 e2
theorem good_of {t : TermL} (h : Formed t) (hF : Fits t.2) : GoodT t := by
  refine ⟨?_, h.1, hF⟩
  rcases h.2 with ⟨e, _⟩ | ⟨e, _⟩ | ⟨e, _⟩ | e | e <;> omega
theorem good_mem {ts : List TermL} (h : Terms ts) {t : TermL} (ht : t ∈ ts) : GoodT t := good_of (h.2 t ht) (h.1.2 t ht)
/-- The numbers of terms as a map: the last one first. -/
def numR : List TermL → DataW Unit
  | [] => .map []
  | t :: r => (numR r).put (litL (keyL t)) (.lit (.int .u64 ((r.length + 1 : Nat) : Int)))
def numD (ts : List TermL) : DataW Unit := numR ts.reverse
theorem numD_snoc (ts : List TermL) (t : TermL) : numD (ts ++ [t]) = (numD ts).put (litL (keyL t)) (.lit (.int .u64 ((ts.length + 1 : Nat) : Int))) := by
  unfold numD
  rw [List.reverse_append]
  show (numR ts.reverse).put _ (.lit (.int .u64 ((ts.reverse.length + 1 : Nat) : Int))) = _
  rw [List.length_reverse]
theorem numR_isMap : ∀ r : List TermL, IsMap (numR r)
  | [] => isMap_empty
  | t :: r => (numR_isMap r).put _ _
theorem isKey_lit (l : List Nat) : WideAt.IsKeyLit (litL l) := trivial
theorem numR_has : ∀ (r : List TermL), (∀ t ∈ r, GoodT t) → ∀ u, GoodT u → Maps.has (numR r) (litL (keyL u)) = decide (u ∈ r)
  | [], _, u, _ => rfl
  | t :: r, h, u, hu => by
    have hr := numR_has r (fun x hx => h x (List.mem_cons_of_mem _ hx)) u hu
    show Maps.has ((numR r).put (litL (keyL t)) _) _ = _
    by_cases e : u = t
    · subst e
      rw [has_put_same (numR_isMap r) (isKey_lit _), decide_eq_true List.mem_cons_self]
    · rw [has_put_other (fun e2 => e (keyL_inj hu (h t List.mem_cons_self) e2)), hr]
      exact decide_eq_decide.2 ⟨fun h => List.mem_cons_of_mem _ h, fun h => by
        rcases List.mem_cons.1 h with h | h
        · exact absurd h e
        · exact h⟩
theorem numR_at : ∀ (r : List TermL), (∀ t ∈ r, GoodT t) → r.Nodup → ∀ u ∈ r, ∀ z, (numR r).atKey (litL (keyL u)) z = .lit (.int .u64 ((r.reverse.idxOf u + 1 : Nat) : Int))
  | [], _, _, u, hu, _ => by cases hu
  | t :: r, h, hn, u, hu, z => by
    rw [List.nodup_cons] at hn
    show DataW.atKey ((numR r).put (litL (keyL t)) _) _ z = _
    by_cases e : u = t
    · subst e
      rw [atKey_put_same (numR_isMap r) (isKey_lit _), List.reverse_cons, List.idxOf_append, if_neg (by simpa using hn.1), List.length_reverse]
      simp
    · have hu2 : u ∈ r := by
        rcases List.mem_cons.1 hu with h | h
        · exact absurd h e
        · exact h
      have hr := numR_at r (fun x hx => h x (List.mem_cons_of_mem _ hx)) hn.2 u hu2 z
      rw [atKey_put_other (fun e2 => e (keyL_inj (h u hu) (h t List.mem_cons_self) e2)), hr, List.reverse_cons, List.idxOf_append, if_pos (by simpa using hu2)]
theorem numD_has {ts : List TermL} (h : Terms ts) {u : TermL} (hu : GoodT u) : Maps.has (numD ts) (litL (keyL u)) = decide (u ∈ ts) := by
  unfold numD
  rw [numR_has _ (fun t ht => good_mem h (by simpa using ht)) u hu]
  exact decide_eq_decide.2 (by simp)
theorem numD_at {ts : List TermL} (h : Terms ts) {u : TermL} (hu : u ∈ ts) (z : DataW Unit) : (numD ts).atKey (litL (keyL u)) z = .lit (.int .u64 ((ts.idxOf u + 1 : Nat) : Int)) := by
  unfold numD
  rw [numR_at _ (fun t ht => good_mem h (by simpa using ht)) ((List.reverse_perm ts).symm.nodup h.1.1) u (by simpa using hu) z, List.reverse_reverse]

/-- Blocks below w's size, but for M, are what they were. -/
structure Out (M : Nat → Prop) (w w' : World) : Prop where
  os : w'.os = w.os
  tape : w'.tape = w.tape
  output : w'.output = w.output
  size : w.heap.size ≤ w'.heap.size
  block : ∀ k, k < w.heap.size → ¬ M k → w'.heap[k]? = w.heap[k]?
/-- .. and M' has no block that was there and not M's. -/
def Turn (M : Nat → Prop) (w : World) (M' : Nat → Prop) (w' : World) : Prop := Out M w w' ∧ ∀ b, M' b → M b ∨ w.heap.size ≤ b
theorem Turn.of_below {M : Nat → Prop} {w w' : World} (h : Below w.heap.size w w') : Turn M w M w' := ⟨⟨h.os, h.tape, h.output, h.size, fun k hk _ => h.block k hk⟩, fun b hb => .inl hb⟩
theorem Turn.refl (M : Nat → Prop) (w : World) : Turn M w M w := Turn.of_below (Below.refl _ _)
theorem Turn.trans {M M1 M2 : Nat → Prop} {w w1 w2 : World} (h : Turn M w M1 w1) (h2 : Turn M1 w1 M2 w2) : Turn M w M2 w2 :=
  ⟨⟨h2.1.os.trans h.1.os, h2.1.tape.trans h.1.tape, h2.1.output.trans h.1.output, Nat.le_trans h.1.size h2.1.size, fun k hk hM => (h2.1.block k (Nat.lt_of_lt_of_le hk h.1.size) (fun hk1 => by
      rcases h.2 k hk1 with h | h
      · exact hM h
      · omega)).trans (h.1.block k hk hM)⟩, fun b hb => by
    rcases h2.2 b hb with h3 | h3
    · exact h.2 b h3
    · exact .inr (Nat.le_trans h.1.size h3)⟩
theorem Turn.size {M M' : Nat → Prop} {w w' : World} (h : Turn M w M' w') : w.heap.size ≤ w'.heap.size := h.1.size
theorem Turn.not {M M' : Nat → Prop} {w w' : World} (h : Turn M w M' w') {b : Nat} (hb : ¬ M b) (hl : b < w.heap.size) : ¬ M' b := fun h2 => by
  rcases h.2 b h2 with h3 | h3
  · exact hb h3
  · omega
theorem Turn.blk {M M' : Nat → Prop} {w w' : World} (h : Turn M w M' w') {g : Nat} {t : TypeId} {A : Array Value} (hb : Blk w g t A) (hM : ¬ M g) : Blk w' g t A := (h.1.block g hb.lt hM).trans hb
theorem Turn.vals {M M' : Nat → Prop} {w w' : World} (h : Turn M w M' w') {vs : List Value} {v : Value} (hr : ValsV v w vs) (hM : ∀ b, blkOf v = some b → ¬ M b) : ValsV v w' vs := by
  obtain ⟨p, c, rfl, hlc, hp⟩ := hr
  refine ⟨p, c, rfl, hlc, fun hne => ?_⟩
  obtain ⟨A, rfl, hA, hc⟩ := hp hne
  exact ⟨A, rfl, Nat.lt_of_lt_of_le hA h.size, fun j x hx => (World.cell?_of_block (by rw [add_block]; exact h.1.block _ hA (hM _ rfl))).trans (hc j x hx)⟩

/-- The struct, the map and the slice of a table. -/
def TabAt (tb B mb : Nat) (v : Value) (ts : List TermL) (M : Nat → Prop) (w : World) : Prop :=
  Blk w tb 78 #[.map (some mb), v] ∧ (B ≤ tb ∧ B ≤ mb ∧ tb ≠ mb) ∧ w.ownsMap Tryd.prog 9 (plainElem (H := Unit) Tryd.prog 44) mb ts.length (numD ts) ∧ VRow B 9 (strs (ts.map keyL)) v w ∧ (blkOf v ≠ some tb ∧ blkOf v ≠ some mb) ∧ ∀ b, M b ↔ (b = tb ∨ b = mb ∨ blkOf v = some b)
/-- A table that has these terms; M: its blocks, all from B on. -/
structure Tab (tb B : Nat) (ts : List TermL) (M : Nat → Prop) (w : World) : Prop where
  at' : ∃ mb v, TabAt tb B mb v ts M w
  terms : Terms ts
theorem Tab.range {tb B : Nat} {ts : List TermL} {M : Nat → Prop} {w : World} (h : Tab tb B ts M w) {b : Nat} (hb : M b) : B ≤ b ∧ b < w.heap.size := by
  obtain ⟨mb, v, h1, h2, h3, h4, h5, h6⟩ := h.at'
  rcases (h6 b).1 hb with rfl | rfl | hb
  · exact ⟨h2.1, h1.lt⟩
  · exact ⟨h2.2.1, h3.lt⟩
  · exact h4.range b hb
theorem TabAt.under {tb B mb : Nat} {v : Value} {ts : List TermL} {M : Nat → Prop} {w w' : World} (h : TabAt tb B mb v ts M w) (hb : Below w.heap.size w w') : TabAt tb B mb v ts M w' := by
  obtain ⟨h1, h2, h3, h4, h5, h6⟩ := h
  exact ⟨h1.under hb, h2, h3.kept (row := none) (grown_none hb) (by simp), h4.under hb, h5, h6⟩
theorem Tab.under {tb B : Nat} {ts : List TermL} {M : Nat → Prop} {w w' : World} (h : Tab tb B ts M w) (hb : Below w.heap.size w w') : Tab tb B ts M w' := by
  obtain ⟨mb, v, h1⟩ := h.at'
  exact ⟨⟨mb, v, h1.under hb⟩, h.terms⟩
theorem Tab.below {tb B : Nat} {ts : List TermL} {M M' : Nat → Prop} {w w' : World} (h : Tab tb B ts M w) (ht : Turn M w M' w') : Below B w w' :=
  ⟨ht.1.os, ht.1.tape, ht.1.output, ht.1.size, fun k hk => by
    obtain ⟨mb, v, h1, h2, _⟩ := h.at'
    have hlt := h1.lt
    exact ht.1.block k (by have := h2.1; omega) (fun hM => by have := (h.range hM).1; omega)⟩
section
variable {ops : Array Oper} {rest : List Oper} {o : Oper} {a : Act} {w : World} {Q : Exit → Act → World → Prop}
theorem law_str : Keyed Tryd.prog 9 := string_keyed Tryd.underlying9
theorem zero_u64 (w : World) : (zeroValue 44).run Tryd.prog w = .ok (.int .u64 0) w := by kernel_rfl
theorem key_lit {l : List Nat} (hl : l.length ≤ maxLen) : keyOf Tryd.prog 9 (.string (strOf l)) = some (litL l) := by
  have h := WideMaps.keyOf_string_mk (P := Tryd.prog) (k := 9) Tryd.underlying9 (s := strOf l) (by rw [strOf_size]; exact hl)
  rw [sa_data] at h
  exact h
/-- 'n, had := m[s]'. -/
theorem wl_lookT (hg : o.guard = none) (m x : Operand) (ho : o.op = Op.lookup 76 m x true) (mb n : Nat) (D : DataW Unit) (hm : a.eval m = .map (some mb)) (hown : w.ownsMap Tryd.prog 9 (plainElem (H := Unit) Tryd.prog 44) mb n D)
    (J : List Nat) (hx : a.eval x = .string (strOf J)) (hJ : J.length ≤ maxLen) (c : Nat) (b : Bool) (hb : Maps.has D (litL J) = b) (hc : D.atKey (litL J) (.lit (.int .u64 0)) = .lit (.int .u64 (c : Int)))
    (h : wpList Tryd.prog ops Q rest (a.put o.dst (.tuple #[.int .u64 (c : Int), .bool b])) w) : wpList Tryd.prog ops Q (o :: rest) a w :=
  wpList_lookup_own_ok_int w hg m x 76 ho 9 44 .u64 law_str Tryd.underlying76 Tryd.underlying44 (zero_u64 w) mb n D hm hown _ _ hx (key_lit hJ) fun c' hat _ => by
    rw [hc] at hat
    simp only [DataW.lit.injEq, Lit.int.injEq, true_and] at hat
    subst hat
    rw [hb]
    exact h
/-- 'm[s] = n'. -/
theorem wl_updT (hg : o.guard = none) (m x y : Operand) (ho : o.op = Op.mapUpdate 76 m x y) (mb n : Nat) (D : DataW Unit) (hm : a.eval m = .map (some mb)) (hown : w.ownsMap Tryd.prog 9 (plainElem (H := Unit) Tryd.prog 44) mb n D) (hn : n < 1000001)
    (J : List Nat) (hx : a.eval x = .string (strOf J)) (hJ : J.length ≤ maxLen) (c : Nat) (hy : a.eval y = .int .u64 (c : Int)) (hc : c < 1000001)
    (h : ∀ w', w'.ownsMap Tryd.prog 9 (plainElem (H := Unit) Tryd.prog 44) mb (n + 1) (D.put (litL J) (.lit (.int .u64 (c : Int)))) → w.grownBy w' (some mb) → w.heap.size = w'.heap.size → wpList Tryd.prog ops Q rest (a.put o.dst undef) w') : wpList Tryd.prog ops Q (o :: rest) a w :=
  wpList_mapUpdate_in w hg m x y 76 ho 9 44 law_str Tryd.underlying76 (plainElem Tryd.prog 44) mb n D hm hown (by unfold maxLen; omega) _ _ _ hx hy (key_lit hJ) _ [] (plainElem_int Tryd.underlying44 (by simp [Lit.wf, IntKind.min, IntKind.max, IntKind.signed, IntKind.bits]; omega)) fun w' h1 h2 => h w' h1 h2.grown (by
    obtain ⟨es, ck, es', ck', _, rfl⟩ := h2
    simp [ChangeMaps.setBlock])
end
theorem run_c3U {o : Oper} {a : Act} {x : Operand} {n : Nat} (ho : o.op = .convert 3 44 x) (hx : a.eval x = .int .i64 (n : Int)) (hn : n < 4611686018427387904) (w : World) : (execOp a.eval o).run Tryd.prog w = .ok (.value (.int .u64 (n : Int))) w := by
  unfold execOp
  simp only [ho, hx]
  simp [go_sem, IntKind.wrap_u64]
  omega
theorem run_mneq {o : Oper} {a : Act} {x : Operand} {u : TypeId} {p : Option Nat} {b : Bool} (ho : o.op = .binOp .neq 76 x (.const (.map none)) u) (hx : a.eval x = .map p) (hb : b = p.isSome) (w : World) : (execOp a.eval o).run Tryd.prog w = .ok (.value (.bool b)) w := by
  have e3 : a.eval (.const (.map none)) = .map none := rfl
  unfold execOp
  simp only [ho, hx, e3]
  rw [hb]
  have h := run_neq_map_nil w 76 _ _ p Tryd.underlying76
  simp [go_sem, h]
  try (cases p <;> rfl)
theorem ag_map : ∀ w, (isAgg 76).run Tryd.prog w = .ok false w := Tryd.isAgg76

set_option maxRecDepth 100000 in
set_option maxHeartbeats 1000000 in
theorem madeD {tb mb : Nat} {v : Value} {w : World} (h : Blk w tb 78 #[.map (some mb), v]) :
    Calls Tryd.prog 36 #[.pointer (some ⟨tb, 0, none⟩)] w fun e w' => e = .returned (.bool true) ∧ w' = w := by
  have c0 : Kept (w.cell? ⟨tb, 0, none⟩ = some (.map (some mb))) := ⟨h.cell rfl⟩
  clear h
  go_enter Tryd.func36, Tryd.ntmps36
  go_wp2_with (first | ((with_reducible refine wv_elem (d := 9) ?hd ?hw 76 ag_map (.tmp 8) ?ho (⟨tb, 0, none⟩) ?hx (.map (some mb)) ?hc ?_); (case hd => rfl); (case hw => kernel_rfl); (case ho => rfl); (case hx => kernel_rfl); (case hc => exact c0.out); simp only [Act.put, List.setIfInBounds_toArray, List.set_cons_succ, List.set_cons_zero]) | ((with_reducible refine wv_val (d := 10) ?hd ?hw (.bool true) ?hr ?_); (case hd => rfl); (case hw => kernel_rfl); (case hr => intro w; exact run_mneq (p := some mb) rfl (by kernel_rfl) rfl w); simp only [Act.put, List.setIfInBounds_toArray, List.set_cons_succ, List.set_cons_zero]))
  go_ret
  exact ⟨rfl, rfl⟩
/-- A table that no call made. -/
def Nobody (p : Option Addr) (w : World) : Prop := p = none ∨ ∃ b, p = some ⟨b, 0, none⟩ ∧ Blk w b 78 #[.map none, .slice none 0 0]
theorem Nobody.under {p : Option Addr} {w w' : World} (h : Nobody p w) (hb : Below w.heap.size w w') : Nobody p w' := by
  rcases h with h | ⟨b, h1, h2⟩
  · exact .inl h
  · exact .inr ⟨b, h1, h2.under hb⟩
set_option maxRecDepth 100000 in
set_option maxHeartbeats 1000000 in
theorem NewD {w : World} :
    Calls Tryd.prog 26 #[] w fun e w' => (∃ tb M, e = .returned (.pointer (some ⟨tb, 0, none⟩)) ∧ Tab tb w.heap.size [] M w') ∧ Below w.heap.size w w' := by
  have hmm := @run_makeMap Tryd.prog
  have fin : ∀ w2, w2 = (w.alloc (.map #[] 0)).alloc (.cells #[.map (some w.heap.size), .slice none 0 0] 78) → (∃ tb M, Ending.returned (.pointer (some ⟨w.heap.size + 1, 0, none⟩)) = .returned (.pointer (some ⟨tb, 0, none⟩)) ∧ Tab tb w.heap.size [] M w2) ∧ Below w.heap.size w w2 := fun w2 h => by
    subst h
    have hs : (w.alloc (.map #[] 0)).heap.size = w.heap.size + 1 := by simp
    refine ⟨⟨w.heap.size + 1, fun b => b = w.heap.size + 1 ∨ b = w.heap.size, rfl, ⟨⟨w.heap.size, .slice none 0 0, ?_, ⟨by omega, by omega, by omega⟩, ?_, vrow_nil _ _ _, ⟨by simp [blkOf], by simp [blkOf]⟩, fun b => by simp [blkOf]⟩, terms_nil⟩⟩, ?_⟩
    · rw [← hs]; exact blk_new _ _ _
    · exact (World.ownsMap_made w _ _ _).alloc _
    · exact ((Below.refl _ _).alloc (Nat.le_refl _) _).alloc (by rw [hs]; omega) _
  have KF : Kept _ := ⟨fin⟩
  clear fin
  go_enter Tryd.func26, Tryd.ntmps26
  go_wp2_with fail
  go_ret
  exact KF.out _ rfl
end Go.Proofs.YtniogaimhkcedaaDoor.sh
/-
  (*Table).name: what a table has behind it, and what it answers.
-/
namespace Go.Proofs.YtniogaimhkcedaaDoor.sh
open Go Go.RowKit Go.Maps
set_option linter.unusedVariables false
set_option linter.unusedSimpArgs false

theorem Turn.grown {M : Nat → Prop} {w w' : World} {r : Option Nat} (h : w.grownBy w' r) (hr : ∀ b, r = some b → M b) : Turn M w M w' :=
  ⟨⟨h.os, h.tape, h.output, h.size, fun k hk hM => h.block k hk (fun e => hM (hr k e.symm))⟩, fun b hb => .inl hb⟩
theorem Turn.swap {M M1 M' : Nat → Prop} {w w' : World} (h : Turn M w M1 w') (hM : ∀ b, M' b → M b ∨ w.heap.size ≤ b) : Turn M w M' w' := ⟨h.1, hM⟩
theorem kind_lt {t : TermL} (h : Formed t) : t.1 < 256 := by
  rcases h.2 with ⟨e, _⟩ | ⟨e, _⟩ | ⟨e, _⟩ | e | e <;> omega
/-- What a call of name, or of what stands on it, leaves. -/
def Puts (tb B : Nat) (ts : List TermL) (M : Nat → Prop) (w : World) (us : List TermL) (w' : World) : Prop := ∃ M', Tab tb B us M' w' ∧ Turn M w M' w'
theorem keys_len (ts : List TermL) : (strs (ts.map keyL)).length = ts.length := by rw [strs_len, List.length_map]
theorem one_new (J : List Nat) (w : World) : ValsV (.slice (some ⟨w.heap.size, 0, none⟩) 1 1) (w.alloc (.cells #[.string (strOf J)] 9)) [.string (strOf J)] := vrow_vals (vrow_lit (base := 0) w #[.string (strOf J)] 1 rfl (Nat.zero_le _) (by decide))
/-- The table with one term more, from its pieces. -/
theorem tab_more {tb B mb n : Nat} {p : Option Addr} {c : Nat} {V' : Value} {ts : List TermL} {t : TermL} {M : Nat → Prop} {w w1 w2 w3 w4 w5 : World} (hT : Terms ts) (ht : Formed t) (hF : Fits t.2) (hm : t ∉ ts) (q1 : Below w.heap.size w w1) (hA : TabAt tb B mb (.slice p n c) ts M w1) (hlt : ∀ b, M b → b < w.heap.size)
    (hr : VRow B 9 (strs (ts.map keyL) ++ [.string (strOf (keyL t))]) V' w2) (hg : (w1.alloc (.cells #[.string (strOf (keyL t))] 9)).grownBy w2 (blkOf (.slice p n c))) (hne : blkOf V' = blkOf (.slice p n c) ∨ blkOf V' = some (w1.alloc (.cells #[.string (strOf (keyL t))] 9)).heap.size)
    (hb : Blk w3 tb 78 #[.map (some mb), V']) (hp : Put w2 w3 tb) (ho : w4.ownsMap Tryd.prog 9 (plainElem (H := Unit) Tryd.prog 44) mb (ts.length + 1) ((numD ts).put (litL (keyL t)) (.lit (.int .u64 ((ts.length + 1 : Nat) : Int))))) (hg4 : w3.grownBy w4 (some mb)) (q5 : Below w4.heap.size w4 w5) : Puts tb B ts M w (putL ts t).1 w5 := by
  obtain ⟨a1, a2, a3, a4, a5, a6⟩ := hA
  have hs1 : (w1.alloc (.cells #[.string (strOf (keyL t))] 9)).heap.size = w1.heap.size + 1 := by simp
  have hM : ∀ b, blkOf (.slice p n c) = some b → M b := fun b h => (a6 b).2 (.inr (.inr h))
  have hmb : mb < w.heap.size := hlt mb ((a6 mb).2 (.inr (.inl rfl)))
  have htb : tb < w.heap.size := hlt tb ((a6 tb).2 (.inl rfl))
  have hsz := q1.size
  have n1 : blkOf V' ≠ some tb := fun h => by
    rcases hne with e | e
    · rw [e] at h; exact a5.1 h
    · rw [e, hs1] at h; simp at h; omega
  have n2 : blkOf V' ≠ some mb := fun h => by
    rcases hne with e | e
    · rw [e] at h; exact a5.2 h
    · rw [e, hs1] at h; simp at h; omega
  have hT3 : Turn M w M w4 := (((Turn.of_below q1).trans (Turn.of_below ((Below.refl _ _).alloc (Nat.le_refl _) _))).trans (Turn.grown hg hM)).trans ((Turn.grown hp.grown (fun b h => by cases h; exact (a6 _).2 (.inl rfl))).trans (Turn.grown hg4 (fun b h => by cases h; exact (a6 _).2 (.inr (.inl rfl)))))
  refine ⟨fun b => b = tb ∨ b = mb ∨ blkOf V' = some b, ⟨⟨mb, V', ?_, a2, ?_, ?_, ⟨n1, n2⟩, fun b => Iff.rfl⟩, putL_terms hT ht⟩, ?_⟩
  · exact Blk.under (blk_grown hg4 hb (by simpa using fun e => a2.2.2 e)) q5
  · rw [putL_new hF hm, numD_snoc, List.length_append]
    exact ho.kept (row := none) (grown_none q5) (by simp)
  · rw [putL_new hF hm, List.map_append, strs_append]
    exact ((hr.keeps hp.grown (.inr n1)).keeps hg4 (.inr n2)).under q5
  · refine (hT3.swap fun b h => ?_).trans (Turn.of_below q5)
    rcases h with h | h | h
    · exact .inl ((a6 b).2 (.inl h))
    · exact .inl ((a6 b).2 (.inr (.inl h)))
    · rcases hne with e | e
      · exact .inl ((a6 b).2 (.inr (.inr (e ▸ h))))
      · rw [e, hs1] at h; simp at h; exact .inr (by omega)

set_option maxRecDepth 100000 in
set_option maxHeartbeats 4000000 in
theorem nameD {tb B k : Nat} {ts : List TermL} {M : Nat → Prop} {ll : List (List Nat)} {V : Value} {w : World} (hT : Tab tb B ts M w) (hk : Formed (k, ll)) (hV : ValsV V w (strs ll)) (hl : ∀ l ∈ ll, l.length ≤ maxLen) (hn : ts.length < 1000000) :
    Calls Tryd.prog 42 #[.pointer (some ⟨tb, 0, none⟩), .int .u8 (k : Int), V] w fun e w' => e = .returned (.string (strOf (putL ts (k, ll)).2)) ∧ Puts tb B ts M w (putL ts (k, ll)).1 w' := by
  have hk8 : k < 256 := kind_lt hk
  obtain ⟨mb, v, hA⟩ := hT.at'
  have CM := madeD hA.1
  have CJ := JoinD hk8 hV (fun l h => ⟨hk.1 l h, hl l h⟩)
  obtain ⟨N, hN⟩ : ∃ N, N = (putL ts (k, ll)).2 := ⟨_, rfl⟩
  rw [← hN]
  obtain ⟨us, hus⟩ : ∃ us, us = (putL ts (k, ll)).1 := ⟨_, rfl⟩
  rw [← hus]
  have hV' := hV
  obtain ⟨pV, cV, rfl, _⟩ := vals_form hV' (strs_len ll)
  obtain ⟨nV, hnV⟩ : ∃ n, n = ll.length := ⟨_, rfl⟩
  rw [← hnV] at CJ ⊢
  clear hnV
  by_cases hF : Fits ll
  case neg =>
    rw [joinS_not hF, joinE_not hF] at CJ
    have hP := putL_not (ts := ts) (t := (k, ll)) hF
    rw [hP] at hN hus
    subst hN hus
    have KT : Kept _ := ⟨hT⟩
    have KCM : Kept _ := ⟨CM⟩
    have KCJ : Kept _ := ⟨CJ⟩
    clear hT CM CJ hA hP hV hV' hk hl hF
    go_enter Tryd.func42, Tryd.ntmps42
    go_wp2_with fail
    refine KCM.out.mono ?_
    rintro e w1 ⟨rfl, hw⟩
    obtain rfl := hw.symm
    go_wp2_with fail
    refine KCJ.out.mono ?_
    rintro e w1 ⟨rfl, q1⟩
    go_wp2_with fail
    go_ret
    exact ⟨rfl, M, KT.out.under q1, Turn.of_below q1⟩
  case pos =>
    rw [joinS_fits hF, joinE_fits hF] at CJ
    have hJL := join_lenB (k := k) hF
    have hG : GoodT (k, ll) := good_of hk hF
    have hhas := numD_has hT.terms hG
    have hgot := fun h => numD_at hT.terms (u := (k, ll)) h (.lit (.int .u64 0))
    have hlt : ∀ b, M b → b < w.heap.size := fun b h => (hT.range h).2
    have e1 : keyL (k, ll) = joinL k ll := rfl
    rw [e1] at hhas hgot
    obtain ⟨J, hJ⟩ : ∃ J, J = joinL k ll := ⟨_, rfl⟩
    rw [← hJ] at CJ hJL hhas hgot
    have KJ : Kept _ := ⟨hJ⟩
    have KJL : Kept _ := ⟨hJL⟩
    have KCM : Kept _ := ⟨CM⟩
    have KCJ : Kept _ := ⟨CJ⟩
    have KT : Kept _ := ⟨hT⟩
    have KLT : Kept _ := ⟨hlt⟩
    have KF : Kept _ := ⟨hF⟩
    have KK : Kept _ := ⟨hk⟩
    by_cases hm : (k, ll) ∈ ts
    case pos =>
      rw [decide_eq_true hm] at hhas
      have hgot' := hgot hm
      obtain ⟨c, hc⟩ : ∃ c, c = ts.idxOf (k, ll) + 1 := ⟨_, rfl⟩
      have hcl : c < 18446744073709551616 := by have := List.idxOf_lt_length_of_mem hm; omega
      have CN := fun w1 : World => nameOfD (w := w1) hcl
      have hP := putL_old (ts := ts) (t := (k, ll)) hF hm
      rw [hP] at hN hus
      rw [← hc] at hN hgot'
      have hN' : N = termN c := hN
      subst hus
      rw [← hN'] at CN
      have KH : Kept _ := ⟨hhas⟩
      have KG : Kept _ := ⟨hgot'⟩
      have KCN : Kept _ := ⟨CN⟩
      have KA : Kept _ := ⟨hA⟩
      clear hT CM CJ hA hP hV hV' hk hl hF hm hgot hgot' hhas CN hN hN' hc hJ hJL hlt hG e1 hcl
      go_enter Tryd.func42, Tryd.ntmps42
      go_wp2_with fail
      refine KCM.out.mono ?_
      rintro e w1 ⟨rfl, hw⟩
      obtain rfl := hw.symm
      go_wp2_with fail
      refine KCJ.out.mono ?_
      rintro e w1 ⟨rfl, q1⟩
      have A1 := KA.out.under q1
      have c0 : Kept (w1.cell? ⟨tb, 0, none⟩ = some (.map (some mb))) := ⟨A1.1.cell rfl⟩
      have KO : Kept _ := ⟨A1.2.2.1⟩
      clear A1
      go_wp2_with (first | ((with_reducible refine wv_elem (d := 26) ?hd ?hw 76 ag_map (.tmp 25) ?ho (⟨tb, 0, none⟩) ?hx (.map (some mb)) ?hc ?_); (case hd => rfl); (case hw => kernel_rfl); (case ho => rfl); (case hx => kernel_rfl); (case hc => exact c0.out); simp only [Act.put, List.setIfInBounds_toArray, List.set_cons_succ, List.set_cons_zero]) | (at_lookup; refine wl_lookT rfl (.tmp 26) (.tmp 27) rfl mb _ _ (by kernel_rfl) KO.out J (by kernel_rfl) KJL.out c true KH.out KG.out ?_; simp only [Act.put, List.setIfInBounds_toArray, List.set_cons_succ, List.set_cons_zero]))
      refine (KCN.out w1).mono ?_
      rintro e w2 ⟨rfl, q2⟩
      replace q2 := q1.trans (q2.mono q1.size)
      go_wp2_with fail
      go_ret
      exact ⟨rfl, M, KT.out.under q2, Turn.of_below q2⟩
    case neg =>
      rw [decide_eq_false hm] at hhas
      have hgot' := atKey_of_not_has hhas (.lit (.int .u64 0))
      obtain ⟨m, hmm⟩ : ∃ m, m = ts.length := ⟨_, rfl⟩
      obtain ⟨c, hc⟩ : ∃ c, c = m + 1 := ⟨_, rfl⟩
      have hcl : c < 18446744073709551616 := by omega
      have CN := fun w1 : World => nameOfD (w := w1) hcl
      have hP := putL_new (ts := ts) (t := (k, ll)) hF hm
      rw [hP] at hN
      have hN' : N = termN c := by rw [hN, hc, hmm]
      rw [← hN'] at CN
      have hA' := hA
      obtain ⟨_, _, _, hr0, _⟩ := hA'
      obtain ⟨p, cc, rfl, hcc⟩ := vals_form (vrow_vals hr0) (keys_len ts)
      rw [← hmm] at hA hcc
      have KH : Kept _ := ⟨hhas⟩
      have KG : Kept (_ = DataW.lit (.int .u64 ((0 : Nat) : Int))) := ⟨hgot'⟩
      have KCN : Kept _ := ⟨CN⟩
      have KA : Kept _ := ⟨hA⟩
      have KM : Kept _ := ⟨hm⟩
      have Kmm : Kept _ := ⟨hmm⟩
      have Kc : Kept _ := ⟨hc⟩
      have Kus : Kept _ := ⟨hus⟩
      have hc6 : c < 1000001 := by omega
      have hcI : c < 4611686018427387904 := by omega
      have hm6 : m < 1000001 := by omega
      have Kap : Kept ((strs (ts.map keyL)).length + ([Value.string (strOf J)] : List Value).length ≤ 1099511627776) := ⟨by rw [keys_len, ← hmm]; simp; omega⟩
      have Kap2 : Kept ((strs (ts.map keyL) ++ [Value.string (strOf J)]).length = c) := ⟨by rw [List.length_append, keys_len, ← hmm, hc]; rfl⟩
      have K1c : Kept (∀ x ∈ ([Value.string (strOf J)] : List Value), x.oneCell' = true) := ⟨fun x hx => by simp at hx; subst hx; rfl⟩
      have hB : Kept (B ≤ w.heap.size) := ⟨by have := hA.2.1.1; have := hlt tb ((hA.2.2.2.2.2 tb).2 (.inl rfl)); omega⟩
      clear hT CM CJ hA hP hV hV' hk hl hF hm hgot hgot' hhas CN hN hN' hJ hJL hlt hG e1 hr0 hus hmm hc
      go_enter Tryd.func42, Tryd.ntmps42
      go_wp2_with fail
      refine KCM.out.mono ?_
      rintro e w1 ⟨rfl, hw⟩
      obtain rfl := hw.symm
      go_wp2_with fail
      refine KCJ.out.mono ?_
      rintro e w1 ⟨rfl, q1⟩
      have A1 := KA.out.under q1
      have c0 : Kept (w1.cell? ⟨tb, 0, none⟩ = some (.map (some mb))) := ⟨A1.1.cell rfl⟩
      have c1 : Kept (w1.cell? ⟨tb, 1, none⟩ = some (.slice p m cc)) := ⟨A1.1.cell rfl⟩
      have KO : Kept _ := ⟨A1.2.2.1⟩
      have KR : Kept _ := ⟨A1.2.2.2.1⟩
      have KA1 : Kept _ := ⟨A1⟩
      have hB1 : Kept (B ≤ (w1.alloc (.cells #[.string (strOf J)] 9)).heap.size) := ⟨by have := hB.out; have := q1.size; simp; omega⟩
      clear A1
      go_wp2_with (first | ((with_reducible refine wv_elem (d := 26) ?hd ?hw 76 ag_map (.tmp 25) ?ho (⟨tb, 0, none⟩) ?hx (.map (some mb)) ?hc ?_); (case hd => rfl); (case hw => kernel_rfl); (case ho => rfl); (case hx => kernel_rfl); (case hc => exact c0.out); simp only [Act.put, List.setIfInBounds_toArray, List.set_cons_succ, List.set_cons_zero]) | (at_lookup; refine wl_lookT rfl (.tmp 26) (.tmp 27) rfl mb _ _ (by kernel_rfl) KO.out J (by kernel_rfl) KJL.out 0 false KH.out KG.out ?_; simp only [Act.put, List.setIfInBounds_toArray, List.set_cons_succ, List.set_cons_zero]) | ((with_reducible refine wv_elem (d := 37) ?hd ?hw 29 ag_strs (.tmp 36) ?ho (⟨tb, 1, none⟩) ?hx (.slice p m cc) ?hc ?_); (case hd => rfl); (case hw => kernel_rfl); (case ho => rfl); (case hx => kernel_rfl); (case hc => exact c1.out); simp only [Act.put, List.setIfInBounds_toArray, List.set_cons_succ, List.set_cons_zero]) | (refine wl_build1S rfl (.tmp 38) rfl J (by kernel_rfl) ?_; simp only [Act.put, List.setIfInBounds_toArray, List.set_cons_succ, List.set_cons_zero]) | ((refine wl_appV (by kernel_rfl) (.tmp 37) (.tmp 39) 29 9 (.string .empty) 16 rfl Tryd.underlying29 inf_str rfl (by decide) B _ [.string (strOf J)] _ _ (by kernel_rfl) (by kernel_rfl) (KR.out.alloc _) (one_new J w1) K1c.out Kap.out hB1.out ?_); intro v' w2 hr' hg' hne'; obtain ⟨p2, c2, rfl, hc2⟩ := vals_form (vrow_vals hr') Kap2.out; have hbT := KA1.out.1.alloc (.cells #[.string (strOf J)] 9); have hbT2 := blk_grown hg' hbT (fun e => KA1.out.2.2.2.2.1.1 e.symm); simp only [Act.put, List.setIfInBounds_toArray, List.set_cons_succ, List.set_cons_zero]) | ((refine wl_set1 rfl 29 sz_strs (.tmp 42) (.tmp 40) rfl tb 1 (.slice p2 c c2) (by kernel_rfl) (by kernel_rfl) rfl _ hbT2 (by simp) ?_); intro w3 hb3 hp3; have ho3 := ((KO.out.alloc (.cells #[.string (strOf J)] 9)).kept hg' (fun e => KA1.out.2.2.2.2.1.2 e.symm)).kept hp3.grown (fun e => KA1.out.2.1.2.2 (by simpa using e.symm)); simp only [Act.put, List.setIfInBounds_toArray, List.set_cons_succ, List.set_cons_zero]) | ((with_reducible refine wv_elem (d := 46) ?hd ?hw 29 ag_strs (.tmp 45) ?ho (⟨tb, 1, none⟩) ?hx (.slice p2 c c2) ?hc ?_); (case hd => rfl); (case hw => kernel_rfl); (case ho => rfl); (case hx => kernel_rfl); (case hc => exact (hb3.cell rfl)); simp only [Act.put, List.setIfInBounds_toArray, List.set_cons_succ, List.set_cons_zero]) | ((with_reducible refine wv_val (d := 48) ?hd ?hw (.int .u64 (c : Int)) ?hr ?_); (case hd => rfl); (case hw => kernel_rfl); (case hr => intro w; exact run_c3U rfl (by kernel_rfl) hcI w); simp only [Act.put, List.setIfInBounds_toArray, List.set_cons_succ, List.set_cons_zero]) | ((with_reducible refine wv_elem (d := 52) ?hd ?hw 76 ag_map (.tmp 51) ?ho (⟨tb, 0, none⟩) ?hx (.map (some mb)) ?hc ?_); (case hd => rfl); (case hw => kernel_rfl); (case ho => rfl); (case hx => kernel_rfl); (case hc => exact (hb3.cell rfl)); simp only [Act.put, List.setIfInBounds_toArray, List.set_cons_succ, List.set_cons_zero]) | (at_mapUpdate; (refine wl_updT rfl (.tmp 52) (.tmp 53) (.tmp 54) rfl mb _ _ (by kernel_rfl) ho3 (by rw [← Kmm.out]; exact hm6) J (by kernel_rfl) KJL.out c (by kernel_rfl) hc6 ?_); intro w4 ho4 hg4 hs4; simp only [Act.put, List.setIfInBounds_toArray, List.set_cons_succ, List.set_cons_zero]))
      refine (KCN.out w4).mono ?_
      rintro e w5 ⟨rfl, q5⟩
      go_wp2_with fail
      go_ret
      refine ⟨rfl, ?_⟩
      rw [Kus.out]
      refine tab_more KT.out.terms KK.out KF.out KM.out q1 KA1.out KLT.out (V' := .slice p2 c c2) (w2 := w2) (w3 := w3) (w4 := w4) ?_ ?_ ?_ hb3 hp3 ?_ hg4 q5
      · rw [show keyL (k, ll) = J from KJ.out.symm]; exact hr'
      · rw [show keyL (k, ll) = J from KJ.out.symm]; exact hg'
      · rw [show keyL (k, ll) = J from KJ.out.symm]; exact hne'
      · rw [show keyL (k, ll) = J from KJ.out.symm]
        rw [show c = ts.length + 1 by rw [Kc.out, Kmm.out]] at ho4
        exact ho4
end Go.Proofs.YtniogaimhkcedaaDoor.sh
/-
  What a table answers: Atom, Pub, Hash, Seal, Parts; of a table that no call made, nothing.
-/
namespace Go.Proofs.YtniogaimhkcedaaDoor.sh
open Go Go.RowKit Go.Maps
set_option linter.unusedVariables false
set_option linter.unusedSimpArgs false

section
variable {ops : Array Oper} {rest : List Oper} {o : Oper} {a : Act} {w : World} {Q : Exit → Act → World → Prop}
theorem run_bs1 (s0 : List Nat) (w : World) : (Instr.buildSlice 29 1 #[(0, .string (strOf s0))]).run Tryd.prog w = .ok (.slice (some ⟨w.heap.size, 0, none⟩) 1 1) (w.alloc (.cells #[.string (strOf s0)] 9)) := by kernel_rfl
/-- A slice of 1 texts is built. -/
theorem wl_bs1 (hw : Region.wanted o (yielded ops a.tmps) = true) (x0 : Operand) (ho : o.op = .buildSlice 29 1 #[(0, x0)]) (s0 : List Nat) (h0 : a.eval x0 = .string (strOf s0))
    (h : wpList Tryd.prog ops Q rest (a.put o.dst (.slice (some ⟨w.heap.size, 0, none⟩) 1 1)) (w.alloc (.cells #[.string (strOf s0)] 9))) : wpList Tryd.prog ops Q (o :: rest) a w :=
  BigFrame.wpList_want hw fun K hK => by
    have hrun : (execOp a.eval o).run Tryd.prog w = .ok (.value (.slice (some ⟨w.heap.size, 0, none⟩) 1 1)) (w.alloc (.cells #[.string (strOf s0)] 9)) := by
      unfold execOp
      simp only [ho]
      simp [h0, run_bs1]
    unfold Oper.wp
    rw [hrun]
    exact hK _ _ h
theorem new1 (s0 : List Nat) (w : World) : ValsV (.slice (some ⟨w.heap.size, 0, none⟩) 1 1) (w.alloc (.cells #[.string (strOf s0)] 9)) (strs [s0]) := vrow_vals (vrow_lit (base := 0) w #[.string (strOf s0)] 1 rfl (Nat.zero_le _) (by decide))

theorem run_bs2 (s0 s1 : List Nat) (w : World) : (Instr.buildSlice 29 2 #[(0, .string (strOf s0)), (1, .string (strOf s1))]).run Tryd.prog w = .ok (.slice (some ⟨w.heap.size, 0, none⟩) 2 2) (w.alloc (.cells #[.string (strOf s0), .string (strOf s1)] 9)) := by kernel_rfl
/-- A slice of 2 texts is built. -/
theorem wl_bs2 (hw : Region.wanted o (yielded ops a.tmps) = true) (x0 x1 : Operand) (ho : o.op = .buildSlice 29 2 #[(0, x0), (1, x1)]) (s0 s1 : List Nat) (h0 : a.eval x0 = .string (strOf s0)) (h1 : a.eval x1 = .string (strOf s1))
    (h : wpList Tryd.prog ops Q rest (a.put o.dst (.slice (some ⟨w.heap.size, 0, none⟩) 2 2)) (w.alloc (.cells #[.string (strOf s0), .string (strOf s1)] 9))) : wpList Tryd.prog ops Q (o :: rest) a w :=
  BigFrame.wpList_want hw fun K hK => by
    have hrun : (execOp a.eval o).run Tryd.prog w = .ok (.value (.slice (some ⟨w.heap.size, 0, none⟩) 2 2)) (w.alloc (.cells #[.string (strOf s0), .string (strOf s1)] 9)) := by
      unfold execOp
      simp only [ho]
      simp [h0, h1, run_bs2]
    unfold Oper.wp
    rw [hrun]
    exact hK _ _ h
theorem new2 (s0 s1 : List Nat) (w : World) : ValsV (.slice (some ⟨w.heap.size, 0, none⟩) 2 2) (w.alloc (.cells #[.string (strOf s0), .string (strOf s1)] 9)) (strs [s0, s1]) := vrow_vals (vrow_lit (base := 0) w #[.string (strOf s0), .string (strOf s1)] 2 rfl (Nat.zero_le _) (by decide))

theorem run_bs3 (s0 s1 s2 : List Nat) (w : World) : (Instr.buildSlice 29 3 #[(0, .string (strOf s0)), (1, .string (strOf s1)), (2, .string (strOf s2))]).run Tryd.prog w = .ok (.slice (some ⟨w.heap.size, 0, none⟩) 3 3) (w.alloc (.cells #[.string (strOf s0), .string (strOf s1), .string (strOf s2)] 9)) := by kernel_rfl
/-- A slice of 3 texts is built. -/
theorem wl_bs3 (hw : Region.wanted o (yielded ops a.tmps) = true) (x0 x1 x2 : Operand) (ho : o.op = .buildSlice 29 3 #[(0, x0), (1, x1), (2, x2)]) (s0 s1 s2 : List Nat) (h0 : a.eval x0 = .string (strOf s0)) (h1 : a.eval x1 = .string (strOf s1)) (h2 : a.eval x2 = .string (strOf s2))
    (h : wpList Tryd.prog ops Q rest (a.put o.dst (.slice (some ⟨w.heap.size, 0, none⟩) 3 3)) (w.alloc (.cells #[.string (strOf s0), .string (strOf s1), .string (strOf s2)] 9))) : wpList Tryd.prog ops Q (o :: rest) a w :=
  BigFrame.wpList_want hw fun K hK => by
    have hrun : (execOp a.eval o).run Tryd.prog w = .ok (.value (.slice (some ⟨w.heap.size, 0, none⟩) 3 3)) (w.alloc (.cells #[.string (strOf s0), .string (strOf s1), .string (strOf s2)] 9)) := by
      unfold execOp
      simp only [ho]
      simp [h0, h1, h2, run_bs3]
    unfold Oper.wp
    rw [hrun]
    exact hK _ _ h
theorem new3 (s0 s1 s2 : List Nat) (w : World) : ValsV (.slice (some ⟨w.heap.size, 0, none⟩) 3 3) (w.alloc (.cells #[.string (strOf s0), .string (strOf s1), .string (strOf s2)] 9)) (strs [s0, s1, s2]) := vrow_vals (vrow_lit (base := 0) w #[.string (strOf s0), .string (strOf s1), .string (strOf s2)] 3 rfl (Nat.zero_le _) (by decide))

theorem run_bs4 (s0 s1 s2 s3 : List Nat) (w : World) : (Instr.buildSlice 29 4 #[(0, .string (strOf s0)), (1, .string (strOf s1)), (2, .string (strOf s2)), (3, .string (strOf s3))]).run Tryd.prog w = .ok (.slice (some ⟨w.heap.size, 0, none⟩) 4 4) (w.alloc (.cells #[.string (strOf s0), .string (strOf s1), .string (strOf s2), .string (strOf s3)] 9)) := by kernel_rfl
/-- A slice of 4 texts is built. -/
theorem wl_bs4 (hw : Region.wanted o (yielded ops a.tmps) = true) (x0 x1 x2 x3 : Operand) (ho : o.op = .buildSlice 29 4 #[(0, x0), (1, x1), (2, x2), (3, x3)]) (s0 s1 s2 s3 : List Nat) (h0 : a.eval x0 = .string (strOf s0)) (h1 : a.eval x1 = .string (strOf s1)) (h2 : a.eval x2 = .string (strOf s2)) (h3 : a.eval x3 = .string (strOf s3))
    (h : wpList Tryd.prog ops Q rest (a.put o.dst (.slice (some ⟨w.heap.size, 0, none⟩) 4 4)) (w.alloc (.cells #[.string (strOf s0), .string (strOf s1), .string (strOf s2), .string (strOf s3)] 9))) : wpList Tryd.prog ops Q (o :: rest) a w :=
  BigFrame.wpList_want hw fun K hK => by
    have hrun : (execOp a.eval o).run Tryd.prog w = .ok (.value (.slice (some ⟨w.heap.size, 0, none⟩) 4 4)) (w.alloc (.cells #[.string (strOf s0), .string (strOf s1), .string (strOf s2), .string (strOf s3)] 9)) := by
      unfold execOp
      simp only [ho]
      simp [h0, h1, h2, h3, run_bs4]
    unfold Oper.wp
    rw [hrun]
    exact hK _ _ h
theorem new4 (s0 s1 s2 s3 : List Nat) (w : World) : ValsV (.slice (some ⟨w.heap.size, 0, none⟩) 4 4) (w.alloc (.cells #[.string (strOf s0), .string (strOf s1), .string (strOf s2), .string (strOf s3)] 9)) (strs [s0, s1, s2, s3]) := vrow_vals (vrow_lit (base := 0) w #[.string (strOf s0), .string (strOf s1), .string (strOf s2), .string (strOf s3)] 4 rfl (Nat.zero_le _) (by decide))

end
theorem Puts.from {tb B : Nat} {ts us : List TermL} {M : Nat → Prop} {w w1 w2 : World} (h : Puts tb B ts M w1 us w2) (q : Below w.heap.size w w1) : Puts tb B ts M w us w2 := by
  obtain ⟨M', h1, h2⟩ := h
  exact ⟨M', h1, (Turn.of_below q).trans h2⟩
set_option maxRecDepth 100000 in
set_option maxHeartbeats 1000000 in
theorem AtomD {tb B : Nat} {ts : List TermL} {M : Nat → Prop} {s : List Nat} {w : World} (hT : Tab tb B ts M w) (hs : Bytes s) (hl : s.length ≤ maxLen) (hn : ts.length < 1000000) :
    Calls Tryd.prog 21 #[.pointer (some ⟨tb, 0, none⟩), .string (strOf s)] w fun e w' => e = .returned (.string (strOf (putL ts (1, [s])).2)) ∧ Puts tb B ts M w (putL ts (1, [s])).1 w' := by
  have q1 := (Below.refl w.heap.size w).alloc (Nat.le_refl _) (.cells #[.string (strOf s)] 9)
  have CN := nameD (k := 1) (hT.under q1) ⟨fun p hp => by simp at hp; subst hp; exact hs, by simp⟩ (new1 s w) (fun l h => by simp at h; subst h; exact hl) hn
  have KC : Kept _ := ⟨CN⟩
  have KQ : Kept _ := ⟨q1⟩
  clear hT hs hl hn q1 CN
  go_enter Tryd.func21, Tryd.ntmps21
  go_wp2_with (first | (refine wl_bs1 (by kernel_rfl) (.tmp 6) rfl (s) (by kernel_rfl) ?_; simp only [Act.put, List.setIfInBounds_toArray, List.set_cons_succ, List.set_cons_zero]))
  refine KC.out.mono ?_
  rintro e w2 ⟨rfl, hP⟩
  go_wp2_with fail
  go_ret
  exact ⟨rfl, hP.from KQ.out⟩
set_option maxRecDepth 100000 in
set_option maxHeartbeats 1000000 in
theorem PubD {tb B : Nat} {ts : List TermL} {M : Nat → Prop} {s : List Nat} {w : World} (hT : Tab tb B ts M w) (hs : Bytes s) (hl : s.length ≤ maxLen) (hn : ts.length < 1000000) :
    Calls Tryd.prog 24 #[.pointer (some ⟨tb, 0, none⟩), .string (strOf s)] w fun e w' => e = .returned (.string (strOf (putL ts (2, [s])).2)) ∧ Puts tb B ts M w (putL ts (2, [s])).1 w' := by
  have q1 := (Below.refl w.heap.size w).alloc (Nat.le_refl _) (.cells #[.string (strOf s)] 9)
  have CN := nameD (k := 2) (hT.under q1) ⟨fun p hp => by simp at hp; subst hp; exact hs, by simp⟩ (new1 s w) (fun l h => by simp at h; subst h; exact hl) hn
  have KC : Kept _ := ⟨CN⟩
  have KQ : Kept _ := ⟨q1⟩
  clear hT hs hl hn q1 CN
  go_enter Tryd.func24, Tryd.ntmps24
  go_wp2_with (first | (refine wl_bs1 (by kernel_rfl) (.tmp 6) rfl (s) (by kernel_rfl) ?_; simp only [Act.put, List.setIfInBounds_toArray, List.set_cons_succ, List.set_cons_zero]))
  refine KC.out.mono ?_
  rintro e w2 ⟨rfl, hP⟩
  go_wp2_with fail
  go_ret
  exact ⟨rfl, hP.from KQ.out⟩
set_option maxRecDepth 100000 in
set_option maxHeartbeats 1000000 in
theorem HashD {tb B : Nat} {ts : List TermL} {M : Nat → Prop} {ll : List (List Nat)} {V : Value} {w : World} (hT : Tab tb B ts M w) (hy : ∀ l ∈ ll, Bytes l) (hV : ValsV V w (strs ll)) (hl : ∀ l ∈ ll, l.length ≤ maxLen) (hn : ts.length < 1000000) :
    Calls Tryd.prog 18 #[.pointer (some ⟨tb, 0, none⟩), V] w fun e w' => e = .returned (.string (strOf (putL ts (4, ll)).2)) ∧ Puts tb B ts M w (putL ts (4, ll)).1 w' := by
  have CN := nameD (k := 4) hT ⟨hy, by simp⟩ hV hl hn
  obtain ⟨p, c, rfl, _⟩ := vals_form hV (strs_len ll)
  have KC : Kept _ := ⟨CN⟩
  obtain ⟨m, hm⟩ : ∃ m, m = ll.length := ⟨_, rfl⟩
  rw [← hm] at KC ⊢
  clear hT hV hl hn CN hm
  go_enter Tryd.func18, Tryd.ntmps18
  go_wp2_with fail
  refine KC.out.mono ?_
  rintro e w2 ⟨rfl, hP⟩
  go_wp2_with fail
  go_ret
  exact ⟨rfl, hP⟩
set_option maxRecDepth 100000 in
set_option maxHeartbeats 1000000 in
theorem SealD {tb B n : Nat} {ts : List TermL} {M : Nat → Prop} {k a t : List Nat} {w : World} (hT : Tab tb B ts M w) (hn64 : n < 18446744073709551616) (hk : Bytes k) (ha : Bytes a) (ht : Bytes t) (hkl : k.length ≤ maxLen) (hal : a.length ≤ maxLen) (htl : t.length ≤ maxLen) (hn : ts.length < 1000000) :
    Calls Tryd.prog 19 #[.pointer (some ⟨tb, 0, none⟩), .string (strOf k), .int .u64 (n : Int), .string (strOf a), .string (strOf t)] w fun e w' => e = .returned (.string (strOf (putL ts (5, [k, numL n, a, t])).2)) ∧ Puts tb B ts M w (putL ts (5, [k, numL n, a, t])).1 w' := by
  have hNL := numL_len n
  have hNY := numL_bytes n
  have CU := NumD (w := w) hn64
  obtain ⟨N, hN⟩ : ∃ N, N = numL n := ⟨_, rfl⟩
  rw [← hN] at CU hNL hNY ⊢
  have CN := fun w1 (q : Below w.heap.size w w1) => nameD (k := 5) (hT.under (q.trans (((Below.refl w1.heap.size w1).alloc (Nat.le_refl _) (.cells #[.string (strOf k), .string (strOf N), .string (strOf a), .string (strOf t)] 9)).mono q.size))) ⟨fun p hp => by simp at hp; rcases hp with rfl | rfl | rfl | rfl <;> assumption, by simp⟩ (new4 k N a t w1) (fun l h => by simp at h; rcases h with rfl | rfl | rfl | rfl <;> first | assumption | (unfold maxLen; omega)) hn
  have KU : Kept _ := ⟨CU⟩
  have KC : Kept _ := ⟨CN⟩
  clear hT hk ha ht hkl hal htl hn CU CN hN hNL hNY
  go_enter Tryd.func19, Tryd.ntmps19
  go_wp2_with fail
  refine KU.out.mono ?_
  rintro e w1 ⟨rfl, q1⟩
  go_wp2_with (first | (refine wl_bs4 (by kernel_rfl) (.tmp 12) (.tmp 14) (.tmp 15) (.tmp 16) rfl (k) (N) (a) (t) (by kernel_rfl) (by kernel_rfl) (by kernel_rfl) (by kernel_rfl) ?_; simp only [Act.put, List.setIfInBounds_toArray, List.set_cons_succ, List.set_cons_zero]))
  refine (KC.out w1 q1).mono ?_
  rintro e w2 ⟨rfl, hP⟩
  go_wp2_with fail
  go_ret
  exact ⟨rfl, hP.from (q1.trans (((Below.refl w1.heap.size w1).alloc (Nat.le_refl _) _).mono q1.size))⟩
/-- The term of a name, if there is one. -/
def partX (ts : List TermL) (s : List Nat) : Option TermL := if findN ts.length s = 0 then none else ts[findN ts.length s - 1]?
theorem partX_none {ts : List TermL} {s : List Nat} (hs : Bytes s) (hN : ts.length < 1000000) (h : noL s = 0 ∨ ts.length < noL s) : partX ts s = none := by
  unfold partX
  rw [if_pos]
  rw [findN_no hs (by omega)]
  rcases h with h | h
  · rw [h]; simp
  · rw [if_neg (by omega)]
theorem partX_some {ts : List TermL} {s : List Nat} (hs : Bytes s) (hN : ts.length < 1000000) (h : noL s ≠ 0) (h2 : noL s ≤ ts.length) : partX ts s = ts[noL s - 1]? := by
  unfold partX
  rw [findN_no hs (by omega), if_pos h2, if_neg h]
theorem run_eq0U {o : Oper} {a : Act} {x : Operand} {n : Nat} {b : Bool} (ho : o.op = .binOp .eql 44 x (.const (.int .u64 0)) 44) (hx : a.eval x = .int .u64 (n : Int)) (hb : b = decide (n = 0)) (w : World) : (execOp a.eval o).run Tryd.prog w = .ok (.value (.bool b)) w := by
  have e3 : a.eval (.const (.int .u64 0)) = .int .u64 0 := rfl
  unfold execOp
  simp only [ho, hx, e3]
  rw [hb]
  by_cases h : n = 0
  · subst h; simp [go_sem]
  · have h2 : ¬ (n : Int) = 0 := by omega
    simp [go_sem, h, h2]
theorem run_gtrU {o : Oper} {a : Act} {x y : Operand} {m n : Nat} {b : Bool} (ho : o.op = .binOp .gtr 44 x y 44) (hx : a.eval x = .int .u64 (m : Int)) (hy : a.eval y = .int .u64 (n : Int)) (hb : b = decide (n < m)) (w : World) : (execOp a.eval o).run Tryd.prog w = .ok (.value (.bool b)) w := by
  unfold execOp
  simp only [ho, hx, hy]
  rw [hb]
  simp [go_sem]
theorem run_sub1U {o : Oper} {a : Act} {x : Operand} {m n : Nat} (ho : o.op = .binOp .sub 44 x (.const (.int .u64 1)) 44) (hx : a.eval x = .int .u64 (m : Int)) (hn : m = n + 1) (hm : m < 18446744073709551616) (w : World) : (execOp a.eval o).run Tryd.prog w = .ok (.value (.int .u64 (n : Int))) w := by
  have e3 : a.eval (.const (.int .u64 1)) = .int .u64 1 := rfl
  have h4 : ((m : Int) - 1) % 18446744073709551616 = (n : Int) := by omega
  unfold execOp
  simp only [ho, hx, e3]
  simp [go_sem, IntKind.wrap_u64, h4]
theorem run_idxU {o : Oper} {a : Act} {x y : Operand} {i l c : Nat} {A : Addr} {t e : TypeId} (ho : o.op = .indexAddr t x y) (hx : a.eval x = .slice (some A) l c) (hy : a.eval y = .int .u64 (i : Int)) (ht : Tryd.prog.underlying t = some (.slice e)) (hi : i < l) (sz : ∀ w, (sizeOf e).run Tryd.prog w = .ok 1 w) (w : World) : (execOp a.eval o).run Tryd.prog w = .ok (.value (.pointer (some (A.add i)))) w := by
  have h1 : ((i : Int) < (l : Int)) := by omega
  unfold execOp
  simp only [ho, hx, hy, Instr.indexAt]
  simp [asIntOf, run_underlying ht, h1, sz, go_sem]
  intro h
  omega
def PPost (x : Option TermL) (w : World) (e : Ending) (w' : World) : Prop :=
  match x with
  | none => e = .returned (.tuple #[.int .u8 0, .slice none 0 0, .bool false]) ∧ Below w.heap.size w w'
  | some t => (∃ V, e = .returned (.tuple #[.int .u8 (t.1 : Int), V, .bool true]) ∧ VRow w.heap.size 9 (strs t.2) V w') ∧ Below w.heap.size w w'
theorem SplitT {t : TermL} {w : World} (hG : GoodT t) :
    Calls Tryd.prog 50 #[.string (strOf (keyL t))] w fun e w' => (∃ V, e = .returned (.tuple #[.int .u8 (t.1 : Int), V, .int .i64 0]) ∧ VRow w.heap.size 9 (strs t.2) V w') ∧ Below w.heap.size w w' := by
  have h := SplitD (w := w) (keyL_bytes hG) (join_lenB hG.2.2)
  refine h.mono ?_
  rintro e w' ⟨⟨V, rfl, hr⟩, hb⟩
  have e : splitL (keyL t) = some (t.1, t.2) := splitL_join hG.2.2
  unfold spK spE spL at *
  rw [e] at hr ⊢
  exact ⟨⟨V, rfl, hr⟩, hb⟩
set_option maxRecDepth 100000 in
set_option maxHeartbeats 2000000 in
theorem PartsD {tb B : Nat} {ts : List TermL} {M : Nat → Prop} {s : List Nat} {w : World} (hT : Tab tb B ts M w) (hs : Bytes s) (hl : s.length ≤ maxLen) (hn : ts.length < 1000000) :
    Calls Tryd.prog 27 #[.pointer (some ⟨tb, 0, none⟩), .string (strOf s)] w fun e w' => PPost (partX ts s) w e w' := by
  obtain ⟨mb, v, hA⟩ := hT.at'
  have hA' := hA
  obtain ⟨_, _, _, hr0, _⟩ := hA'
  obtain ⟨p, cc, rfl, hcc⟩ := vals_form (vrow_vals hr0) (keys_len ts)
  have CU := numberOfD (w := w) hs hl
  have CM := madeD hA.1
  obtain ⟨n, hnn⟩ : ∃ n, n = noL s := ⟨_, rfl⟩
  obtain ⟨m, hm⟩ : ∃ m, m = ts.length := ⟨_, rfl⟩
  rw [← hm] at hA hcc
  rw [← hnn] at CU
  have hn64 : n < 18446744073709551616 := by
    by_cases h0 : n = 0
    · omega
    · rw [hnn]; exact (noL_of hs (by rw [← hnn]; exact h0)).2
  have hm6 : m < 1000000 := by omega
  have hmI : m < 4611686018427387904 := by omega
  have c1 : Kept (w.cell? ⟨tb, 1, none⟩ = some (.slice p m cc)) := ⟨hA.1.cell rfl⟩
  have KU : Kept _ := ⟨CU⟩
  have KM : Kept _ := ⟨CM⟩
  by_cases h0 : n = 0
  · have KP : Kept (partX ts s = none) := ⟨partX_none hs hn (.inl (by rw [← hnn]; exact h0))⟩
    subst h0
    have B0 : Kept (true = decide (0 = 0)) := ⟨rfl⟩
    rw [KP.out]
    clear hT hA hr0 hs hl hnn hm CU CM hn
    go_enter Tryd.func27, Tryd.ntmps27
    go_wp2_with fail
    refine KU.out.mono ?_
    rintro e w1 ⟨rfl, hw⟩
    obtain rfl := hw.symm
    go_wp2_with fail
    refine KM.out.mono ?_
    rintro e w1 ⟨rfl, hw⟩
    obtain rfl := hw.symm
    go_wp2_with (first | ((with_reducible refine wv_val (d := 18) ?hd ?hw (.bool true) ?hr ?_); (case hd => rfl); (case hw => kernel_rfl); (case hr => intro w; exact run_eq0U (n := 0) rfl (by kernel_rfl) B0.out w); simp only [Act.put, List.setIfInBounds_toArray, List.set_cons_succ, List.set_cons_zero]))
    refine bodyPost_ret (v := .tuple #[.int .u8 0, .slice none 0 0, .bool false]) (by simp [results, Tryd.results27, go_sem]) rfl ?_
    exact ⟨rfl, Below.refl _ _⟩
  · have B0 : Kept (false = decide (n = 0)) := ⟨(decide_eq_false h0).symm⟩
    by_cases h1 : m < n
    · have KP : Kept (partX ts s = none) := ⟨partX_none hs hn (.inr (by rw [← hnn, ← hm]; exact h1))⟩
      have B1 : Kept (true = decide (m < n)) := ⟨(decide_eq_true h1).symm⟩
      rw [KP.out]
      clear hT hA hr0 hs hl hnn hm CU CM h0 h1 hn
      go_enter Tryd.func27, Tryd.ntmps27
      go_wp2_with fail
      refine KU.out.mono ?_
      rintro e w1 ⟨rfl, hw⟩
      obtain rfl := hw.symm
      go_wp2_with fail
      refine KM.out.mono ?_
      rintro e w1 ⟨rfl, hw⟩
      obtain rfl := hw.symm
      go_wp2_with (first | ((with_reducible refine wv_val (d := 18) ?hd ?hw (.bool false) ?hr ?_); (case hd => rfl); (case hw => kernel_rfl); (case hr => intro w; exact run_eq0U rfl (by kernel_rfl) B0.out w); simp only [Act.put, List.setIfInBounds_toArray, List.set_cons_succ, List.set_cons_zero]) | ((with_reducible refine wv_elem (d := 25) ?hd ?hw 29 ag_strs (.tmp 24) ?ho (⟨tb, 1, none⟩) ?hx (.slice p m cc) ?hc ?_); (case hd => rfl); (case hw => kernel_rfl); (case ho => rfl); (case hx => kernel_rfl); (case hc => exact c1.out); simp only [Act.put, List.setIfInBounds_toArray, List.set_cons_succ, List.set_cons_zero]) | ((with_reducible refine wv_val (d := 27) ?hd ?hw (.int .u64 (m : Int)) ?hr ?_); (case hd => rfl); (case hw => kernel_rfl); (case hr => intro w; exact run_c3U rfl (by kernel_rfl) hmI w); simp only [Act.put, List.setIfInBounds_toArray, List.set_cons_succ, List.set_cons_zero]) | ((with_reducible refine wv_val (d := 28) ?hd ?hw (.bool true) ?hr ?_); (case hd => rfl); (case hw => kernel_rfl); (case hr => intro w; exact run_gtrU rfl (by kernel_rfl) (by kernel_rfl) B1.out w); simp only [Act.put, List.setIfInBounds_toArray, List.set_cons_succ, List.set_cons_zero]))
      refine bodyPost_ret (v := .tuple #[.int .u8 0, .slice none 0 0, .bool false]) (by simp [results, Tryd.results27, go_sem]) rfl ?_
      exact ⟨rfl, Below.refl _ _⟩
    · have B1 : Kept (false = decide (m < n)) := ⟨(decide_eq_false h1).symm⟩
      obtain ⟨i, hi⟩ : ∃ i, n = i + 1 := ⟨n - 1, by omega⟩
      have him : i < m := by omega
      have KI : Kept _ := ⟨hi⟩
      obtain ⟨t, ht⟩ : ∃ t, ts[i]? = some t := ⟨_, List.getElem?_eq_getElem (by omega)⟩
      have KP : Kept (partX ts s = some t) := ⟨by rw [partX_some hs hn (by rw [← hnn]; exact h0) (by rw [← hnn, ← hm]; omega), ← hnn, hi]; exact ht⟩
      have hG : GoodT t := good_mem hT.terms (List.mem_of_getElem? ht)
      have CS := SplitT (w := w) hG
      have hx : (strs (ts.map keyL))[i]? = some (.string (strOf (keyL t))) := strs_get (by rw [List.getElem?_map, ht]; rfl)
      obtain ⟨A, rfl, hAb, hcell⟩ := vals_at (vrow_vals hr0) hx
      obtain ⟨T, hTT⟩ : ∃ T, T = keyL t := ⟨_, rfl⟩
      rw [← hTT] at CS hcell
      have KS : Kept _ := ⟨CS⟩
      have KC : Kept _ := ⟨hcell⟩
      rw [KP.out]
      clear hT hA hr0 hs hl hnn hm CU CM h0 h1 hn ht hx hcell CS hTT hG hi
      go_enter Tryd.func27, Tryd.ntmps27
      go_wp2_with fail
      refine KU.out.mono ?_
      rintro e w1 ⟨rfl, hw⟩
      obtain rfl := hw.symm
      go_wp2_with fail
      refine KM.out.mono ?_
      rintro e w1 ⟨rfl, hw⟩
      obtain rfl := hw.symm
      go_wp2_with (first | ((with_reducible refine wv_val (d := 18) ?hd ?hw (.bool false) ?hr ?_); (case hd => rfl); (case hw => kernel_rfl); (case hr => intro w; exact run_eq0U rfl (by kernel_rfl) B0.out w); simp only [Act.put, List.setIfInBounds_toArray, List.set_cons_succ, List.set_cons_zero]) | ((with_reducible refine wv_elem (d := 25) ?hd ?hw 29 ag_strs (.tmp 24) ?ho (⟨tb, 1, none⟩) ?hx (.slice (some A) m cc) ?hc ?_); (case hd => rfl); (case hw => kernel_rfl); (case ho => rfl); (case hx => kernel_rfl); (case hc => exact c1.out); simp only [Act.put, List.setIfInBounds_toArray, List.set_cons_succ, List.set_cons_zero]) | ((with_reducible refine wv_val (d := 27) ?hd ?hw (.int .u64 (m : Int)) ?hr ?_); (case hd => rfl); (case hw => kernel_rfl); (case hr => intro w; exact run_c3U rfl (by kernel_rfl) hmI w); simp only [Act.put, List.setIfInBounds_toArray, List.set_cons_succ, List.set_cons_zero]) | ((with_reducible refine wv_val (d := 28) ?hd ?hw (.bool false) ?hr ?_); (case hd => rfl); (case hw => kernel_rfl); (case hr => intro w; exact run_gtrU rfl (by kernel_rfl) (by kernel_rfl) B1.out w); simp only [Act.put, List.setIfInBounds_toArray, List.set_cons_succ, List.set_cons_zero]) | ((with_reducible refine wv_elem (d := 34) ?hd ?hw 29 ag_strs (.tmp 33) ?ho (⟨tb, 1, none⟩) ?hx (.slice (some A) m cc) ?hc ?_); (case hd => rfl); (case hw => kernel_rfl); (case ho => rfl); (case hx => kernel_rfl); (case hc => exact c1.out); simp only [Act.put, List.setIfInBounds_toArray, List.set_cons_succ, List.set_cons_zero]) | ((with_reducible refine wv_val (d := 36) ?hd ?hw (.int .u64 (i : Int)) ?hr ?_); (case hd => rfl); (case hw => kernel_rfl); (case hr => intro w; exact run_sub1U rfl (by kernel_rfl) KI.out hn64 w); simp only [Act.put, List.setIfInBounds_toArray, List.set_cons_succ, List.set_cons_zero]) | ((with_reducible refine wv_val (d := 37) ?hd ?hw (.pointer (some (A.add i))) ?hr ?_); (case hd => rfl); (case hw => kernel_rfl); (case hr => intro w; exact run_idxU rfl (by kernel_rfl) (by kernel_rfl) Tryd.underlying29 him Tryd.sizeOf9 w); simp only [Act.put, List.setIfInBounds_toArray, List.set_cons_succ, List.set_cons_zero]) | ((with_reducible refine wv_elem (d := 38) ?hd ?hw 9 ag_str (.tmp 37) ?ho (A.add i) ?hx (.string (strOf T)) ?hc ?_); (case hd => rfl); (case hw => kernel_rfl); (case ho => rfl); (case hx => kernel_rfl); (case hc => exact KC.out); simp only [Act.put, List.setIfInBounds_toArray, List.set_cons_succ, List.set_cons_zero]))
      refine KS.out.mono ?_
      rintro e w1 ⟨⟨V, rfl, hV⟩, q1⟩
      have KV : Kept _ := ⟨hV⟩
      clear hV
      go_wp2_with fail
      refine bodyPost_ret (v := .tuple #[.int .u8 (t.1 : Int), V, .bool true]) (by simp [results, Tryd.results27, go_sem]) rfl ?_
      exact ⟨⟨V, rfl, KV.out⟩, q1⟩
end Go.Proofs.YtniogaimhkcedaaDoor.sh
/-
  (*Table).All, (*Table).Dh.
-/
namespace Go.Proofs.YtniogaimhkcedaaDoor.sh
open Go Go.RowKit Go.Maps
set_option linter.unusedVariables false
set_option linter.unusedSimpArgs false

/-- The names of so many terms. -/
def namesL (i : Nat) : List (List Nat) := (List.range i).map fun j => termN (j + 1)
theorem namesL_len (i : Nat) : (namesL i).length = i := by simp [namesL]
theorem namesL_succ (i : Nat) : namesL (i + 1) = namesL i ++ [termN (i + 1)] := by simp [namesL, List.range_succ]
theorem namesL_get {i n : Nat} (h : i < n) : (namesL n)[i]? = some (termN (i + 1)) := by simp [namesL, h]
def nmA (i n : Nat) : Array Value := (strs (namesL i) ++ List.replicate (n - i) (Value.string .empty)).toArray
theorem nmA_size {i n : Nat} (h : i ≤ n) : (nmA i n).size = n := by simp [nmA, strs_len, namesL_len]; omega
theorem nmA_set {i n : Nat} (h : i < n) : (nmA i n).setIfInBounds i (.string (strOf (termN (i + 1)))) = nmA (i + 1) n := by
  unfold nmA
  rw [List.setIfInBounds_toArray, namesL_succ, strs_append]
  congr 1
  have hl : (strs (namesL i)).length = i := by rw [strs_len, namesL_len]
  rw [List.set_append_right _ _ (by omega), hl, Nat.sub_self, show n - i = (n - (i + 1)) + 1 by omega, List.replicate_succ, List.set_cons_zero, List.append_assoc]
  rfl
theorem nmA_all (n : Nat) : (nmA n n).toList = strs (namesL n) := by simp [nmA]
theorem made_empty (n : Nat) : madeCells (Value.string .empty).cells n = nmA 0 n := by
  apply Array.ext_getElem?
  intro i
  by_cases h : i < n
  · simp [madeCells, nmA, namesL, strs, Value.cells, h, Nat.mod_one]
  · rw [Array.getElem?_eq_none (by rw [size_madeCells]; omega), Array.getElem?_eq_none (by rw [nmA_size (Nat.zero_le _)]; omega)]
theorem run_mkS (c : Nat) (hc : c < 1000001) (w : World) : (Instr.makeSlice 29 (.int .i64 (c : Int)) (.int .i64 (c : Int))).run Tryd.prog w = .ok (.slice (some ⟨w.heap.size, 0, none⟩) c c) (w.alloc (.cells (nmA 0 c) 9)) := by
  have hi := inf_str
  cases hq : Tryd.prog.info? 9 with
  | none => rw [hq] at hi; cases hi
  | some i =>
    rw [hq] at hi
    simp only [Option.map_some, Option.some.injEq, Prod.mk.injEq] at hi
    obtain ⟨h1, h2, h3⟩ := hi
    have h := run_make (P := Tryd.prog) w 29 9 i (.string .empty) Tryd.underlying29 hq h1 .i64 .i64 (c : Int) (c : Int) (by omega) (Int.le_refl _) (by rw [h3]; omega) (by omega)
    rw [h2, Nat.mul_one, Int.toNat_natCast, made_empty] at h
    exact h
theorem wl_mkS {ops : Array Oper} {rest : List Oper} {o : Oper} {a : Act} {w : World} {Q : Exit → Act → World → Prop} (hgd : o.guard = none) (x : Operand) (ho : o.op = .makeSlice 29 x x) (c : Nat) (hx : a.eval x = .int .i64 (c : Int)) (hc : c < 1000001)
    (h : wpList Tryd.prog ops Q rest (a.put o.dst (.slice (some ⟨w.heap.size, 0, none⟩) c c)) (w.alloc (.cells (nmA 0 c) 9))) : wpList Tryd.prog ops Q (o :: rest) a w :=
  wpList_plain hgd fun K hK => by
    have hrun : (execOp a.eval o).run Tryd.prog w = .ok (.value (.slice (some ⟨w.heap.size, 0, none⟩) c c)) (w.alloc (.cells (nmA 0 c) 9)) := by
      unfold execOp
      simp only [ho, hx]
      simp [run_mkS c hc w]
    unfold Oper.wp
    rw [hrun]
    exact hK _ _ h
theorem vrow_of_blk {base g n : Nat} {e : TypeId} {A : Array Value} {w : World} (h : Blk w g e A) (hn : A.size = n) (hb : base ≤ g) (hm : n ≤ maxLen) : VRow base e A.toList (.slice (some ⟨g, 0, none⟩) n n) w := by
  subst hn
  unfold VRow
  rw [Array.length_toList]
  refine ⟨by simp, .inr ⟨g, A.size, A, rfl, hb, h, Nat.le_refl _, hm, by omega, ?_⟩⟩
  rw [Nat.mul_one, List.take_of_length_le (by simp)]
theorem run_add1U {o : Oper} {a : Act} {x : Operand} {m n : Nat} (ho : o.op = .binOp .add 44 x (.const (.int .u64 1)) 44) (hx : a.eval x = .int .u64 (m : Int)) (hn : n = m + 1) (hm : n < 18446744073709551616) (w : World) : (execOp a.eval o).run Tryd.prog w = .ok (.value (.int .u64 (n : Int))) w := by
  have e3 : a.eval (.const (.int .u64 1)) = .int .u64 1 := rfl
  have h4 : ((m : Int) + 1) % 18446744073709551616 = (n : Int) := by omega
  unfold execOp
  simp only [ho, hx, e3]
  simp [go_sem, IntKind.wrap_u64, h4]
set_option maxRecDepth 100000 in
set_option maxHeartbeats 2000000 in
theorem AllD {tb B : Nat} {ts : List TermL} {M : Nat → Prop} {w : World} (hT : Tab tb B ts M w) (hn : ts.length < 1000000) :
    Calls Tryd.prog 14 #[.pointer (some ⟨tb, 0, none⟩)] w fun e w' => (∃ V, e = .returned V ∧ VRow w.heap.size 9 (strs (namesL ts.length)) V w') ∧ Below w.heap.size w w' := by
  obtain ⟨mb, v, hA⟩ := hT.at'
  have hA' := hA
  obtain ⟨_, _, _, hr0, _⟩ := hA'
  obtain ⟨p, cc, rfl, hcc⟩ := vals_form (vrow_vals hr0) (keys_len ts)
  have CM := madeD hA.1
  obtain ⟨m, hm⟩ : ∃ m, m = ts.length := ⟨_, rfl⟩
  rw [← hm] at hA hcc ⊢
  have hm6 : m < 1000001 := by omega
  have hmI : m < 4611686018427387904 := by omega
  have c1 : Kept (w.cell? ⟨tb, 1, none⟩ = some (.slice p m cc)) := ⟨hA.1.cell rfl⟩
  have KM : Kept _ := ⟨CM⟩
  obtain ⟨H, hH⟩ : ∃ H, H = w.heap.size := ⟨_, rfl⟩
  have KH : Kept _ := ⟨hH⟩
  rw [← hH]
  have hb0 : Kept (Blk (w.alloc (.cells (nmA 0 m) 9)) H 9 (nmA 0 m)) := ⟨by rw [hH]; exact blk_new _ _ _⟩
  have hq0 : Kept (Below H w (w.alloc (.cells (nmA 0 m) 9))) := ⟨by rw [hH]; exact (Below.refl _ _).alloc (Nat.le_refl _) _⟩
  clear hT hA hr0 hm CM hn
  go_enter Tryd.func14, Tryd.ntmps14
  go_wp2_with fail
  refine KM.out.mono ?_
  rintro e w1 ⟨rfl, hw⟩
  obtain rfl := hw.symm
  go_wp2_with (first | ((with_reducible refine wv_elem (d := 11) ?hd ?hw 29 ag_strs (.tmp 10) ?ho (⟨tb, 1, none⟩) ?hx (.slice p m cc) ?hc ?_); (case hd => rfl); (case hw => kernel_rfl); (case ho => rfl); (case hx => kernel_rfl); (case hc => exact c1.out); simp only [Act.put, List.setIfInBounds_toArray, List.set_cons_succ, List.set_cons_zero]) | (refine wl_mkS rfl (.tmp 12) rfl m (by kernel_rfl) hm6 ?_; rw [← KH.out]; simp only [Act.put, List.setIfInBounds_toArray, List.set_cons_succ, List.set_cons_zero]))
  clear c1 hcc hH
  go_loopg [16] m (fun g s16 wr => ∃ i : Nat, i + g = m ∧ s16 = .int .i64 (i : Int) ∧ Blk wr H 9 (nmA i m) ∧ Below H w wr)
  case atStart => exact ⟨0, by omega, rfl, hb0.out, hq0.out⟩
  case round =>
    rename World => wz
    obtain ⟨i, hik, rfl, hbi, hqi⟩ := hrel
    by_cases hk0 : gk = 0
    · obtain rfl : m = i := by omega
      go_wp2_with fail
      go_ret
      refine ⟨⟨_, rfl, ?_⟩, hqi⟩
      rw [← nmA_all]
      exact vrow_of_blk hbi (nmA_size (Nat.le_refl _)) (Nat.le_refl _) (by unfold maxLen; omega)
    · have hin : i < m := by omega
      have hin' : (i : Int) < (m : Int) := by omega
      have hiI : i < 4611686018427387904 := by omega
      obtain ⟨j, hj⟩ : ∃ j, j = i + 1 := ⟨_, rfl⟩
      have KJ : Kept _ := ⟨hj⟩
      have hj64 : j < 18446744073709551616 := by omega
      have CN := nameOfD (w := wz) hj64
      obtain ⟨N, hN⟩ : ∃ N, N = termN j := ⟨_, rfl⟩
      rw [← hN] at CN
      have KCN : Kept _ := ⟨CN⟩
      have KN : Kept _ := ⟨hN⟩
      have KB : Kept _ := ⟨hbi⟩
      have his : Kept (i < (nmA i m).size) := ⟨by rw [nmA_size (by omega)]; exact hin⟩
      clear CN hN hj hbi
      go_wp2_with (first | ((with_reducible refine wv_val (d := 22) ?hd ?hw (.int .u64 (i : Int)) ?hr ?_); (case hd => rfl); (case hw => kernel_rfl); (case hr => intro w; exact run_c3U rfl (by kernel_rfl) hiI w); simp only [Act.put, List.setIfInBounds_toArray, List.set_cons_succ, List.set_cons_zero]) | ((with_reducible refine wv_val (d := 23) ?hd ?hw (.int .u64 (j : Int)) ?hr ?_); (case hd => rfl); (case hw => kernel_rfl); (case hr => intro w; exact run_add1U rfl (by kernel_rfl) KJ.out hj64 w); simp only [Act.put, List.setIfInBounds_toArray, List.set_cons_succ, List.set_cons_zero]))
      refine KCN.out.mono ?_
      rintro e w5 ⟨rfl, q5⟩
      have hb5 := KB.out.under q5
      go_wp2_with (first | ((with_reducible refine wv_val (d := 25) ?hd ?hw (.pointer (some ⟨H, i, none⟩)) ?hr ?_); (case hd => rfl); (case hw => kernel_rfl); (case hr => intro w; exact run_idxS0 rfl (by kernel_rfl) (by kernel_rfl) Tryd.underlying29 hin Tryd.sizeOf9 w); simp only [Act.put, List.setIfInBounds_toArray, List.set_cons_succ, List.set_cons_zero]) | ((refine wl_set1 rfl 9 Tryd.sizeOf9 (.tmp 25) (.tmp 24) rfl H i (.string (strOf N)) (by kernel_rfl) (by kernel_rfl) rfl _ hb5 his.out ?_); intro w6 hb6 hp6; simp only [Act.put, List.setIfInBounds_toArray, List.set_cons_succ, List.set_cons_zero]))
      go_roundg (gk - 1)
      case measure => omega
      case rel =>
        refine ⟨i + 1, by omega, by simp, ?_, ?_⟩
        · rw [KN.out, KJ.out, nmA_set hin] at hb6
          exact hb6
        · have hH2 := hqi.size
          rw [← KH.out] at hH2
          exact (hqi.trans (q5.mono hH2)).trans (hp6.below (Nat.le_refl _))
theorem dhL_part (ts : List TermL) (a b : List Nat) : dhL ts a b = (match partX ts b with
    | some (2, [y]) => ((putL ts (3, sort2 a y)).1, (putL ts (3, sort2 a y)).2, decide ((putL ts (3, sort2 a y)).2 ≠ []))
    | _ => (ts, [], false)) := by
  unfold dhL partX
  by_cases h : findN ts.length b = 0
  · rw [if_pos h]
    split
    · rw [if_pos h]
    · rfl
  · rw [if_neg h]
    generalize ts[findN ts.length b - 1]? = q
    split
    · rw [if_neg h]; rfl
    · next hq =>
      split
      · next y => exact absurd rfl (hq y)
      · rfl
theorem dhL_none {ts : List TermL} {a b : List Nat} (h : partX ts b = none) : dhL ts a b = (ts, [], false) := by rw [dhL_part, h]
theorem dhL_kind {ts : List TermL} {a b : List Nat} {t : TermL} (h : partX ts b = some t) (hk : t.1 ≠ 2) : dhL ts a b = (ts, [], false) := by
  rw [dhL_part, h]
  obtain ⟨k, p⟩ := t
  have hk' : k ≠ 2 := hk
  split
  · next y e => cases e; exact absurd rfl hk'
  · rfl
theorem dhL_two {ts : List TermL} {a b y : List Nat} (h : partX ts b = some (2, [y])) : dhL ts a b = ((putL ts (3, sort2 a y)).1, (putL ts (3, sort2 a y)).2, decide ((putL ts (3, sort2 a y)).2 ≠ [])) := (dhL_part ts a b).trans (by rw [h]; rfl)
theorem partX_mem {ts : List TermL} {b : List Nat} {t : TermL} (h : partX ts b = some t) : t ∈ ts := by
  unfold partX at h
  split at h
  · cases h
  · exact List.mem_of_getElem? h
theorem putL_bytes (ts : List TermL) (t : TermL) : Bytes (putL ts t).2 := by
  by_cases hF : Fits t.2
  · by_cases hm : t ∈ ts
    · rw [putL_old hF hm]; exact termN_bytes _
    · rw [putL_new hF hm]; exact termN_bytes _
  · rw [putL_not hF]; exact nil_bytes
theorem run_sleq {l m : List Nat} (hl : Bytes l) (hm : Bytes m) (w : World) : (Op.stringOp .leq (strOf l) (strOf m)).run Tryd.prog w = .ok (.bool (lessL l m || decide (l = m))) w := by
  rw [← sa_less hl hm, ← sa_beq hl hm]
  simp [Op.stringOp]
theorem run_sgeq {l m : List Nat} (hl : Bytes l) (hm : Bytes m) (w : World) : (Op.stringOp .geq (strOf l) (strOf m)).run Tryd.prog w = .ok (.bool (!lessL l m)) w := by
  rw [← sa_less hl hm]
  simp [Op.stringOp]
theorem run_smin {o : Oper} {a : Act} {x y : Operand} {l m z : List Nat} {ts : Array TypeId} (ho : o.op = .call { callee := .builtin .min, args := #[x, y], argTypes := ts }) (hx : a.eval x = .string (strOf l)) (hy : a.eval y = .string (strOf m)) (hl : Bytes l) (hm : Bytes m) (hz : z = if lessL m l = true then m else l) (w : World) : (execOp a.eval o).run Tryd.prog w = .ok (.value (.string (strOf z))) w := by
  have h : (Builtin.min_ ts o.type #[.string (strOf l), .string (strOf m)]).run Tryd.prog w = .ok (.string (strOf z)) w := by
    have e := run_sleq hl hm w
    rw [hz]
    by_cases h1 : lessL m l = true
    · have h2 := lessL_asym _ _ h1
      have h3 : l ≠ m := fun h => by rw [h, lessL_irrefl] at h1; cases h1
      simp [Builtin.min_, Builtin.min2, e, asBool, h1, h2, h3]
    · have h1' : lessL m l = false := by simpa using h1
      by_cases h2 : lessL l m = true
      · have h3 : l ≠ m := fun h => by rw [h, lessL_irrefl] at h2; cases h2
        simp [Builtin.min_, Builtin.min2, e, asBool, h1', h2, h3]
      · have h2' : lessL l m = false := by simpa using h2
        have h3 := lessL_tri l m h2' h1'
        subst h3
        simp [Builtin.min_, Builtin.min2, e, asBool, h1']
  unfold execOp
  simp only [ho, resolve, invoke, builtin, Sem.run_bind, Sem.run_pure, Result.andThen_ok, List.map_toArray, List.map_cons, List.map_nil, hx, hy, h]
theorem run_smax {o : Oper} {a : Act} {x y : Operand} {l m z : List Nat} {ts : Array TypeId} (ho : o.op = .call { callee := .builtin .max, args := #[x, y], argTypes := ts }) (hx : a.eval x = .string (strOf l)) (hy : a.eval y = .string (strOf m)) (hl : Bytes l) (hm : Bytes m) (hz : z = if lessL l m = true then m else l) (w : World) : (execOp a.eval o).run Tryd.prog w = .ok (.value (.string (strOf z))) w := by
  have h : (Builtin.max_ ts o.type #[.string (strOf l), .string (strOf m)]).run Tryd.prog w = .ok (.string (strOf z)) w := by
    have e := run_sgeq hl hm w
    rw [hz]
    by_cases h1 : lessL m l = true
    · have h2 := lessL_asym _ _ h1
      have h3 : l ≠ m := fun h => by rw [h, lessL_irrefl] at h1; cases h1
      simp [Builtin.max_, Builtin.max2, e, asBool, h1, h2, h3]
    · have h1' : lessL m l = false := by simpa using h1
      by_cases h2 : lessL l m = true
      · have h3 : l ≠ m := fun h => by rw [h, lessL_irrefl] at h2; cases h2
        simp [Builtin.max_, Builtin.max2, e, asBool, h1', h2, h3]
      · have h2' : lessL l m = false := by simpa using h2
        have h3 := lessL_tri l m h2' h1'
        subst h3
        simp [Builtin.max_, Builtin.max2, e, asBool, h1']
  unfold execOp
  simp only [ho, resolve, invoke, builtin, Sem.run_bind, Sem.run_pure, Result.andThen_ok, List.map_toArray, List.map_cons, List.map_nil, hx, hy, h]
theorem sort2_min (a y : List Nat) : sort2 a y = [if lessL y a = true then y else a, if lessL a y = true then y else a] := by
  unfold sort2
  by_cases h1 : lessL y a = true
  · rw [if_pos h1, if_pos h1, if_neg (by rw [lessL_asym _ _ h1]; decide)]
  · by_cases h2 : lessL a y = true
    · rw [if_neg h1, if_neg h1, if_pos h2]
    · rw [if_neg h1, if_neg h1, if_neg h2, lessL_tri a y (by simpa using h2) (by simpa using h1)]
/-- A public key has one part, of bytes, short enough. -/
theorem pub_form {ts : List TermL} (h : Terms ts) {t : TermL} (ht : t ∈ ts) (hk : t.1 = 2) : ∃ y, t = (2, [y]) ∧ Bytes y ∧ y.length ≤ 4000 := by
  obtain ⟨k, ps⟩ := t
  have hk' : k = 2 := hk
  subst hk'
  have hf := h.2 _ ht
  have hF := h.1.2 _ ht
  rcases hf.2 with ⟨e, _⟩ | ⟨_, y, e⟩ | ⟨e, _⟩ | e | e
  · cases e
  · have e' : ps = [y] := e
    subst e'
    exact ⟨y, rfl, hf.1 y (by simp), hF.2.1 y (by simp)⟩
  · cases e
  · cases e
  · cases e
set_option maxRecDepth 100000 in
set_option maxHeartbeats 4000000 in
theorem DhD {tb B : Nat} {ts : List TermL} {M : Nat → Prop} {a b : List Nat} {w : World} (hT : Tab tb B ts M w) (ha : Bytes a) (hb : Bytes b) (hal : a.length ≤ maxLen) (hbl : b.length ≤ maxLen) (hn : ts.length < 1000000) :
    Calls Tryd.prog 25 #[.pointer (some ⟨tb, 0, none⟩), .string (strOf a), .string (strOf b)] w fun e w' => e = .returned (.tuple #[.string (strOf (dhL ts a b).2.1), .bool (dhL ts a b).2.2]) ∧ Puts tb B ts M w (dhL ts a b).1 w' := by
  have CP := PartsD hT hb hbl hn
  obtain ⟨x, hx⟩ : ∃ x, x = partX ts b := ⟨_, rfl⟩
  rw [← hx] at CP
  have stay : ∀ w', dhL ts a b = (ts, [], false) → Below w.heap.size w w' → Ending.returned (.tuple #[.string .empty, .bool false]) = .returned (.tuple #[.string (strOf (dhL ts a b).2.1), .bool (dhL ts a b).2.2]) ∧ Puts tb B ts M w (dhL ts a b).1 w' := fun w' e q => by
    rw [e]
    exact ⟨rfl, M, hT.under q, Turn.of_below q⟩
  have KS : Kept _ := ⟨stay⟩
  have KT : Kept _ := ⟨hT⟩
  clear stay
  cases x with
  | none =>
    have KD : Kept _ := ⟨dhL_none (a := a) hx.symm⟩
    have KC : Kept _ := ⟨CP⟩
    clear hx CP hT hn
    go_enter Tryd.func25, Tryd.ntmps25
    go_wp2_with fail
    refine KC.out.mono ?_
    rintro e w1 ⟨rfl, q1⟩
    go_wp2_with fail
    refine bodyPost_ret (v := .tuple #[.string ⟨#[]⟩, .bool false]) (by simp [results, Tryd.results25, go_sem]) rfl ?_
    exact KS.out w1 KD.out q1
  | some t =>
    have hmem := partX_mem hx.symm
    by_cases hk : t.1 = 2
    case neg =>
      have KD : Kept _ := ⟨dhL_kind (a := a) hx.symm hk⟩
      obtain ⟨k, ps⟩ := t
      have hk' : ¬ k = 2 := hk
      have B1 : Kept (true = !decide (k = 2)) := ⟨by rw [decide_eq_false hk']; rfl⟩
      have KC : Kept _ := ⟨CP⟩
      clear hx CP hk hk' hmem hT hn
      go_enter Tryd.func25, Tryd.ntmps25
      go_wp2_with fail
      refine KC.out.mono ?_
      rintro e w1 ⟨⟨V, rfl, hV⟩, q1⟩
      obtain ⟨p, c, rfl, _⟩ := vals_form (vrow_vals hV) (strs_len ps)
      clear hV
      go_wp2_with (first | ((with_reducible refine wv_val (d := 24) ?hd ?hw (.bool true) ?hr ?_); (case hd => rfl); (case hw => kernel_rfl); (case hr => intro w; exact run_neU (n := 2) rfl (by kernel_rfl) rfl B1.out w); simp only [Act.put, List.setIfInBounds_toArray, List.set_cons_succ, List.set_cons_zero]))
      refine bodyPost_ret (v := .tuple #[.string ⟨#[]⟩, .bool false]) (by simp [results, Tryd.results25, go_sem]) rfl ?_
      exact KS.out w1 KD.out q1
    case pos =>
      obtain ⟨y, rfl, hy, hyl⟩ := pub_form hT.terms hmem hk
      have hD := dhL_two (a := a) hx.symm
      have hs2 := sort2_min a y
      have hsb := sort2_bytes ha hy
      have NB := putL_bytes ts (3, sort2 a y)
      obtain ⟨P, hP⟩ : ∃ P, P = (putL ts (3, sort2 a y)).2 := ⟨_, rfl⟩
      rw [hD, ← hP]
      rw [← hP] at NB
      have hf3 : Formed (3, sort2 a y) := ⟨hsb, .inr (.inr (.inl ⟨rfl, sort2_two a y⟩))⟩
      have CN := fun w1 V (q : Below w.heap.size w w1) (hV : ValsV V w1 (strs (sort2 a y))) => nameD (k := 3) (hT.under q) hf3 hV (fun l h => by
        rw [hs2] at h
        simp at h
        rcases h with rfl | rfl <;> split <;> first | exact hal | (unfold maxLen; omega)) hn
      rw [← hP] at CN
      obtain ⟨z1, hz1⟩ : ∃ z, z = if lessL y a = true then y else a := ⟨_, rfl⟩
      obtain ⟨z2, hz2⟩ : ∃ z, z = if lessL a y = true then y else a := ⟨_, rfl⟩
      rw [← hz1, ← hz2] at hs2
      obtain ⟨F, hF⟩ : ∃ F, F = decide (P ≠ []) := ⟨_, rfl⟩
      have BF : Kept (F = !decide (P = [])) := ⟨by rw [hF]; exact decide_not⟩
      rw [← hF]
      have KN : Kept _ := ⟨CN⟩
      have Ks : Kept _ := ⟨hs2⟩
      have KC : Kept _ := ⟨CP⟩
      have KNB : Kept _ := ⟨NB⟩
      have K1 : Kept _ := ⟨hz1⟩
      have K2 : Kept _ := ⟨hz2⟩
      have Ka : Kept _ := ⟨ha⟩
      have Ky : Kept _ := ⟨hy⟩
      clear hx CP hk hmem hD hs2 hsb NB hP hf3 CN hz1 hz2 hF hT hn ha hy hb KS
      go_enter Tryd.func25, Tryd.ntmps25
      go_wp2_with fail
      refine KC.out.mono ?_
      rintro e w1 ⟨⟨V, rfl, hV⟩, q1⟩
      have hV1 := vrow_vals hV
      obtain ⟨p, c, rfl, _⟩ := vals_form hV1 (strs_len [y])
      obtain ⟨A, rfl, hAb, hcell⟩ := vals_at hV1 (show (strs [y])[0]? = some (.string (strOf y)) from rfl)
      have KCe : Kept _ := ⟨hcell⟩
      have B1 : Kept (false = !decide (2 = 2)) := ⟨rfl⟩
      have hlt : 0 < 1 := by decide
      clear hV hV1 hcell
      go_wp2_with (first | ((with_reducible refine wv_val (d := 24) ?hd ?hw (.bool false) ?hr ?_); (case hd => rfl); (case hw => kernel_rfl); (case hr => intro w; exact run_neU (m := 2) (n := 2) rfl (by kernel_rfl) rfl B1.out w); simp only [Act.put, List.setIfInBounds_toArray, List.set_cons_succ, List.set_cons_zero]) | ((with_reducible refine wv_val (d := 27) ?hd ?hw (.pointer (some (A.add 0))) ?hr ?_); (case hd => rfl); (case hw => kernel_rfl); (case hr => intro w; exact run_idxS (i := 0) (l := 1) rfl (by kernel_rfl) rfl Tryd.underlying29 hlt Tryd.sizeOf9 w); simp only [Act.put, List.setIfInBounds_toArray, List.set_cons_succ, List.set_cons_zero]) | ((with_reducible refine wv_elem (d := 28) ?hd ?hw 9 ag_str (.tmp 27) ?ho (A.add 0) ?hx (.string (strOf y)) ?hc ?_); (case hd => rfl); (case hw => kernel_rfl); (case ho => rfl); (case hx => kernel_rfl); (case hc => exact KCe.out); simp only [Act.put, List.setIfInBounds_toArray, List.set_cons_succ, List.set_cons_zero]) | ((with_reducible refine wv_val (d := 32) ?hd ?hw (.string (strOf z1)) ?hr ?_); (case hd => rfl); (case hw => kernel_rfl); (case hr => intro w; exact run_smin rfl (by kernel_rfl) (by kernel_rfl) Ka.out Ky.out K1.out w); simp only [Act.put, List.setIfInBounds_toArray, List.set_cons_succ, List.set_cons_zero]) | ((with_reducible refine wv_val (d := 35) ?hd ?hw (.string (strOf z2)) ?hr ?_); (case hd => rfl); (case hw => kernel_rfl); (case hr => intro w; exact run_smax rfl (by kernel_rfl) (by kernel_rfl) Ka.out Ky.out K2.out w); simp only [Act.put, List.setIfInBounds_toArray, List.set_cons_succ, List.set_cons_zero]) | (refine wl_bs2 (by kernel_rfl) (.tmp 32) (.tmp 35) rfl (z1) (z2) (by kernel_rfl) (by kernel_rfl) ?_; simp only [Act.put, List.setIfInBounds_toArray, List.set_cons_succ, List.set_cons_zero]))
      have q2 := q1.trans (((Below.refl w1.heap.size w1).alloc (Nat.le_refl _) (.cells #[.string (strOf z1), .string (strOf z2)] 9)).mono q1.size)
      refine (KN.out _ _ q2 (by rw [Ks.out]; exact new2 z1 z2 w1)).mono ?_
      rintro e w3 ⟨rfl, hPu⟩
      have KPu : Kept _ := ⟨hPu⟩
      clear hPu
      go_wp2_with (first | ((with_reducible refine wv_val (d := 40) ?hd ?hw (.bool F) ?hr ?_); (case hd => rfl); (case hw => kernel_rfl); (case hr => intro w; exact run_sneq (m := []) rfl (by kernel_rfl) rfl KNB.out nil_bytes BF.out w); simp only [Act.put, List.setIfInBounds_toArray, List.set_cons_succ, List.set_cons_zero]))
      refine bodyPost_ret (v := .tuple #[.string (strOf P), .bool F]) (by simp [results, Tryd.results25, go_sem]) rfl ?_
      exact ⟨rfl, KPu.out.from q2⟩
end Go.Proofs.YtniogaimhkcedaaDoor.sh
/-
  Acts among the arguments; heavy; the reference's Name.
-/
namespace Go.Proofs.YtniogaimhkcedaaDoor.sh
open Go Go.ChangeShapes Go.WideShapes Go.ChangeAt Go.RowKit
set_option linter.unusedVariables false
set_option linter.unusedSimpArgs false

/-- An act's cells. -/
def actA (x : ActL) : Array Value := #[.int .u8 (x.kind : Int), .int .u8 (x.a : Int), .int .u8 (x.b : Int), .int .u64 (x.n : Int), .string (strOf x.s), .bool x.raw]
/-- Acts that a slice holds. -/
def ActsV (v : Value) (w : World) (l : List ActL) : Prop := ∃ p c, v = .slice p l.length c ∧ l.length ≤ c ∧ (l ≠ [] → ∃ A, p = some A ∧ A.block < w.heap.size ∧ ∀ (j : Nat) (x : ActL), l[j]? = some x → ∀ (f : Nat) (u : Value), (actA x)[f]? = some u → w.cell? (A.add (j * 6 + f)) = some u)
theorem ActsV.under {v : Value} {w w' : World} {l : List ActL} (h : ActsV v w l) (hb : Below w.heap.size w w') : ActsV v w' l := by
  obtain ⟨p, c, rfl, hlc, hp⟩ := h
  refine ⟨p, c, rfl, hlc, fun hne => ?_⟩
  obtain ⟨A, rfl, hA, hc⟩ := hp hne
  exact ⟨A, rfl, Nat.lt_of_lt_of_le hA hb.size, fun j x hx f u hu => (hb.cell (by rw [add_block]; exact hA)).trans (hc j x hx f u hu)⟩
section
variable {ops : Array Oper} {rest : List Oper} {o : Oper} {a : Act} {w : World} {Q : Exit → Act → World → Prop} {d : Nat}
end
theorem bigL_cons : ∀ (i n : Nat), bigL n (i + 1) = (n / 256 ^ i) % 256 :: bigL n i
  | 0, n => by simp [bigL]
  | i + 1, n => by
    have h := bigL_cons i (n / 256)
    rw [show bigL n (i + 1 + 1) = bigL (n / 256) (i + 1) ++ [n % 256] from rfl, h, show bigL n (i + 1) = bigL (n / 256) i ++ [n % 256] from rfl, Nat.div_div_eq_div_mul, Nat.mul_comm 256, ← Nat.pow_succ]
    rfl
def TERM24 : List Nat := [116, 101, 114, 109] ++ List.replicate 20 0
set_option maxRecDepth 100000 in
set_option maxHeartbeats 1000000 in
theorem rNameD {n : Nat} {w : World} (hn : n < 4611686018427387904) :
    Calls Tryd.prog 58 #[.int .i64 (n : Int)] w fun e w' => e = .returned (.string (strOf (termN n))) ∧ Below w.heap.size w w' := by
  obtain ⟨R, hR⟩ : ∃ R, R = termN n := ⟨_, rfl⟩
  rw [← hR]
  have KR : Kept (R = TERM24 ++ bigL n 8) := ⟨hR⟩
  clear hR
  go_enter Tryd.func58, Tryd.ntmps58
  go_wp2_with fail
  go_loopg [0, 3, 4] 8 (fun k s0 s3 s4 wr => ∃ (m i : Nat) (D : List Nat), s0 = .int .i64 (m : Int) ∧ s3 = .string (strOf D) ∧ s4 = .int .i64 (i : Int) ∧ i + k = 8 ∧ m < 4611686018427387904 ∧ Kept (m = n / 256 ^ i ∧ D = bigL n i) ∧ Below w.heap.size w wr)
  case atStart => exact ⟨n, 0, [], rfl, rfl, rfl, rfl, hn, ⟨by simp, rfl⟩, Below.refl _ _⟩
  case round =>
    rename World => wz
    obtain ⟨m, i, D, rfl, rfl, rfl, hik, hm, KD, HB⟩ := hrel
    by_cases hk0 : gk = 0
    · obtain rfl : i = 8 := by omega
      have hD : Kept (TERM24.length + D.length < 4611686018427387904) := ⟨by rw [KD.out.2, bigL_len]; decide⟩
      have KE : Kept (R = TERM24 ++ D) := ⟨by rw [KR.out, KD.out.2]⟩
      go_wp2_with (first | ((with_reducible refine wv_val (d := 19) ?hd ?hw (.string (strOf R)) ?hr ?_); (case hd => rfl); (case hw => kernel_rfl); (case hr => intro w; exact run_scat (l := TERM24) rfl (by kernel_rfl) (by kernel_rfl) hD.out KE.out w); simp only [Act.put, List.setIfInBounds_toArray, List.set_cons_succ, List.set_cons_zero]))
      go_ret
      exact ⟨rfl, HB⟩
    · have hi8 : (i : Int) < 8 := by omega
      obtain ⟨z, hz⟩ : ∃ z, z = m % 256 := ⟨_, rfl⟩
      obtain ⟨m2, hm2⟩ : ∃ m2, m2 = m / 256 := ⟨_, rfl⟩
      have KZ : Kept _ := ⟨hz⟩
      have K2 : Kept _ := ⟨hm2⟩
      have hz8 : z < 256 := by omega
      have hm2' : m2 < 4611686018427387904 := by omega
      have LD : [z].length + D.length < 4611686018427387904 := by rw [KD.out.2, bigL_len]; simp; omega
      have CE : Kept (z :: D = [z] ++ D) := ⟨rfl⟩
      have KD2 : Kept (m2 = n / 256 ^ (i + 1) ∧ z :: D = bigL n (i + 1)) := ⟨by
        obtain ⟨d1, d2⟩ := KD.out
        refine ⟨by rw [hm2, d1, Nat.div_div_eq_div_mul, ← Nat.pow_succ], ?_⟩
        rw [bigL_cons, ← d1, ← hz, d2]⟩
      have hb1 : Kept (z = z % 256) := ⟨by omega⟩
      clear hz hm2 KD
      go_wp2_with (first | ((with_reducible refine wv_val (d := 10) ?hd ?hw (.int .i64 (z : Int)) ?hr ?_); (case hd => rfl); (case hw => kernel_rfl); (case hr => intro w; exact run_rem256 rfl (by kernel_rfl) KZ.out w); simp only [Act.put, List.setIfInBounds_toArray, List.set_cons_succ, List.set_cons_zero]) | ((with_reducible refine wv_val (d := 11) ?hd ?hw (.int .u8 (z : Int)) ?hr ?_); (case hd => rfl); (case hw => kernel_rfl); (case hr => intro w; exact run_conv38 rfl (by kernel_rfl) hb1.out w); simp only [Act.put, List.setIfInBounds_toArray, List.set_cons_succ, List.set_cons_zero]) | ((with_reducible refine wv_valW (d := 13) ?hd ?hw (.string (strOf [z])) ?hr ?_); (case hd => rfl); (case hw => kernel_rfl); (case hr => exact run_str rfl (by kernel_rfl) (one_bytes z wz)); simp only [Act.put, List.setIfInBounds_toArray, List.set_cons_succ, List.set_cons_zero]) | ((with_reducible refine wv_val (d := 15) ?hd ?hw (.string (strOf (z :: D))) ?hr ?_); (case hd => rfl); (case hw => kernel_rfl); (case hr => intro w; exact run_scat rfl (by kernel_rfl) (by kernel_rfl) LD CE.out w); simp only [Act.put, List.setIfInBounds_toArray, List.set_cons_succ, List.set_cons_zero]) | ((with_reducible refine wv_val (d := 17) ?hd ?hw (.int .i64 (m2 : Int)) ?hr ?_); (case hd => rfl); (case hw => kernel_rfl); (case hr => intro w; exact run_quo256 rfl (by kernel_rfl) K2.out hm w); simp only [Act.put, List.setIfInBounds_toArray, List.set_cons_succ, List.set_cons_zero]))
      go_roundg (gk - 1)
      case measure => omega
      case rel => exact ⟨m2, i + 1, z :: D, rfl, rfl, by simp, by omega, hm2', KD2, HB.trans (((Below.refl _ _).alloc (Nat.le_refl _) _).mono HB.size)⟩

theorem run_gtrK {o : Oper} {a : Act} {x : Operand} {m : Int} {b : Bool} (c : Int) (ho : o.op = .binOp .gtr 3 x (.const (.int .i64 c)) 3) (hx : a.eval x = .int .i64 m) (hb : b = decide (c < m)) (w : World) : (execOp a.eval o).run Tryd.prog w = .ok (.value (.bool b)) w := by
  have e3 : a.eval (.const (.int .i64 c)) = .int .i64 c := rfl
  unfold execOp
  simp only [ho, hx, e3]
  rw [hb]
  simp [go_sem]
end Go.Proofs.YtniogaimhkcedaaDoor.sh
/-
  What the document fixes of tables: alive of law 9.
-/
namespace Go.Proofs.YtniogaimhkcedaaDoor.sh
open Go Go.RowKit
set_option linter.unusedVariables false
set_option linter.unusedSimpArgs false

theorem AtomE {tb B : Nat} {ts us : List TermL} {N s : List Nat} {M : Nat → Prop} {S : ByteArray} {w : World} (hT : Tab tb B ts M w) (hs : Bytes s) (hl : s.length ≤ maxLen) (hn : ts.length < 1000000) (hp : putL ts (1, [s]) = (us, N)) (hS : S = strOf s) :
    Calls Tryd.prog 21 #[.pointer (some ⟨tb, 0, none⟩), .string S] w fun e w' => e = .returned (.string (strOf N)) ∧ Puts tb B ts M w us w' := by
  have h := AtomD hT hs hl hn
  rw [hp] at h
  rw [hS]
  exact h

theorem PubE {tb B : Nat} {ts us : List TermL} {N s : List Nat} {M : Nat → Prop} {S : ByteArray} {w : World} (hT : Tab tb B ts M w) (hs : Bytes s) (hl : s.length ≤ maxLen) (hn : ts.length < 1000000) (hp : putL ts (2, [s]) = (us, N)) (hS : S = strOf s) :
    Calls Tryd.prog 24 #[.pointer (some ⟨tb, 0, none⟩), .string S] w fun e w' => e = .returned (.string (strOf N)) ∧ Puts tb B ts M w us w' := by
  have h := PubD hT hs hl hn
  rw [hp] at h
  rw [hS]
  exact h

theorem DhE {tb B : Nat} {ts us : List TermL} {N a b : List Nat} {F : Bool} {M : Nat → Prop} {w : World} (hT : Tab tb B ts M w) (ha : Bytes a) (hb : Bytes b) (hal : a.length ≤ maxLen) (hbl : b.length ≤ maxLen) (hn : ts.length < 1000000) (hd : dhL ts a b = (us, N, F)) :
    Calls Tryd.prog 25 #[.pointer (some ⟨tb, 0, none⟩), .string (strOf a), .string (strOf b)] w fun e w' => e = .returned (.tuple #[.string (strOf N), .bool F]) ∧ Puts tb B ts M w us w' := by
  have h := DhD hT ha hb hal hbl hn
  rw [hd] at h
  exact h
theorem PartsE {tb B : Nat} {ts : List TermL} {k : Nat} {ll : List (List Nat)} {s : List Nat} {M : Nat → Prop} {w : World} (hT : Tab tb B ts M w) (hs : Bytes s) (hl : s.length ≤ maxLen) (hn : ts.length < 1000000) (hx : partX ts s = some (k, ll)) :
    Calls Tryd.prog 27 #[.pointer (some ⟨tb, 0, none⟩), .string (strOf s)] w fun e w' => (∃ V, e = .returned (.tuple #[.int .u8 (k : Int), V, .bool true]) ∧ VRow w.heap.size 9 (strs ll) V w') ∧ Below w.heap.size w w' := by
  have h := PartsD hT hs hl hn
  rw [hx] at h
  exact h
theorem Tab.apart {tb B : Nat} {ts : List TermL} {M : Nat → Prop} {w : World} (h : Tab tb B ts M w) {base : Nat} {e : TypeId} {vs : List Value} {v : Value} {w' : World} (hr : VRow base e vs v w') (hb : w.heap.size ≤ base) : ∀ b, blkOf v = some b → ¬ M b := fun b hb2 hM => by
  have := (hr.range b hb2).1
  have := (h.range hM).2
  omega
def T1 : List TermL := [(1, [[97]])]
def T2 : List TermL := [(1, [[97]]), (1, [[98]])]
theorem termN_max (n : Nat) : (termN n).length ≤ maxLen := by rw [termN_len]; decide
end Go.Proofs.YtniogaimhkcedaaDoor.sh
/-
  TermNobody.
-/
namespace Go.Proofs.YtniogaimhkcedaaDoor.sh
open Go Go.RowKit
set_option linter.unusedVariables false
set_option linter.unusedSimpArgs false

end Go.Proofs.YtniogaimhkcedaaDoor.sh
/-
  What an act picks: made$1; calls of a closure.
-/
namespace Go.Proofs.YtniogaimhkcedaaDoor.sh
open Go Go.RowKit
set_option linter.unusedVariables false
set_option linter.unusedSimpArgs false

section
variable {P : Program} {ops : Array Oper} {Q : Exit → Act → World → Prop} {a : Act} {w : World} {rest : List Oper} {o : Oper}
end
section
variable {P : Program} {h : List Oper} {A0 A : Act} {W0 : World} {S : Nat → Option (Value → World → Prop)} {sp O : List Nat} {E : List (Nat × Nat)} {i : Nat} {o : Oper}
end
end Go.Proofs.YtniogaimhkcedaaDoor.sh
/-
  Regions that draw their order, whose last operations come in more than one order too: behind the head they are walked order by order.
-/
namespace Go.Proofs.YtniogaimhkcedaaDoor
open Go Go.RowKit
set_option linter.unusedVariables false
set_option linter.unusedSimpArgs false
section
variable {P : Program} {Q : Exit → Act → World → Prop} {h t : List Oper}
end
end Go.Proofs.YtniogaimhkcedaaDoor
namespace Go.Proofs.YtniogaimhkcedaaDoor.sh
open Go Go.RowKit
set_option linter.unusedVariables false
set_option linter.unusedSimpArgs false
end Go.Proofs.YtniogaimhkcedaaDoor.sh
/-
  What an act makes of a table.
-/
namespace Go.Proofs.YtniogaimhkcedaaDoor.sh
open Go Go.RowKit
set_option linter.unusedVariables false
set_option linter.unusedSimpArgs false

theorem run_remU5 {o : Oper} {a : Act} {x : Operand} {m z : Nat} (ho : o.op = .binOp .rem 5 x (.const (.int .u8 5)) 5) (hx : a.eval x = .int .u8 (m : Int)) (hz : z = m % 5) (w : World) : (execOp a.eval o).run Tryd.prog w = .ok (.value (.int .u8 (z : Int))) w := by
  have e3 : a.eval (.const (.int .u8 5)) = .int .u8 5 := rfl
  have h3 : (m : Int).tmod 5 = (z : Int) := by rw [Int.tmod_eq_emod_of_nonneg (by omega)]; omega
  have h4 : (z : Int) % 256 = (z : Int) := by omega
  unfold execOp
  simp only [ho, hx, e3]
  simp [go_sem, IntKind.wrap_u8', h3, h4]
section
variable {h : List Oper} {A0 A : Act} {W0 : World} {S : Nat → Option (Value → World → Prop)} {sp O : List Nat} {E : List (Nat × Nat)} {i : Nat} {o : Oper}
end
theorem HashE {tb B : Nat} {ts us : List TermL} {N : List Nat} {M : Nat → Prop} {ll : List (List Nat)} {V : Value} {w : World} (hT : Tab tb B ts M w) (hy : ∀ l ∈ ll, Bytes l) (hV : ValsV V w (strs ll)) (hl : ∀ l ∈ ll, l.length ≤ maxLen) (hn : ts.length < 1000000) (hp : putL ts (4, ll) = (us, N)) :
    Calls Tryd.prog 18 #[.pointer (some ⟨tb, 0, none⟩), V] w fun e w' => e = .returned (.string (strOf N)) ∧ Puts tb B ts M w us w' := by
  have h := HashD hT hy hV hl hn
  rw [hp] at h
  exact h
theorem SealE {tb B n : Nat} {ts us : List TermL} {N : List Nat} {M : Nat → Prop} {k a t : List Nat} {w : World} (hT : Tab tb B ts M w) (hn64 : n < 18446744073709551616) (hk : Bytes k) (ha : Bytes a) (ht : Bytes t) (hkl : k.length ≤ maxLen) (hal : a.length ≤ maxLen) (htl : t.length ≤ maxLen) (hn : ts.length < 1000000) (hp : putL ts (5, [k, numL n, a, t]) = (us, N)) :
    Calls Tryd.prog 19 #[.pointer (some ⟨tb, 0, none⟩), .string (strOf k), .int .u64 (n : Int), .string (strOf a), .string (strOf t)] w fun e w' => e = .returned (.string (strOf N)) ∧ Puts tb B ts M w us w' := by
  have h := SealD hT hn64 hk ha ht hkl hal htl hn
  rw [hp] at h
  exact h
end Go.Proofs.YtniogaimhkcedaaDoor.sh
/-
  The reference's Find; slices of terms made; TermRefused.
-/
namespace Go.Proofs.YtniogaimhkcedaaDoor.sh
open Go Go.RowKit
set_option linter.unusedVariables false
set_option linter.unusedSimpArgs false

set_option maxRecDepth 100000 in
set_option maxHeartbeats 1000000 in
theorem rFindD {p : Option Addr} {n c : Nat} {s : List Nat} {w : World} (hs : Bytes s) (hn : n < 1000000) :
    Calls Tryd.prog 40 #[.slice p n c, .string (strOf s)] w fun e w' => e = .returned (.int .i64 (findN n s : Int)) ∧ Below w.heap.size w w' := by
  obtain ⟨R, hR⟩ : ∃ R, R = findN n s := ⟨_, rfl⟩
  rw [← hR]
  have KR : Kept _ := ⟨hR⟩
  have KS : Kept _ := ⟨hs⟩
  clear hR hs
  go_enter Tryd.func40, Tryd.ntmps40
  go_wp2_with fail
  go_loopg [5] n (fun k s5 wr => ∃ i : Nat, i + k = n + 1 ∧ s5 = .int .i64 (i : Int) ∧ 1 ≤ i ∧ Kept (∀ j, 0 < j → j < i → termN j ≠ s) ∧ Below w.heap.size w wr)
  case atStart => exact ⟨1, by omega, rfl, Nat.le_refl _, ⟨fun j h1 h2 => by omega⟩, Below.refl _ _⟩
  case round =>
    rename World => wz
    obtain ⟨i, hik, rfl, h1, KJ, hb⟩ := hrel
    by_cases hk0 : gk = 0
    · have hin : ¬ (i : Int) ≤ (n : Int) := by omega
      have K0 : Kept (R = 0) := ⟨by rw [KR.out]; exact findN_none fun j h2 h3 => KJ.out j h2 (by omega)⟩
      go_wp2_with fail
      go_ret
      exact ⟨by rw [K0.out]; rfl, hb⟩
    · have hin : (i : Int) ≤ (n : Int) := by omega
      have hi1 : (i : Int) + 1 ≤ 9223372036854775807 := by omega
      have CN := rNameD (n := i) (w := wz) (by omega)
      have YN := termN_bytes i
      by_cases he : termN i = s
      · have KF : Kept (R = i) := ⟨by rw [KR.out, ← he]; exact findN_at n i (by omega) h1 (by omega)⟩
        rw [he] at CN
        have KC : Kept _ := ⟨CN⟩
        have D1 : Kept (true = decide (s = s)) := ⟨(decide_eq_true rfl).symm⟩
        clear he CN YN
        go_wp2_with fail
        refine KC.out.mono ?_
        rintro e w2 ⟨rfl, b2⟩
        go_wp2_with (first | ((with_reducible refine wv_val (d := 15) ?hd ?hw (.bool true) ?hr ?_); (case hd => rfl); (case hw => kernel_rfl); (case hr => intro w; exact run_seq rfl (by kernel_rfl) (by kernel_rfl) KS.out KS.out D1.out w); simp only [Act.put, List.setIfInBounds_toArray, List.set_cons_succ, List.set_cons_zero]))
        go_ret
        exact ⟨by rw [KF.out]; rfl, hb.trans (b2.mono hb.size)⟩
      · have KJ2 : Kept (∀ j, 0 < j → j < i + 1 → termN j ≠ s) := ⟨fun j h2 h3 => by
          by_cases hj : j = i
          · subst hj; exact he
          · exact KJ.out j h2 (by omega)⟩
        obtain ⟨N, hN⟩ : ∃ N, N = termN i := ⟨_, rfl⟩
        rw [← hN] at CN YN he
        have KC : Kept _ := ⟨CN⟩
        have KY : Kept _ := ⟨YN⟩
        have D1 : Kept (false = decide (N = s)) := ⟨(decide_eq_false he).symm⟩
        clear he CN YN hN
        go_wp2_with fail
        refine KC.out.mono ?_
        rintro e w2 ⟨rfl, b2⟩
        go_wp2_with (first | ((with_reducible refine wv_val (d := 15) ?hd ?hw (.bool false) ?hr ?_); (case hd => rfl); (case hw => kernel_rfl); (case hr => intro w; exact run_seq rfl (by kernel_rfl) (by kernel_rfl) KY.out KS.out D1.out w); simp only [Act.put, List.setIfInBounds_toArray, List.set_cons_succ, List.set_cons_zero]))
        go_roundg (gk - 1)
        case measure => omega
        case rel => exact ⟨i + 1, by omega, by simp, by omega, KJ2, hb.trans (b2.mono hb.size)⟩

theorem info_term : (Tryd.prog.info? 41).map (fun i => (i.zero, i.size, i.bytes)) = some (some (.agg #[.int .u8 0, .slice none 0 0]), 2, 32) := by kernel_rfl
theorem wl_mkZ {ops : Array Oper} {rest : List Oper} {o : Oper} {a : Act} {w : World} {Q : Exit → Act → World → Prop} (hgd : o.guard = none) (c : Nat) (Z : List Nat) (hZ : Z = List.replicate c 0) (ho : o.op = .makeSlice 23 (.const (.int .i64 (c : Int))) (.const (.int .i64 (c : Int)))) (hc : c < 1000000)
    (h : wpList Tryd.prog ops Q rest (a.put o.dst (.slice (some ⟨w.heap.size, 0, none⟩) c c)) (w.alloc (.cells (ints .u8 Z) 5))) : wpList Tryd.prog ops Q (o :: rest) a w :=
  wl_make hgd _ ho .i64 c rfl hc (by rw [← hZ]; exact h)
theorem z_bytes (c : Nat) (Z : List Nat) (hZ : Z.length = c) (w : World) : IntsV .u8 (.slice (some ⟨w.heap.size, 0, none⟩) c c) (w.alloc (.cells (ints .u8 Z) 5)) Z := arr_bytes (t := 5) (l := Z) (blk_new w _ _) hZ
theorem SealF {tb B n : Nat} {ts us : List TermL} {N : List Nat} {M : Nat → Prop} {k a t : List Nat} {K A T : ByteArray} {w : World} (hT : Tab tb B ts M w) (hn64 : n < 18446744073709551616) (hk : Bytes k) (ha : Bytes a) (ht : Bytes t) (hkl : k.length ≤ maxLen) (hal : a.length ≤ maxLen) (htl : t.length ≤ maxLen) (hn : ts.length < 1000000) (hp : putL ts (5, [k, numL n, a, t]) = (us, N)) (hK : K = strOf k) (hA : A = strOf a) (hTT : T = strOf t) :
    Calls Tryd.prog 19 #[.pointer (some ⟨tb, 0, none⟩), .string K, .int .u64 (n : Int), .string A, .string T] w fun e w' => e = .returned (.string (strOf N)) ∧ Puts tb B ts M w us w' := by
  subst hK hA hTT
  exact SealE hT hn64 hk ha ht hkl hal htl hn hp
end Go.Proofs.YtniogaimhkcedaaDoor.sh
/-
  TermOrder.
-/
namespace Go.Proofs.YtniogaimhkcedaaDoor.sh
open Go Go.RowKit
set_option linter.unusedVariables false
set_option linter.unusedSimpArgs false

theorem ValsV.take {p : Option Addr} {n c k : Nat} {w : World} {vs : List Value} (h : ValsV (.slice p n c) w vs) (hk : k ≤ vs.length) : ValsV (.slice p k c) w (vs.take k) := by
  obtain ⟨p', c', e1, h2, h3⟩ := h
  cases e1
  have hl : (vs.take k).length = k := by rw [List.length_take]; omega
  refine ⟨p, c, by rw [hl], by omega, fun hne => ?_⟩
  obtain ⟨A, rfl, hA, hc⟩ := h3 (fun e => hne (by rw [e]; simp))
  refine ⟨A, rfl, hA, fun j x hx => hc j x ?_⟩
  have hj : j < k := by
    have := (List.getElem?_eq_some_iff.1 hx).1
    omega
  rwa [List.getElem?_take_of_lt hj] at hx
end Go.Proofs.YtniogaimhkcedaaDoor.sh
/-
  TermBoth.
-/
namespace Go.Proofs.YtniogaimhkcedaaDoor.sh
open Go Go.RowKit
set_option linter.unusedVariables false
set_option linter.unusedSimpArgs false

end Go.Proofs.YtniogaimhkcedaaDoor.sh
/-
  TermSame.
-/
namespace Go.Proofs.YtniogaimhkcedaaDoor.sh
open Go Go.RowKit
set_option linter.unusedVariables false
set_option linter.unusedSimpArgs false

theorem partX_name {ts : List TermL} {i : Nat} (hi : i < ts.length) (hN : ts.length < 1000000) : partX ts (termN (i + 1)) = ts[i]? := by
  have h := noL_name (n := i + 1) (by omega)
  rw [partX_some (termN_bytes _) hN (by rw [h]; omega) (by rw [h]; omega), h, Nat.add_sub_cancel]
/-- What a name is made again of: by the kind. -/
def again (k : Nat) (ll : List (List Nat)) : Prop := (k = 1 ∧ ∃ s, ll = [s]) ∨ (k = 2 ∧ ∃ s, ll = [s]) ∨ k = 3 ∨ k = 4 ∨ k = 5
end Go.Proofs.YtniogaimhkcedaaDoor.sh
/-
  The reference's lists of terms in memory; appended to; what is picked of them.
-/
namespace Go.Proofs.YtniogaimhkcedaaDoor.sh
open Go Go.RowKit
set_option linter.unusedVariables false
set_option linter.unusedSimpArgs false

/-- The cells of terms: a kind, a slice of parts. -/
def tcells : List TermL → List Value → List Value
  | t :: ts, V :: Vs => .int .u8 (t.1 : Int) :: V :: tcells ts Vs
  | _, _ => []
theorem tcells_len : ∀ {ts : List TermL} {Vs : List Value}, Vs.length = ts.length → (tcells ts Vs).length = ts.length * 2
  | [], [], _ => rfl
  | [], _ :: _, h => by cases h
  | _ :: _, [], h => by cases h
  | t :: ts, V :: Vs, h => by
    have := tcells_len (ts := ts) (Vs := Vs) (by simpa using h)
    simp only [tcells, List.length_cons, this]
    omega
theorem tcells_append : ∀ {ts : List TermL} {Vs : List Value} (t : TermL) (V : Value), Vs.length = ts.length → tcells (ts ++ [t]) (Vs ++ [V]) = tcells ts Vs ++ [.int .u8 (t.1 : Int), V]
  | [], [], _, _, _ => rfl
  | [], _ :: _, _, _, h => by cases h
  | _ :: _, [], _, _, h => by cases h
  | u :: ts, U :: Vs, t, V, h => by
    have := tcells_append (ts := ts) (Vs := Vs) t V (by simpa using h)
    simp only [List.cons_append, tcells, this]
theorem tcells_get : ∀ {ts : List TermL} {Vs : List Value} {i : Nat} {t : TermL} {V : Value}, ts[i]? = some t → Vs[i]? = some V → (tcells ts Vs)[i * 2]? = some (.int .u8 (t.1 : Int)) ∧ (tcells ts Vs)[i * 2 + 1]? = some V
  | [], _, _, _, _, h, _ => by simp at h
  | _ :: _, [], _, _, _, _, h => by simp at h
  | u :: ts, U :: Vs, 0, t, V, h, h2 => by
    simp at h h2
    subst h h2
    exact ⟨rfl, rfl⟩
  | u :: ts, U :: Vs, i + 1, t, V, h, h2 => by
    simp at h h2
    obtain ⟨h3, h4⟩ := tcells_get (ts := ts) (Vs := Vs) h h2
    rw [show (i + 1) * 2 = i * 2 + 2 by omega]
    exact ⟨h3, h4⟩
/-- Terms that a slice of the reference holds, all in blocks of D. -/
def TsV (D : Nat → Prop) (v : Value) (w : World) (ts : List TermL) : Prop := ∃ (Vs : List Value) (p : Option Addr) (c : Nat), Vs.length = ts.length ∧ v = .slice p ts.length c ∧ ts.length ≤ c ∧
  (ts ≠ [] → ∃ A, p = some A ∧ A.block < w.heap.size ∧ D A.block ∧ ∀ (j : Nat) (x : Value), (tcells ts Vs)[j]? = some x → w.cell? (A.add j) = some x) ∧
  ∀ (j : Nat) (t : TermL) (V : Value), ts[j]? = some t → Vs[j]? = some V → ValsV V w (strs t.2) ∧ ∀ b, blkOf V = some b → D b
theorem ts_nil (D : Nat → Prop) (w : World) : TsV D (.slice none 0 0) w [] := ⟨[], none, 0, rfl, rfl, Nat.le_refl _, fun h => absurd rfl h, fun j t V h => by simp at h⟩
theorem ts_form {D : Nat → Prop} {v : Value} {w : World} {ts : List TermL} {n : Nat} (h : TsV D v w ts) (hn : ts.length = n) : ∃ p c, v = .slice p n c ∧ n ≤ c := by
  obtain ⟨Vs, p, c, _, rfl, h2, _⟩ := h
  exact ⟨p, c, by rw [hn], by omega⟩
theorem TsV.under {D : Nat → Prop} {v : Value} {w w' : World} {ts : List TermL} (h : TsV D v w ts) (hb : Below w.heap.size w w') : TsV D v w' ts := by
  obtain ⟨Vs, p, c, h1, h2, h3, h4, h5⟩ := h
  refine ⟨Vs, p, c, h1, h2, h3, fun hne => ?_, fun j t V ht hV => ⟨(h5 j t V ht hV).1.under hb, (h5 j t V ht hV).2⟩⟩
  obtain ⟨A, e1, e2, e3, e4⟩ := h4 hne
  exact ⟨A, e1, Nat.lt_of_lt_of_le e2 hb.size, e3, fun j x hx => (hb.cell (by rw [add_block]; exact e2)).trans (e4 j x hx)⟩
theorem TsV.turn {D : Nat → Prop} {v : Value} {w w' : World} {ts : List TermL} {M M' : Nat → Prop} (h : TsV D v w ts) (ht : Turn M w M' w') (hD : ∀ b, D b → ¬ M b) : TsV D v w' ts := by
  obtain ⟨Vs, p, c, h1, h2, h3, h4, h5⟩ := h
  refine ⟨Vs, p, c, h1, h2, h3, fun hne => ?_, fun j t V ht' hV => ⟨ht.vals (h5 j t V ht' hV).1 (fun b hb => hD b ((h5 j t V ht' hV).2 b hb)), (h5 j t V ht' hV).2⟩⟩
  obtain ⟨A, e1, e2, e3, e4⟩ := h4 hne
  exact ⟨A, e1, Nat.lt_of_lt_of_le e2 ht.size, e3, fun j x hx => (World.cell?_of_block (by rw [add_block]; exact ht.1.block _ e2 (hD _ e3))).trans (e4 j x hx)⟩
theorem TsV.mono {D D' : Nat → Prop} {v : Value} {w : World} {ts : List TermL} (h : TsV D v w ts) (hD : ∀ b, D b → D' b) : TsV D' v w ts := by
  obtain ⟨Vs, p, c, h1, h2, h3, h4, h5⟩ := h
  refine ⟨Vs, p, c, h1, h2, h3, fun hne => ?_, fun j t V ht hV => ⟨(h5 j t V ht hV).1, fun b hb => hD b ((h5 j t V ht hV).2 b hb)⟩⟩
  obtain ⟨A, e1, e2, e3, e4⟩ := h4 hne
  exact ⟨A, e1, e2, hD _ e3, e4⟩
theorem ts_at {D : Nat → Prop} {p : Option Addr} {n c : Nat} {w : World} {ts : List TermL} {i k : Nat} {ll : List (List Nat)} (h : TsV D (.slice p n c) w ts) (ht : ts[i]? = some (k, ll)) : ∃ A V, p = some A ∧ A.block < w.heap.size ∧ w.cell? (A.add (i * 2)) = some (.int .u8 (k : Int)) ∧ w.cell? ((A.add (i * 2)).add 1) = some V ∧ ValsV V w (strs ll) := by
  obtain ⟨Vs, p', c', h1, h2, h3, h4, h5⟩ := h
  cases h2
  obtain ⟨A, rfl, e2, e3, e4⟩ := h4 (by intro e; rw [e] at ht; simp at ht)
  obtain ⟨V, hV⟩ : ∃ V, Vs[i]? = some V := ⟨_, List.getElem?_eq_getElem (by rw [h1]; exact (List.getElem?_eq_some_iff.1 ht).1)⟩
  obtain ⟨g1, g2⟩ := tcells_get ht hV
  exact ⟨A, V, rfl, e2, e4 _ _ g1, by rw [add_add]; exact e4 _ _ g2, (h5 i _ V ht hV).1⟩

theorem run_idxT {o : Oper} {a : Act} {x y : Operand} {i l c : Nat} {A : Addr} (ho : o.op = .indexAddr 26 x y) (hx : a.eval x = .slice (some A) l c) (hy : a.eval y = .int .i64 (i : Int)) (hi : i < l) (w : World) : (execOp a.eval o).run Tryd.prog w = .ok (.value (.pointer (some (A.add (i * 2))))) w := by
  have h1 : ((i : Int) < (l : Int)) := by omega
  have hs : ∀ w, (sizeOf 41).run Tryd.prog w = .ok 2 w := fun w => by kernel_rfl
  unfold execOp
  simp only [ho, hx, hy, Instr.indexAt]
  simp [asIntOf, run_underlying Tryd.underlying26, h1, hs, go_sem]
  intro h
  omega
theorem run_fldT0 {o : Oper} {a : Act} {x : Operand} {A : Addr} (ho : o.op = .fieldAddr 41 x 0) (hx : a.eval x = .pointer (some A)) (w : World) : (execOp a.eval o).run Tryd.prog w = .ok (.value (.pointer (some A))) w := by
  unfold execOp
  simp only [ho, hx]
  simp [go_sem, Instr.fieldAt, run_underlying Tryd.underlying41, Addr.add]
theorem run_fldT1 {o : Oper} {a : Act} {x : Operand} {A : Addr} (ho : o.op = .fieldAddr 41 x 1) (hx : a.eval x = .pointer (some A)) (w : World) : (execOp a.eval o).run Tryd.prog w = .ok (.value (.pointer (some (A.add 1)))) w := by
  unfold execOp
  simp only [ho, hx]
  simp [go_sem, Instr.fieldAt, run_underlying Tryd.underlying41]

theorem rowT_blk {base : Nat} {e : TypeId} {s n : Nat} {v : Value} {xs : List Value} {w : World} (h : w.ownsRow base e s v n xs) : v.ownBlock = blkOf v := by
  rcases h.2 with ⟨rfl, _⟩ | ⟨g, cap, cur, rfl, _⟩ <;> rfl
theorem appT_run {ty : TypeId} {base n m c : Nat} {l ms : List Value} {v : Value} {p : Option Addr} {w : World} (hown : w.ownsRow base 41 2 v n l) (hml : ms.length = m * 2) (hx : m ≠ 0 → ∃ A, p = some A ∧ ∀ (j : Nat) (x : Value), ms[j]? = some x → w.cell? (A.add j) = some x) (h1 : ∀ x ∈ ms, x.oneCell' = true) (hn : n + m ≤ 1000001) (hbase : base ≤ w.heap.size) :
    ∃ v' w', (Builtin.append_ #[26, 26] ty #[v, .slice p m c]).run Tryd.prog w = .ok v' w' ∧ w'.ownsRow base 41 2 v' (n + m) (l ++ ms) ∧ w.grownBy w' (blkOf v) ∧ (blkOf v' = blkOf v ∨ blkOf v' = some w.heap.size) := by
  have hi := info_term
  cases hq : Tryd.prog.info? 41 with
  | none => rw [hq] at hi; cases hi
  | some i0 =>
  rw [hq] at hi
  simp only [Option.map_some, Option.some.injEq, Prod.mk.injEq] at hi
  obtain ⟨hz0, hz1, hz2⟩ := hi
  have hbl := rowT_blk hown
  cases p with
  | none =>
    have hm0 : m = 0 := by
      rcases Nat.eq_zero_or_pos m with h | h
      · exact h
      · obtain ⟨A, e, _⟩ := hx (by omega); cases e
    subst hm0
    have hms : ms = [] := List.eq_nil_of_length_eq_zero (by omega)
    subst hms
    refine ⟨v, w, ?_, by rw [List.append_nil]; exact hown, ⟨rfl, rfl, rfl, Nat.le_refl _, fun _ _ _ => rfl⟩, .inl rfl⟩
    rcases hown.2 with ⟨rfl, h0⟩ | ⟨g, cap, cur, rfl, _, _, hnc, _⟩
    · simp [Builtin.append_, run_underlying Tryd.underlying26, sizeOf, typeInfo, hq, Builtin.lenOf, Builtin.firstCells, h0]
    · simp [Builtin.append_, run_underlying Tryd.underlying26, sizeOf, typeInfo, hq, Builtin.lenOf, Builtin.firstCells, hnc, storeCells]
  | some A =>
    obtain ⟨v', w', h4, h5, h6, _, h8⟩ := run_append_own_at (P := Tryd.prog) (w := w) base 26 ty 41 i0 (.agg #[.int .u8 0, .slice none 0 0]) 2 32 Tryd.underlying26 hq hz0 hz1 hz2 rfl (by decide) v n l hown A m c ms hml (by
      intro j y hj
      by_cases h0 : m = 0
      · subst h0
        rw [List.eq_nil_of_length_eq_zero (show ms.length = 0 by omega)] at hj
        simp at hj
      · obtain ⟨A', e1, e3⟩ := hx h0
        cases e1
        exact e3 j y hj) h1 (by unfold maxLen; omega) (by omega) hbase
    have hb2 := rowT_blk h5
    rw [hb2, hbl] at h8
    exact ⟨v', w', h4, h5, by rw [← hbl]; exact h6, h8⟩
/-- 'append' of terms in a plain region. -/
theorem wl_appT {ops : Array Oper} {rest : List Oper} {o : Oper} {a : Act} {w : World} {Q : Exit → Act → World → Prop} (hgd : o.guard = none) (s x : Operand) (ho : o.op = .call { callee := .builtin .append, args := #[s, x], argTypes := #[26, 26] }) (base n m c : Nat) (l ms : List Value) (v : Value) (p : Option Addr) (hs : a.eval s = v) (hxv : a.eval x = .slice p m c)
    (hown : w.ownsRow base 41 2 v n l) (hml : ms.length = m * 2) (hx : m ≠ 0 → ∃ A, p = some A ∧ ∀ (j : Nat) (x : Value), ms[j]? = some x → w.cell? (A.add j) = some x) (h1 : ∀ x ∈ ms, x.oneCell' = true) (hn : n + m ≤ 1000001) (hbase : base ≤ w.heap.size)
    (hk : ∀ v' w', w'.ownsRow base 41 2 v' (n + m) (l ++ ms) → w.grownBy w' (blkOf v) → (blkOf v' = blkOf v ∨ blkOf v' = some w.heap.size) → wpList Tryd.prog ops Q rest (a.put o.dst v') w') : wpList Tryd.prog ops Q (o :: rest) a w :=
  wpList_plain hgd fun K hK => by
    obtain ⟨v', w', h4, h5, h6, h7⟩ := appT_run (ty := o.type) (c := c) hown hml hx h1 hn hbase
    unfold Oper.wp execOp
    simp only [ho, resolve, invoke, builtin, Sem.run_bind, Sem.run_pure, Result.andThen_ok, List.map_toArray, List.map_cons, List.map_nil, hs, hxv, h4]
    exact hK _ _ (hk v' w' h5 h6 h7)
theorem run_bsT (k : Nat) (p : Option Addr) (m c : Nat) (w : World) : (Instr.buildSlice 26 1 #[(0, .agg #[.int .u8 (k : Int), .slice p m c])]).run Tryd.prog w = .ok (.slice (some ⟨w.heap.size, 0, none⟩) 1 1) (w.alloc (.cells #[.int .u8 (k : Int), .slice p m c] 41)) := by kernel_rfl
theorem wl_bsT {ops : Array Oper} {rest : List Oper} {o : Oper} {a : Act} {w : World} {Q : Exit → Act → World → Prop} (hgd : o.guard = none) (x : Operand) (ho : o.op = .buildSlice 26 1 #[(0, x)]) (k : Nat) (p : Option Addr) (m c : Nat) (hx : a.eval x = .agg #[.int .u8 (k : Int), .slice p m c])
    (h : wpList Tryd.prog ops Q rest (a.put o.dst (.slice (some ⟨w.heap.size, 0, none⟩) 1 1)) (w.alloc (.cells #[.int .u8 (k : Int), .slice p m c] 41))) : wpList Tryd.prog ops Q (o :: rest) a w :=
  wpList_plain hgd fun K hK => by
    have hrun : (execOp a.eval o).run Tryd.prog w = .ok (.value (.slice (some ⟨w.heap.size, 0, none⟩) 1 1)) (w.alloc (.cells #[.int .u8 (k : Int), .slice p m c] 41)) := by
      unfold execOp
      simp only [ho]
      simp [hx, run_bsT]
    unfold Oper.wp
    rw [hrun]
    exact hK _ _ h

end Go.Proofs.YtniogaimhkcedaaDoor.sh
/-
  The reference's Put.
-/
namespace Go.Proofs.YtniogaimhkcedaaDoor.sh
open Go Go.RowKit
set_option linter.unusedVariables false
set_option linter.unusedSimpArgs false

theorem run_buildT {o : Oper} {a : Act} {x y : Operand} {k m c : Nat} {p : Option Addr} (ho : o.op = .build 41 #[(0, x), (1, y)]) (hx : a.eval x = .int .u8 (k : Int)) (hy : a.eval y = .slice p m c) (w : World) : (execOp a.eval o).run Tryd.prog w = .ok (.value (.agg #[.int .u8 (k : Int), .slice p m c])) w := by
  have hb : (Instr.build 41 #[(0, .int .u8 (k : Int)), (1, .slice p m c)]).run Tryd.prog w = .ok (.agg #[.int .u8 (k : Int), .slice p m c]) w := by kernel_rfl
  unfold execOp
  simp only [ho]
  simp [hx, hy, hb]
theorem infoT2 : (Tryd.prog.info? 41).map (·.size) = some 2 := by kernel_rfl
theorem ts_row {D : Nat → Prop} {base : Nat} {v : Value} {w : World} {us : List TermL} {Vs : List Value} (hl : Vs.length = us.length) (hr : w.ownsRow base 41 2 v us.length (tcells us Vs)) (hV : ∀ (j : Nat) (t : TermL) (V : Value), us[j]? = some t → Vs[j]? = some V → ValsV V w (strs t.2) ∧ ∀ b, blkOf V = some b → D b) (hD : ∀ b, base ≤ b → b < w.heap.size → D b) : TsV D v w us := by
  rcases hr.2 with ⟨rfl, h0⟩ | ⟨g, cap, cur, rfl, hb, hg, hn, hm, hs, ht⟩
  · have : us = [] := List.eq_nil_of_length_eq_zero h0
    subst this
    exact ts_nil D w
  · have hlt : g < w.heap.size := (Array.getElem?_eq_some_iff.1 hg).1
    refine ⟨Vs, _, cap, hl, rfl, hn, fun _ => ⟨_, rfl, hlt, hD g hb hlt, fun j x hx => ?_⟩, hV⟩
    rw [addr_add, Nat.zero_add]
    refine cell_row hg ?_
    have hj := (List.getElem?_eq_some_iff.1 hx).1
    rw [tcells_len hl] at hj
    have h3 : (cur.toList.take (us.length * 2))[j]? = (tcells us Vs)[j]? := by rw [ht]
    rw [List.getElem?_take_of_lt hj, hx, Array.getElem?_toList] at h3
    exact h3
theorem row_range {base s n : Nat} {e : TypeId} {v : Value} {xs : List Value} {w : World} (h : w.ownsRow base e s v n xs) : ∀ b, blkOf v = some b → base ≤ b ∧ b < w.heap.size := fun b hb => by
  rcases h.2 with ⟨rfl, _⟩ | ⟨g, cap, cur, rfl, h1, h2, _⟩
  · cases hb
  · cases hb
    exact ⟨h1, (Array.getElem?_eq_some_iff.1 h2).1⟩
theorem new_cells (w : World) (A : Array Value) (e : TypeId) : (1 : Nat) ≠ 0 → ∃ B, some (⟨w.heap.size, 0, none⟩ : Addr) = some B ∧ ∀ (j : Nat) (x : Value), A.toList[j]? = some x → (w.alloc (.cells A e)).cell? (B.add j) = some x := fun _ => ⟨_, rfl, fun j x hx => by
  rw [addr_add, Nat.zero_add]
  rw [Array.getElem?_toList] at hx
  exact cell_row (blk_new w e A) hx⟩
theorem row_under {base s n : Nat} {e : TypeId} {v : Value} {xs : List Value} {w w' : World} (h : w.ownsRow base e s v n xs) (hb : Below w.heap.size w w') : w'.ownsRow base e s v n xs := by
  obtain ⟨h1, h2⟩ := h
  refine ⟨h1, ?_⟩
  rcases h2 with h | ⟨g, cap, cur, rfl, hq, hgt, r⟩
  · exact .inl h
  · refine .inr ⟨g, cap, cur, rfl, hq, ?_, r⟩
    rw [hb.block g (Array.getElem?_eq_some_iff.1 hgt).1]
    exact hgt
/-- What Put and Dh and an act come to, on a list of the reference. -/
def News (D : Nat → Prop) (w w' : World) (b : Nat) : Prop := D b ∨ (w.heap.size ≤ b ∧ b < w'.heap.size)
end Go.Proofs.YtniogaimhkcedaaDoor.sh
/-
  The reference's Dh.
-/
namespace Go.Proofs.YtniogaimhkcedaaDoor.sh
open Go Go.RowKit
set_option linter.unusedVariables false
set_option linter.unusedSimpArgs false

theorem News.under {D : Nat → Prop} {w w1 w2 w3 : World} (h : w.heap.size ≤ w1.heap.size) (h2 : w2.heap.size ≤ w3.heap.size) {b : Nat} (hb : News D w1 w2 b) : News D w w3 b := by
  rcases hb with hb | ⟨h3, h4⟩
  · exact .inl hb
  · exact .inr ⟨Nat.le_trans h h3, Nat.lt_of_lt_of_le h4 h2⟩
theorem alloc_size (w : World) (o : Obj) : (w.alloc o).heap.size = w.heap.size + 1 := Array.size_push _
end Go.Proofs.YtniogaimhkcedaaDoor.sh
/-
  FOR LAYER 10, the mathematics: which terms a text tells; what is known; the least set of terms.
-/
namespace Go.Proofs.YtniogaimhkcedaaDoor.sh
open Go Go.RowKit
set_option linter.unusedVariables false
set_option linter.unusedSimpArgs false

/-- The terms that a text tells, by their numbers (from 0 on): the one that it names; else those that its parts tell, if it is a text of texts. -/
inductive Leaf (ts : List TermL) : List Nat → Nat → Prop
  | name {s : List Nat} {n : Nat} : findN ts.length s = n + 1 → Leaf ts s n
  | part {s l : List Nat} {k n : Nat} {ll : List (List Nat)} : findN ts.length s = 0 → splitL s = some (k, ll) → l ∈ ll → Leaf ts l n → Leaf ts s n
theorem leaf_name {ts : List TermL} {s : List Nat} {m n : Nat} (h : findN ts.length s = m + 1) : Leaf ts s n ↔ n = m := by
  constructor
  · intro hl
    cases hl with
    | name h2 => omega
    | part h2 => omega
  · rintro rfl
    exact .name h
theorem leaf_part {ts : List TermL} {s : List Nat} {k n : Nat} {ll : List (List Nat)} (h : findN ts.length s = 0) (h2 : splitL s = some (k, ll)) : Leaf ts s n ↔ ∃ l ∈ ll, Leaf ts l n := by
  constructor
  · intro hl
    cases hl with
    | name h3 => omega
    | part h3 h4 h5 h6 =>
      rw [h2] at h4
      cases h4
      exact ⟨_, h5, h6⟩
  · rintro ⟨l, h3, h4⟩
    exact .part h h2 h3 h4
theorem leaf_none {ts : List TermL} {s : List Nat} {n : Nat} (h : findN ts.length s = 0) (h2 : splitL s = none) : ¬ Leaf ts s n := fun hl => by
  cases hl with
  | name h3 => omega
  | part h3 h4 => rw [h2] at h4; cases h4
theorem leaf_lt {ts : List TermL} {s : List Nat} {n : Nat} (h : Leaf ts s n) : n < ts.length := by
  induction h with
  | @name s n h => have := findN_le ts.length s; rw [h] at this; omega
  | part _ _ _ _ ih => exact ih
/-- A text is known, where those terms are. -/
def KnownS (ts : List TermL) (H : Nat → Prop) (s : List Nat) : Prop := ∀ n, Leaf ts s n → H n
theorem known_name {ts : List TermL} {H : Nat → Prop} {s : List Nat} {m : Nat} (h : findN ts.length s = m + 1) : KnownS ts H s ↔ H m := ⟨fun hk => hk m (.name h), fun hm n hn => by rw [(leaf_name h).1 hn]; exact hm⟩
theorem known_part {ts : List TermL} {H : Nat → Prop} {s : List Nat} {k : Nat} {ll : List (List Nat)} (h : findN ts.length s = 0) (h2 : splitL s = some (k, ll)) : KnownS ts H s ↔ ∀ l ∈ ll, KnownS ts H l :=
  ⟨fun hk l hl n hn => hk n (.part h h2 hl hn), fun hk n hn => by
    obtain ⟨l, hl, h3⟩ := (leaf_part h h2).1 hn
    exact hk l hl n h3⟩
theorem KnownS.mono {ts : List TermL} {H H' : Nat → Prop} {s : List Nat} (h : KnownS ts H s) (hH : ∀ n, H n → H' n) : KnownS ts H' s := fun n hn => hH n (h n hn)
/-- What a secret is known by, or its public key in the table. -/
def PubK (ts : List TermL) (H : Nat → Prop) (y : List Nat) : Prop := (∃ i, ts[i]? = some (2, [y]) ∧ H i) ∨ KnownS ts H y
theorem PubK.mono {ts : List TermL} {H H' : Nat → Prop} {s : List Nat} (h : PubK ts H s) (hH : ∀ n, H n → H' n) : PubK ts H' s := by
  rcases h with ⟨i, h1, h2⟩ | h
  · exact .inl ⟨i, h1, hH i h2⟩
  · exact .inr (h.mono hH)
/-- A term can be made of what is known. -/
inductive MakesK (ts : List TermL) (H : Nat → Prop) : TermL → Prop
  | pub {x : List Nat} : KnownS ts H x → MakesK ts H (2, [x])
  | dh1 {x y : List Nat} : KnownS ts H x → PubK ts H y → MakesK ts H (3, [x, y])
  | dh2 {x y : List Nat} : KnownS ts H y → PubK ts H x → MakesK ts H (3, [x, y])
  | hash {ll : List (List Nat)} : (∀ p ∈ ll, KnownS ts H p) → MakesK ts H (4, ll)
  | box {k n a x : List Nat} : KnownS ts H k → KnownS ts H a → KnownS ts H x → MakesK ts H (5, [k, n, a, x])
theorem MakesK.mono {ts : List TermL} {H H' : Nat → Prop} {t : TermL} (h : MakesK ts H t) (hH : ∀ n, H n → H' n) : MakesK ts H' t := by
  cases h with
  | pub h => exact .pub (h.mono hH)
  | dh1 h h2 => exact .dh1 (h.mono hH) (h2.mono hH)
  | dh2 h h2 => exact .dh2 (h.mono hH) (h2.mono hH)
  | hash h => exact .hash fun p hp => (h p hp).mono hH
  | box h h2 h3 => exact .box (h.mono hH) (h2.mono hH) (h3.mono hH)
theorem makes_not_atom {ts : List TermL} {H : Nat → Prop} {t : TermL} (h : MakesK ts H t) : t.1 ≠ 1 := by cases h <;> simp
/-- What holds of all that can be made of what it holds of, and of what boxes tell. -/
structure ClosedK (ts : List TermL) (H : Nat → Prop) : Prop where
  made : ∀ i t, ts[i]? = some t → MakesK ts H t → H i
  told : ∀ i k n a x, ts[i]? = some (5, [k, n, a, x]) → H i → KnownS ts H k → ∀ j, Leaf ts x j → H j
/-- What is known by who was told some texts: the least. -/
def KN (ts : List TermL) (told : List (List Nat)) (n : Nat) : Prop := ∀ P : Nat → Prop, (∀ s ∈ told, ∀ j, Leaf ts s j → P j) → ClosedK ts P → P n
theorem kn_told {ts : List TermL} {told : List (List Nat)} {s : List Nat} {n : Nat} (hs : s ∈ told) (hn : Leaf ts s n) : KN ts told n := fun P h1 _ => h1 s hs n hn
theorem kn_least {ts : List TermL} {told : List (List Nat)} {P : Nat → Prop} (h1 : ∀ s ∈ told, ∀ j, Leaf ts s j → P j) (h2 : ClosedK ts P) : ∀ n, KN ts told n → P n := fun n h => h P h1 h2
theorem kn_closed (ts : List TermL) (told : List (List Nat)) : ClosedK ts (KN ts told) where
  made i t ht hm P h1 h2 := h2.made i t ht (hm.mono (kn_least h1 h2))
  told i k n a x ht hi hk j hj P h1 h2 := h2.told i k n a x ht (hi P h1 h2) (hk.mono (kn_least h1 h2)) j hj
theorem kn_sub {ts : List TermL} {told more : List (List Nat)} (h : ∀ s ∈ told, ∀ j, Leaf ts s j → KN ts more j) : ∀ n, KN ts told n → KN ts more n := kn_least h (kn_closed ts more)
theorem kn_mono {ts : List TermL} {told more : List (List Nat)} (h : ∀ s ∈ told, s ∈ more) : ∀ n, KN ts told n → KN ts more n := kn_sub fun s hs j hj => kn_told (h s hs) hj
theorem kn_lt {ts : List TermL} {told : List (List Nat)} {n : Nat} (h : KN ts told n) : n < ts.length :=
  h (· < ts.length) (fun _ _ _ hj => leaf_lt hj) ⟨fun i t ht _ => (List.getElem?_eq_some_iff.1 ht).1, fun _ _ _ _ _ _ _ _ _ hj => leaf_lt hj⟩
/-- Who is told what he knows knows no more. -/
theorem kn_again {ts : List TermL} {told again : List (List Nat)} (h : ∀ s ∈ again, KnownS ts (KN ts told) s) (h2 : ∀ n, KN ts told n → ∃ s ∈ again, Leaf ts s n) : ∀ n, KN ts again n ↔ KN ts told n := fun n =>
  ⟨kn_sub (fun s hs j hj => h s hs j hj) n, fun hn => by
    obtain ⟨s, hs, hl⟩ := h2 n hn
    exact kn_told hs hl⟩
/-- What can be made of nothing. -/
def SN (ts : List TermL) (n : Nat) : Prop := ∀ P : Nat → Prop, (∀ i t, ts[i]? = some t → MakesK ts P t → P i) → P n
theorem sn_made {ts : List TermL} {i : Nat} {t : TermL} (ht : ts[i]? = some t) (hm : MakesK ts (SN ts) t) : SN ts i := fun P hP => hP i t ht (hm.mono fun n h => h P hP)
theorem sn_inv {ts : List TermL} {n : Nat} (h : SN ts n) : ∃ t, ts[n]? = some t ∧ MakesK ts (SN ts) t :=
  (h (fun n => SN ts n ∧ ∃ t, ts[n]? = some t ∧ MakesK ts (SN ts) t) fun i t ht hm => by
    have := hm.mono (H' := SN ts) fun n h => h.1
    exact ⟨sn_made ht this, t, ht, this⟩).2
theorem sn_closed (ts : List TermL) : ClosedK ts (SN ts) where
  made i t ht hm := sn_made ht hm
  told i k n a x ht hi hk j hj := by
    obtain ⟨t, h1, h2⟩ := sn_inv hi
    rw [ht] at h1
    cases h1
    cases h2 with
    | box _ _ h => exact h j hj
/-- Who is told nothing knows just what can be made of nothing: no atom among it. -/
theorem kn_nothing {ts : List TermL} : ∀ n, KN ts [] n ↔ SN ts n := fun n => ⟨kn_least (fun s hs => by cases hs) (sn_closed ts) n, fun h => h _ fun i t ht hm => (kn_closed ts []).made i t ht hm⟩
theorem kn_no_atom {ts : List TermL} {n : Nat} {t : TermL} (ht : ts[n]? = some t) (hk : t.1 = 1) : ¬ KN ts [] n := fun h => by
  obtain ⟨u, h1, h2⟩ := sn_inv ((kn_nothing n).1 h)
  rw [ht] at h1
  cases h1
  exact makes_not_atom h2 hk

/-- The loop over texts that are still to be looked at: what is behind it tells what the first one tells. -/
def TodoL (ts : List TermL) (todo : List (List Nat)) (n : Nat) : Prop := ∃ s ∈ todo, Leaf ts s n
def weight (todo : List (List Nat)) : Nat := (todo.map fun s => s.length + 1).sum
theorem weight_nil : weight [] = 0 := rfl
theorem weight_cons (s : List Nat) (l : List (List Nat)) : weight (s :: l) = s.length + 1 + weight l := rfl
theorem weight_append (l m : List (List Nat)) : weight (l ++ m) = weight l + weight m := by simp [weight]
theorem weight_items : ∀ ll : List (List Nat), weight ll ≤ (itemsL ll).length
  | [] => Nat.le_refl _
  | l :: ll => by
    rw [weight_cons, itemsL_cons, List.length_append, itemL_len]
    have := weight_items ll
    omega
/-- The parts of a text of texts weigh less than it. -/
theorem weight_split {s : List Nat} {k : Nat} {ll : List (List Nat)} (hy : Bytes s) (h : splitL s = some (k, ll)) : weight ll + 3 ≤ s.length := by
  have h2 := ((splitL_says hy).1 h).1
  have h3 := weight_items ll
  rw [h2, joinL_len]
  omega
theorem split_bytes {s : List Nat} {k : Nat} {ll : List (List Nat)} (hy : Bytes s) (h : splitL s = some (k, ll)) : ∀ l ∈ ll, Bytes l := (says_bytes hy ((splitL_says hy).1 h)).2
theorem len_weight : ∀ l : List (List Nat), l.length ≤ weight l
  | [] => Nat.le_refl _
  | s :: l => by
    rw [weight_cons, List.length_cons]
    have := len_weight l
    omega
theorem todo_name {ts : List TermL} {s : List Nat} {l : List (List Nat)} {m n : Nat} (h : findN ts.length s = m + 1) : TodoL ts (s :: l) n ↔ n = m ∨ TodoL ts l n := by
  unfold TodoL
  simp only [List.mem_cons, exists_eq_or_imp, leaf_name h]
theorem todo_part {ts : List TermL} {s : List Nat} {l ll : List (List Nat)} {k n : Nat} (h : findN ts.length s = 0) (h2 : splitL s = some (k, ll)) : TodoL ts (s :: l) n ↔ TodoL ts (l ++ ll) n := by
  unfold TodoL
  simp only [List.mem_cons, exists_eq_or_imp, leaf_part h h2, List.mem_append]
  constructor
  · rintro (⟨x, h3, h4⟩ | ⟨x, h3, h4⟩)
    · exact ⟨x, .inr h3, h4⟩
    · exact ⟨x, .inl h3, h4⟩
  · rintro ⟨x, h3 | h3, h4⟩
    · exact .inr ⟨x, h3, h4⟩
    · exact .inl ⟨x, h3, h4⟩
theorem todo_text {ts : List TermL} {s : List Nat} {l : List (List Nat)} {n : Nat} (h : findN ts.length s = 0) (h2 : splitL s = none) : TodoL ts (s :: l) n ↔ TodoL ts l n := by
  unfold TodoL
  simp only [List.mem_cons, exists_eq_or_imp]
  exact ⟨fun h3 => h3.resolve_left (leaf_none h h2), .inr⟩
theorem todo_one {ts : List TermL} {s : List Nat} {n : Nat} : TodoL ts [s] n ↔ Leaf ts s n := by simp [TodoL]

/-- A list of bools as a set. -/
def hadP (b : List Bool) (n : Nat) : Prop := b[n]? = some true
def cntB (b : List Bool) : Nat := b.countP id
theorem cnt_le (b : List Bool) : cntB b ≤ b.length := List.countP_le_length
/-- Of two lists of a length, the one within the other: as many just if the same. -/
theorem cnt_grows : ∀ {b c : List Bool}, b.length = c.length → (∀ n, hadP b n → hadP c n) → cntB b ≤ cntB c ∧ (cntB b = cntB c → b = c)
  | [], [], _, _ => ⟨Nat.le_refl _, fun _ => rfl⟩
  | [], _ :: _, h, _ => by cases h
  | _ :: _, [], h, _ => by cases h
  | x :: b, y :: c, h, h2 => by
    have ih := cnt_grows (b := b) (c := c) (by simpa using h) (fun n hn => h2 (n + 1) hn)
    have h0 : x = true → y = true := fun e => by
      have := h2 0 (by rw [e]; rfl)
      simpa [hadP] using this
    unfold cntB at ih ⊢
    cases x <;> cases y <;> simp at h0 ⊢
    · exact ⟨ih.1, ih.2⟩
    · exact ⟨by omega, fun e => by omega⟩
    · exact ⟨ih.1, ih.2⟩
theorem had_set {b : List Bool} {i n : Nat} (hi : i < b.length) : hadP (b.set i true) n ↔ n = i ∨ hadP b n := by
  unfold hadP
  rw [List.getElem?_set]
  by_cases h : i = n
  · subst h
    simp [hi]
  · rw [if_neg h]
    constructor
    · exact .inr
    · rintro (e | e)
      · exact absurd e.symm h
      · exact e
theorem had_lt {b : List Bool} {n : Nat} (h : hadP b n) : n < b.length := (List.getElem?_eq_some_iff.1 h).1
theorem had_none (n i : Nat) : ¬ hadP (List.replicate n false) i := fun h => by
  unfold hadP at h
  rw [List.getElem?_replicate] at h
  split at h <;> simp at h
end Go.Proofs.YtniogaimhkcedaaDoor.sh
