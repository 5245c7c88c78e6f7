/-
  Names of terms: strings.TrimLeft at a byte 0, term.nameOf, term.numberOf.
-/
import Derived.Test.YtfdldpcfdebinaaDoorDC
namespace Go.Proofs.YtfdldpcfdebinaaDoor.sh
open Go Go.RowKit
set_option linter.unusedVariables false
set_option linter.unusedSimpArgs false

theorem map_inj8 {l m : List Nat} (hl : Bytes l) (hm : Bytes m) (h : (l.map fun n => UInt8.ofNat n) = m.map fun n => UInt8.ofNat n) : l = m := strOf_same hl hm (by rw [← strOf_mk l, ← strOf_mk m, h])
theorem u8_zero {n : Nat} (h : n < 256) : (UInt8.ofNat n == 0) = decide (n = 0) := by
  by_cases h0 : n = 0
  · subst h0; rfl
  · rw [decide_eq_false h0]
    refine beq_eq_false_iff_ne.2 fun e => h0 ?_
    have := congrArg UInt8.toNat e
    simp at this
    omega
/-- Without the bytes 0 ahead. -/
def dropZ (l : List Nat) : List Nat := l.dropWhile (fun n => decide (n = 0))
theorem dropZ_map : ∀ {l : List Nat}, Bytes l → (l.map fun n => UInt8.ofNat n).dropWhile (· == 0) = (dropZ l).map fun n => UInt8.ofNat n
  | [], _ => rfl
  | x :: l, h => by
    have hx : x < 256 := h 0 x rfl
    have hl : Bytes l := fun i y hy => h (i + 1) y hy
    unfold dropZ
    rw [List.map_cons, List.dropWhile_cons, List.dropWhile_cons, u8_zero hx]
    by_cases h0 : x = 0
    · rw [if_pos (by simpa using h0), if_pos (by simpa using h0)]
      exact dropZ_map hl
    · rw [if_neg (by simpa using h0), if_neg (by simpa using h0)]
      rfl
theorem sTrim0 {l : List Nat} (h : Bytes l) (w : World) :
    Calls Tryd.prog 49 #[.string (strOf l), .int .u8 0] w fun e w' => e = .returned (.string (strOf (dropZ l))) ∧ w' = w := by
  have h1 := sTrimB l 0 w
  unfold Lib.trimLeftB at h1
  rw [dropZ_map h, strOf_mk] at h1
  exact h1
theorem drop_zeros : ∀ (k : Nat) {t : List Nat}, t.head? ≠ some 0 → dropZ (List.replicate k 0 ++ t) = t
  | 0, [], _ => rfl
  | 0, x :: t, h => by
    have hx : ¬ x = 0 := fun e => h (by rw [e]; rfl)
    show dropZ (x :: t) = _
    unfold dropZ
    rw [List.dropWhile_cons, if_neg (by simpa using hx)]
  | k + 1, t, h => by
    show dropZ (0 :: (List.replicate k 0 ++ t)) = t
    unfold dropZ
    rw [List.dropWhile_cons, if_pos (by rfl)]
    exact drop_zeros k h
theorem dropZ_form : ∀ l : List Nat, ∃ k, l = List.replicate k 0 ++ dropZ l ∧ (dropZ l).head? ≠ some 0
  | [] => ⟨0, rfl, by simp [dropZ]⟩
  | x :: l => by
    by_cases h0 : x = 0
    · obtain ⟨k, h1, h2⟩ := dropZ_form l
      have e : dropZ (x :: l) = dropZ l := by
        unfold dropZ
        rw [List.dropWhile_cons, if_pos (by simpa using h0)]
      refine ⟨k + 1, ?_, by rw [e]; exact h2⟩
      rw [e, List.replicate_succ, List.cons_append, ← h1, h0]
    · have e : dropZ (x :: l) = x :: l := by
        unfold dropZ
        rw [List.dropWhile_cons, if_neg (by simpa using h0)]
      exact ⟨0, by rw [e]; rfl, by rw [e]; simpa using h0⟩
theorem dropZ_bytes {l : List Nat} (h : Bytes l) : Bytes (dropZ l) := by
  obtain ⟨k, h1, _⟩ := dropZ_form l
  rw [h1] at h
  exact bytes_of_all fun x hx => h.all x (List.mem_append_right _ hx)
theorem bigL_num : ∀ (k n : Nat), n < 256 ^ k → bigL n k = List.replicate (k - (numT n k).length) 0 ++ numT n k
  | 0, n, h => by simp at h; subst h; rfl
  | k + 1, n, h => by
    have hd : n / 256 < 256 ^ k := by rw [Nat.pow_succ] at h; omega
    have ih := bigL_num k (n / 256) hd
    unfold bigL numT
    by_cases h0 : n = 0
    · subst h0
      rw [if_pos rfl]
      rw [show 0 / 256 = 0 from rfl, numT_zero] at ih
      rw [show 0 / 256 = 0 from rfl, ih]
      simp [List.replicate_succ']
    · rw [if_neg h0, ih, List.length_append, List.length_singleton, List.append_assoc, show k + 1 - ((numT (n / 256) k).length + 1) = k - (numT (n / 256) k).length by omega]
/-- The number of a name; 0 of what is none. -/
def noL (l : List Nat) : Nat := if l.take 4 = [116, 101, 114, 109] ∧ l.length = 32 then rdV (dropZ (l.drop 4)) else 0
theorem termN_drop (n : Nat) (h : n < 18446744073709551616) : (termN n).drop 4 = List.replicate (28 - (numL n).length) 0 ++ numL n := by
  have h1 := bigL_num 8 n h
  have h2 := numL_len n
  unfold termN
  rw [List.append_assoc, List.drop_append_of_le_length (by decide), show ([116, 101, 114, 109] : List Nat).drop 4 = [] from rfl, List.nil_append, h1]
  show List.replicate 20 0 ++ (List.replicate (8 - (numL n).length) 0 ++ numL n) = _
  rw [← List.append_assoc, List.replicate_append_replicate, show 20 + (8 - (numL n).length) = 28 - (numL n).length by omega]
theorem noL_name {n : Nat} (h : n < 18446744073709551616) : noL (termN n) = n := by
  unfold noL
  rw [if_pos ⟨by unfold termN; rfl, termN_len n⟩, termN_drop n h, drop_zeros _ (numL_head n h)]
  unfold rdV
  rw [if_pos ⟨numL_len n, numL_head n h⟩]
  exact numL_read n h
theorem noL_of {l : List Nat} (hy : Bytes l) (h : noL l ≠ 0) : l = termN (noL l) ∧ noL l < 18446744073709551616 := by
  unfold noL at h ⊢
  by_cases h1 : l.take 4 = [116, 101, 114, 109] ∧ l.length = 32
  · rw [if_pos h1] at h ⊢
    obtain ⟨k, e1, e2⟩ := dropZ_form (l.drop 4)
    have hb := dropZ_bytes (hy.drop 4)
    unfold rdV at h ⊢
    by_cases hR : Reads (dropZ (l.drop 4))
    · rw [if_pos hR] at h ⊢
      have hlt : readT (dropZ (l.drop 4)) < 18446744073709551616 := by
        have h2 := readT_lt _ _ rfl hb
        have h3 : 256 ^ (dropZ (l.drop 4)).length ≤ 256 ^ 8 := Nat.pow_le_pow_right (by decide) hR.1
        omega
      refine ⟨?_, hlt⟩
      have e3 := numL_of _ hb hR.1 hR.2
      have e4 := termN_drop _ hlt
      rw [e3] at e4
      have hk : k = 28 - (dropZ (l.drop 4)).length := by
        have := congrArg List.length e1
        rw [List.length_drop, List.length_append, List.length_replicate, h1.2] at this
        omega
      rw [← hk, ← e1] at e4
      have e5 : (termN (readT (dropZ (l.drop 4)))).take 4 = l.take 4 := by rw [h1.1]; unfold termN; rfl
      rw [← List.take_append_drop 4 (termN _), e5, e4, List.take_append_drop]
    · rw [if_neg hR] at h; exact absurd rfl h
  · rw [if_neg h1] at h; exact absurd rfl h
theorem findN_no {N : Nat} {l : List Nat} (hy : Bytes l) (hN : N < 18446744073709551616) : findN N l = if noL l ≤ N then noL l else 0 := by
  by_cases h0 : noL l = 0
  · rw [h0, if_pos (Nat.zero_le _)]
    refine findN_none fun i h1 h2 e => ?_
    have := noL_name (n := i) (by omega)
    rw [e, h0] at this
    omega
  · obtain ⟨e1, e2⟩ := noL_of hy h0
    by_cases h : noL l ≤ N
    · rw [if_pos h]
      conv => lhs; rw [e1]
      exact findN_at N _ hN (by omega) h
    · rw [if_neg h]
      refine findN_none fun i h1 h2 e => ?_
      have := noL_name (n := i) (by omega)
      rw [e] at this
      omega

set_option maxRecDepth 100000 in
set_option maxHeartbeats 1000000 in
theorem TrimD {l : List Nat} {w : World} (hl : Bytes l) :
    Calls Tryd.prog 39 #[.string (strOf l), .string ⟨#[0]⟩] w fun e w' => e = .returned (.string (strOf (dropZ l))) ∧ w' = w := by
  have CT := sTrim0 hl w
  have KL : Kept _ := ⟨hl⟩
  by_cases h0 : l = []
  · subst h0
    have B1 : Kept (true = decide (([] : List Nat) = [])) := ⟨rfl⟩
    clear hl CT
    go_enter Tryd.func39, Tryd.ntmps39
    go_wp2_with (first | ((with_reducible refine wv_val (d := 8) ?hd ?hw (.bool true) ?hr ?_); (case hd => rfl); (case hw => kernel_rfl); (case hr => intro w; exact run_seq (l := []) (m := []) rfl (by kernel_rfl) rfl nil_bytes nil_bytes B1.out w); simp only [Act.put, List.setIfInBounds_toArray, List.set_cons_succ, List.set_cons_zero]))
    go_ret
    exact ⟨rfl, rfl⟩
  · have B1 : Kept (false = decide (l = [])) := ⟨(decide_eq_false h0).symm⟩
    have B2 : Kept (false = decide (([0] : List Nat) = [])) := ⟨rfl⟩
    have Y0 : Kept (Bytes [0]) := ⟨bytes_of_all (fun x hx => by simp at hx; omega)⟩
    have K1 : Kept (1 = ([0] : List Nat).length) := ⟨rfl⟩
    have K2 : Kept (([0] : List Nat)[0]? = some 0) := ⟨rfl⟩
    clear h0 hl
    go_enter Tryd.func39, Tryd.ntmps39
    go_wp2_with (first | ((with_reducible refine wv_val (d := 8) ?hd ?hw (.bool false) ?hr ?_); (case hd => rfl); (case hw => kernel_rfl); (case hr => intro w; exact run_seq (m := []) rfl (by kernel_rfl) rfl KL.out nil_bytes B1.out w); simp only [Act.put, List.setIfInBounds_toArray, List.set_cons_succ, List.set_cons_zero]) | ((with_reducible refine wv_val (d := 11) ?hd ?hw (.bool false) ?hr ?_); (case hd => rfl); (case hw => kernel_rfl); (case hr => intro w; exact run_seq (l := [0]) (m := []) rfl (by kernel_rfl) rfl Y0.out nil_bytes B2.out w); simp only [Act.put, List.setIfInBounds_toArray, List.set_cons_succ, List.set_cons_zero]) | ((with_reducible refine wv_val (d := 15) ?hd ?hw (.int .i64 ((1 : Nat) : Int)) ?hr ?_); (case hd => rfl); (case hw => kernel_rfl); (case hr => intro w; exact run_slen (l := [0]) rfl (by kernel_rfl) K1.out w); simp only [Act.put, List.setIfInBounds_toArray, List.set_cons_succ, List.set_cons_zero]) | ((with_reducible refine wv_val (d := 19) ?hd ?hw (.int .u8 ((0 : Nat) : Int)) ?hr ?_); (case hd => rfl); (case hw => kernel_rfl); (case hr => intro w; exact run_sidx (l := [0]) (i := 0) rfl (by kernel_rfl) rfl Y0.out K2.out w); simp only [Act.put, List.setIfInBounds_toArray, List.set_cons_succ, List.set_cons_zero]) | ((with_reducible refine wv_val (d := 24) ?hd ?hw (.int .u8 ((0 : Nat) : Int)) ?hr ?_); (case hd => rfl); (case hw => kernel_rfl); (case hr => intro w; exact run_sidx (l := [0]) (i := 0) rfl (by kernel_rfl) rfl Y0.out K2.out w); simp only [Act.put, List.setIfInBounds_toArray, List.set_cons_succ, List.set_cons_zero]))
    refine CT.mono ?_
    rintro e w2 ⟨rfl, rfl⟩
    go_wp2_with fail
    go_ret
    exact ⟨rfl, rfl⟩

theorem rep_map : ∀ c : Nat, Lib.repeatL ([0].map fun n : Nat => UInt8.ofNat n) c = (List.replicate c 0).map fun n : Nat => UInt8.ofNat n
  | 0 => rfl
  | c + 1 => by
    unfold Lib.repeatL
    rw [rep_map c, List.replicate_succ]
    rfl
theorem RepD {c : Nat} {w : World} (hc : c ≤ 28) :
    Calls Tryd.prog 36 #[.string ⟨#[0]⟩, .int .i64 (c : Int)] w fun e w' => e = .returned (.string (strOf (List.replicate c 0))) ∧ Below w.heap.size w w' := by
  have h := sRep (l := [0]) (c := c) w (by simp; omega) (by omega)
  rw [rep_map, strOf_mk] at h
  exact h
theorem zeros_bytes (c : Nat) : Bytes (List.replicate c 0) := bytes_of_all fun x hx => by rw [List.eq_of_mem_replicate hx]; decide
set_option maxRecDepth 100000 in
set_option maxHeartbeats 1000000 in
theorem nameOfD {n : Nat} {w : World} (hn : n < 18446744073709551616) :
    Calls Tryd.prog 30 #[.int .u64 (n : Int)] w fun e w' => e = .returned (.string (strOf (termN n))) ∧ Below w.heap.size w w' := by
  have CN := NumD (w := w) hn
  have hz8 := numL_len n
  have hD := termN_drop n hn
  have hH : (termN n).take 4 = [116, 101, 114, 109] := by unfold termN; rfl
  obtain ⟨D, hDe⟩ : ∃ D, D = numL n := ⟨_, rfl⟩
  rw [← hDe] at CN hz8 hD
  obtain ⟨z, hz⟩ : ∃ z, z = D.length := ⟨_, rfl⟩
  rw [← hz] at hz8 hD
  obtain ⟨c, hc⟩ : ∃ c, c = 28 - z := ⟨_, rfl⟩
  rw [← hc] at hD
  have hc28 : c ≤ 28 := by omega
  have CR := fun w1 : World => RepD (w := w1) hc28
  obtain ⟨R, hR⟩ : ∃ R, R = List.replicate c 0 := ⟨_, rfl⟩
  rw [← hR] at CR hD
  obtain ⟨T, hT⟩ : ∃ T, T = termN n := ⟨_, rfl⟩
  rw [← hT] at hD hH ⊢
  obtain ⟨P, hP⟩ : ∃ P, P = [116, 101, 114, 109] ++ R := ⟨_, rfl⟩
  have KT : Kept (T = P ++ D) := ⟨by rw [hP, List.append_assoc, ← hD, ← hH, List.take_append_drop]⟩
  have KP : Kept _ := ⟨hP⟩
  have KZ : Kept _ := ⟨hz⟩
  have KC : Kept _ := ⟨hc⟩
  have KCN : Kept _ := ⟨CN⟩
  have KCR : Kept _ := ⟨CR⟩
  have B1 : Kept (([116, 101, 114, 109] : List Nat).length + R.length < 4611686018427387904) := ⟨by rw [hR, List.length_replicate]; simp; omega⟩
  have B2 : Kept (P.length + D.length < 4611686018427387904) := ⟨by rw [hP, hR, List.length_append, List.length_replicate, ← hz]; simp; omega⟩
  clear hD hH hDe hz hc hR hT hP CN CR
  go_enter Tryd.func30, Tryd.ntmps30
  go_wp2_with fail
  refine KCN.out.mono ?_
  rintro e w1 ⟨rfl, q1⟩
  go_wp2_with (first | ((with_reducible refine wv_val (d := 7) ?hd ?hw (.int .i64 (z : Int)) ?hr ?_); (case hd => rfl); (case hw => kernel_rfl); (case hr => intro w; exact run_slen rfl (by kernel_rfl) KZ.out w); simp only [Act.put, List.setIfInBounds_toArray, List.set_cons_succ, List.set_cons_zero]) | ((with_reducible refine wv_val (d := 8) ?hd ?hw (.int .i64 (c : Int)) ?hr ?_); (case hd => rfl); (case hw => kernel_rfl); (case hr => intro w; exact run_subC 28 rfl (by kernel_rfl) KC.out (by omega) (by decide) w); simp only [Act.put, List.setIfInBounds_toArray, List.set_cons_succ, List.set_cons_zero]))
  refine (KCR.out w1).mono ?_
  rintro e w2 ⟨rfl, q2⟩
  go_wp2_with (first | ((with_reducible refine wv_val (d := 10) ?hd ?hw (.string (strOf P)) ?hr ?_); (case hd => rfl); (case hw => kernel_rfl); (case hr => intro w; exact run_scat (l := [116, 101, 114, 109]) rfl (by kernel_rfl) (by kernel_rfl) B1.out KP.out w); simp only [Act.put, List.setIfInBounds_toArray, List.set_cons_succ, List.set_cons_zero]) | ((with_reducible refine wv_val (d := 12) ?hd ?hw (.string (strOf T)) ?hr ?_); (case hd => rfl); (case hw => kernel_rfl); (case hr => intro w; exact run_scat rfl (by kernel_rfl) (by kernel_rfl) B2.out KT.out w); simp only [Act.put, List.setIfInBounds_toArray, List.set_cons_succ, List.set_cons_zero]))
  go_ret
  exact ⟨rfl, q1.trans (q2.mono q1.size)⟩

theorem hasP_eq {l : List Nat} (hl : Bytes l) : Lib.hasPrefix (l.map fun n => UInt8.ofNat n) ([116, 101, 114, 109].map fun n : Nat => UInt8.ofNat n) = decide (l.take 4 = [116, 101, 114, 109]) := by
  unfold Lib.hasPrefix
  have hT : Bytes [116, 101, 114, 109] := bytes_of_all (fun x hx => by simp at hx; omega)
  by_cases h : l.take 4 = [116, 101, 114, 109]
  · rw [decide_eq_true h, List.isPrefixOf_iff_prefix, List.prefix_iff_eq_take, List.length_map, ← List.map_take]
    exact congrArg _ h.symm
  · rw [decide_eq_false h]
    refine Bool.eq_false_iff.2 fun e => h ?_
    rw [List.isPrefixOf_iff_prefix, List.prefix_iff_eq_take, List.length_map, ← List.map_take] at e
    exact (map_inj8 hT (hl.take _) e).symm
theorem CutD {l : List Nat} (hl : Bytes l) (w : World) :
    Calls Tryd.prog 37 #[.string (strOf l), .string ⟨#[116, 101, 114, 109]⟩] w fun e w' => e = .returned (.tuple #[.string (strOf (if l.take 4 = [116, 101, 114, 109] then l.drop 4 else l)), .bool (decide (l.take 4 = [116, 101, 114, 109]))]) ∧ w' = w := by
  have h := sCut l [116, 101, 114, 109] w
  unfold Lib.trimPrefix at h
  rw [hasP_eq hl] at h
  refine h.mono ?_
  rintro e w' ⟨rfl, rfl⟩
  refine ⟨?_, rfl⟩
  by_cases h : l.take 4 = [116, 101, 114, 109]
  · rw [if_pos h, decide_eq_true h, if_pos rfl, List.length_map, ← List.map_drop, strOf_mk]
    rfl
  · rw [if_neg h, decide_eq_false h, if_neg (by decide), strOf_mk]
set_option maxRecDepth 100000 in
set_option maxHeartbeats 1000000 in
theorem numberOfD {l : List Nat} {w : World} (hl : Bytes l) (hL : l.length ≤ maxLen) :
    Calls Tryd.prog 31 #[.string (strOf l)] w fun e w' => e = .returned (.int .u64 (noL l : Int)) ∧ w' = w := by
  have CC := CutD hl w
  obtain ⟨N, hN⟩ : ∃ N, N = noL l := ⟨_, rfl⟩
  rw [← hN]
  by_cases h4 : l.take 4 = [116, 101, 114, 109]
  case neg =>
    rw [if_neg h4, decide_eq_false h4] at CC
    have K0 : Kept (N = 0) := ⟨by rw [hN]; unfold noL; rw [if_neg (fun h => h4 h.1)]⟩
    have KCC : Kept _ := ⟨CC⟩
    clear hN h4 CC
    go_enter Tryd.func31, Tryd.ntmps31
    go_wp2_with fail
    refine KCC.out.mono ?_
    rintro e w1 ⟨rfl, hw⟩
    obtain rfl := hw.symm
    go_wp2_with fail
    go_ret
    exact ⟨by rw [K0.out]; rfl, rfl⟩
  case pos =>
    rw [if_pos h4, decide_eq_true h4] at CC
    obtain ⟨m, hm⟩ : ∃ m, m = l.length := ⟨_, rfl⟩
    have KM : Kept _ := ⟨hm⟩
    by_cases h32 : m = 32
    case neg =>
      have K0 : Kept (N = 0) := ⟨by rw [hN]; unfold noL; rw [if_neg (fun h => h32 (hm.trans h.2))]⟩
      have B1 : Kept (true = !decide ((m : Int) = 32)) := ⟨by rw [decide_eq_false (by omega)]; rfl⟩
      have KCC : Kept _ := ⟨CC⟩
      clear hN h4 CC h32 hm
      go_enter Tryd.func31, Tryd.ntmps31
      go_wp2_with fail
      refine KCC.out.mono ?_
      rintro e w1 ⟨rfl, hw⟩
      obtain rfl := hw.symm
      go_wp2_with (first | ((with_reducible refine wv_val (d := 16) ?hd ?hw (.int .i64 (m : Int)) ?hr ?_); (case hd => rfl); (case hw => kernel_rfl); (case hr => intro w; exact run_slen rfl (by kernel_rfl) KM.out w); simp only [Act.put, List.setIfInBounds_toArray, List.set_cons_succ, List.set_cons_zero]) | ((with_reducible refine wv_val (d := 17) ?hd ?hw (.bool true) ?hr ?_); (case hd => rfl); (case hw => kernel_rfl); (case hr => intro w; exact run_neI rfl (by kernel_rfl) rfl B1.out w); simp only [Act.put, List.setIfInBounds_toArray, List.set_cons_succ, List.set_cons_zero]))
      go_ret
      exact ⟨by rw [K0.out]; rfl, rfl⟩
    case pos =>
      have B1 : Kept (false = !decide ((m : Int) = 32)) := ⟨by rw [decide_eq_true (by omega)]; rfl⟩
      have CT := fun w1 : World => TrimD (w := w1) (hl.drop 4)
      obtain ⟨T, hT⟩ : ∃ T, T = dropZ (l.drop 4) := ⟨_, rfl⟩
      have CR := fun w1 : World => ReadD (s := T) (w := w1) (by rw [hT]; exact dropZ_bytes (hl.drop 4)) (by
        obtain ⟨k, e1, _⟩ := dropZ_form (l.drop 4)
        have := congrArg List.length e1
        rw [List.length_append, List.length_drop, List.length_replicate, ← hT, ← hm] at this
        unfold maxLen
        omega)
      rw [← hT] at CT
      have hV : N = rdV T := by rw [hN]; unfold noL; rw [if_pos ⟨h4, by omega⟩, hT]
      rw [← hV] at CR
      have KE : Kept ((rdE T = 0) ∨ (rdE T = 4 ∧ N = 0)) := ⟨by
        rw [hV]
        unfold rdE rdV
        by_cases hR : Reads T
        · exact .inl (if_pos hR)
        · exact .inr ⟨if_neg hR, if_neg hR⟩⟩
      obtain ⟨E, hE⟩ : ∃ E, E = rdE T := ⟨_, rfl⟩
      rw [← hE] at CR KE
      have KCC : Kept _ := ⟨CC⟩
      have KCT : Kept _ := ⟨CT⟩
      have KCR : Kept _ := ⟨CR⟩
      clear hN h4 CC h32 hm hT CT CR hV hE
      rcases KE.out with hE | ⟨hE, hN0⟩
      · subst hE
        clear KE
        go_enter Tryd.func31, Tryd.ntmps31
        go_wp2_with fail
        refine KCC.out.mono ?_
        rintro e w1 ⟨rfl, hw⟩
        obtain rfl := hw.symm
        go_wp2_with (first | ((with_reducible refine wv_val (d := 16) ?hd ?hw (.int .i64 (m : Int)) ?hr ?_); (case hd => rfl); (case hw => kernel_rfl); (case hr => intro w; exact run_slen rfl (by kernel_rfl) KM.out w); simp only [Act.put, List.setIfInBounds_toArray, List.set_cons_succ, List.set_cons_zero]) | ((with_reducible refine wv_val (d := 17) ?hd ?hw (.bool false) ?hr ?_); (case hd => rfl); (case hw => kernel_rfl); (case hr => intro w; exact run_neI rfl (by kernel_rfl) rfl B1.out w); simp only [Act.put, List.setIfInBounds_toArray, List.set_cons_succ, List.set_cons_zero]))
        refine (KCT.out w).mono ?_
        rintro e w2 ⟨rfl, hw⟩
        obtain rfl := hw.symm
        go_wp2_with fail
        refine (KCR.out w).mono ?_
        rintro e w3 ⟨rfl, hw⟩
        obtain rfl := hw.symm
        go_wp2_with fail
        go_ret
        exact ⟨rfl, rfl⟩
      · subst hE hN0
        clear KE
        go_enter Tryd.func31, Tryd.ntmps31
        go_wp2_with fail
        refine KCC.out.mono ?_
        rintro e w1 ⟨rfl, hw⟩
        obtain rfl := hw.symm
        go_wp2_with (first | ((with_reducible refine wv_val (d := 16) ?hd ?hw (.int .i64 (m : Int)) ?hr ?_); (case hd => rfl); (case hw => kernel_rfl); (case hr => intro w; exact run_slen rfl (by kernel_rfl) KM.out w); simp only [Act.put, List.setIfInBounds_toArray, List.set_cons_succ, List.set_cons_zero]) | ((with_reducible refine wv_val (d := 17) ?hd ?hw (.bool false) ?hr ?_); (case hd => rfl); (case hw => kernel_rfl); (case hr => intro w; exact run_neI rfl (by kernel_rfl) rfl B1.out w); simp only [Act.put, List.setIfInBounds_toArray, List.set_cons_succ, List.set_cons_zero]))
        refine (KCT.out w).mono ?_
        rintro e w2 ⟨rfl, hw⟩
        obtain rfl := hw.symm
        go_wp2_with fail
        refine (KCR.out w).mono ?_
        rintro e w3 ⟨rfl, hw⟩
        obtain rfl := hw.symm
        go_wp2_with fail
        go_ret
        exact ⟨rfl, rfl⟩
end Go.Proofs.YtfdldpcfdebinaaDoor.sh
