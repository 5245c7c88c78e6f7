/-
  The reference's Split.
-/
import Derived.Test.YtfkpbmkhkhnehaaCM
namespace Go.Proofs.Ytfkpbmkhkhnehaa.sh
open Go Go.RowKit
set_option linter.unusedVariables false
set_option linter.unusedSimpArgs false

theorem spost_none {s : List Nat} {w w' : World} (h : splitL s = none) (hb : Below w.heap.size w w') : SPost s w (.returned (.tuple #[.int .u8 0, .slice none 0 0, .int .i64 4])) w' := by
  refine ⟨⟨.slice none 0 0, ?_, ?_⟩, hb⟩
  · unfold spK spE; rw [h]; rfl
  · unfold spL; rw [h]; exact vrow_nil _ _ _
theorem spost_some {s : List Nat} {k : Nat} {ll : List (List Nat)} {V : Value} {w w' : World} (h : splitL s = some (k, ll)) (hr : VRow w.heap.size 9 (strs ll) V w') (hb : Below w.heap.size w w') : SPost s w (.returned (.tuple #[.int .u8 (k : Int), V, .int .i64 0])) w' := by
  refine ⟨⟨V, ?_, ?_⟩, hb⟩
  · unfold spK spE; rw [h]; rfl
  · unfold spL; rw [h]; exact hr
set_option maxRecDepth 100000 in
set_option maxHeartbeats 1000000 in
theorem rSplit_short {s : List Nat} {w : World} (h : s.length < 3) :
    Calls Try.prog 17 #[.string (strOf s)] w fun e w' => SPost s w e w' := by
  have hN := split_short h
  obtain ⟨m, hm⟩ : ∃ m, m = s.length := ⟨_, rfl⟩
  have KM : Kept _ := ⟨hm⟩
  have h' : (m : Int) < 3 := by omega
  clear hm
  go_enter Try.func17, Try.ntmps17
  go_wp2_with (first | ((with_reducible refine wv_val (d := 12) ?hd ?hw (.int .i64 (m : Int)) ?hr ?_); (case hd => rfl); (case hw => kernel_rfl); (case hr => intro w; exact run_slen rfl (by kernel_rfl) KM.out w); simp only [Act.put, List.setIfInBounds_toArray, List.set_cons_succ, List.set_cons_zero]))
  refine bodyPost_ret (v := .tuple #[.int .u8 0, .slice none 0 0, .int .i64 4]) (by simp [results, Try.results17, go_sem]) rfl ?_
  exact spost_none hN (Below.refl _ _)
theorem drop_two {r : List Nat} {x y : Nat} {q rest : List Nat} (h : rest = x :: y :: q) (n : Nat) : rest.drop (n + 2) = q.drop n := by rw [h]; rfl
set_option maxRecDepth 100000 in
set_option maxHeartbeats 4000000 in
theorem rSplit_long {x k n : Nat} {r : List Nat} {w : World} (hs : Bytes (x :: k :: n :: r)) (hL : r.length ≤ 40000) :
    Calls Try.prog 17 #[.string (strOf (x :: k :: n :: r))] w fun e w' => SPost (x :: k :: n :: r) w e w' := by
  have hx8 : x < 256 := hs 0 x rfl
  have hk8 : k < 256 := hs 1 k rfl
  have hn8 : n < 256 := hs 2 n rfl
  have y3 : Bytes r := fun i z hz => hs (i + 3) z hz
  obtain ⟨s, hsE⟩ : ∃ s, s = x :: k :: n :: r := ⟨_, rfl⟩
  have ES : Kept _ := ⟨hsE⟩
  have YS0 : Kept (Bytes (x :: k :: n :: r)) := ⟨hs⟩
  have YS : Kept (Bytes s) := ⟨by rw [hsE]; exact hs⟩
  have YR3 : Kept _ := ⟨y3⟩
  have GN : Kept (s[2]? = some n) := ⟨by rw [hsE]; rfl⟩
  have GK : Kept (s[1]? = some k) := ⟨by rw [hsE]; rfl⟩
  rw [← hsE]
  obtain ⟨m0, hm0⟩ : ∃ m, m = s.length := ⟨_, rfl⟩
  have KM : Kept _ := ⟨hm0⟩
  have hm3 : Kept (m0 = r.length + 3) := ⟨by rw [hm0, hsE]; rfl⟩
  have hm3' : m0 ≤ 40003 := by rw [hm3.out]; omega
  have h3 : ¬ (m0 : Int) < 3 := by rw [hm3.out]; omega
  clear hs y3 hsE hm0
  go_enter Try.func17, Try.ntmps17
  go_wp2_with (first | ((with_reducible refine wv_val (d := 12) ?hd ?hw (.int .i64 (m0 : Int)) ?hr ?_); (case hd => rfl); (case hw => kernel_rfl); (case hr => intro w; exact run_slen rfl (by kernel_rfl) KM.out w); simp only [Act.put, List.setIfInBounds_toArray, List.set_cons_succ, List.set_cons_zero]))
  go_loopg [5, 6, 7] n (fun g s5 s6 s7 wr => ∃ (i t : Nat) (done : List (List Nat)) (rest : List Nat) (v : Value), i + g = n ∧ s7 = .int .i64 (i : Int) ∧ s6 = .int .i64 (t : Int) ∧ s5 = v ∧ Kept (done.length = i ∧ r = itemsL done ++ rest ∧ t = (itemsL done).length + 3) ∧ VRow w.heap.size 9 (strs done) v wr ∧ Below w.heap.size w wr)
  case atStart => exact ⟨0, 3, [], r, _, by omega, rfl, rfl, rfl, ⟨rfl, by simp [itemsL], rfl⟩, vrow_nil _ _ _, Below.refl _ _⟩
  case round =>
    rename World => wz
    obtain ⟨i, t, done, rest, v, hik, rfl, rfl, hv5, KD, HR, HW⟩ := hrel
    have hv6 := hv5.symm
    subst hv6
    have YR : Kept (Bytes rest) := ⟨fun j z hz => YR3.out (j + (itemsL done).length) z (by rw [KD.out.2.1, List.getElem?_append_right (by omega)]; simpa using hz)⟩
    have hRL : Kept ((itemsL done).length + rest.length = r.length) := ⟨by have := congrArg List.length KD.out.2.1; rw [List.length_append] at this; omega⟩
    have hdrop : Kept (∀ j, s[t + j]? = rest[j]?) := ⟨fun j => by
      rw [ES.out, KD.out.2.2]
      show (x :: k :: n :: r)[(itemsL done).length + 3 + j]? = _
      rw [show (itemsL done).length + 3 + j = (itemsL done).length + j + 3 by omega]
      show r[(itemsL done).length + j]? = _
      rw [KD.out.2.1, List.getElem?_append_right (by omega)]
      congr 1
      omega⟩
    have ht62 : t ≤ 40003 := by rw [KD.out.2.2]; have := hRL.out; omega
    by_cases hk0 : gk = 0
    case neg =>
      have hin : i < n := by omega
      have hin' : (i : Int) < (n : Int) := by omega
      rcases short_or (n := 0) rest with hS | ⟨a, b, q, hR, hab⟩
      case inl =>
        have hN : splitL s = none := by rw [ES.out]; exact split_stuck YS0.out KD.out.2.1 (by have := KD.out.1; omega) hS
        by_cases h2 : rest.length < 2
        case pos =>
          have h2' : (m0 : Int) < (t : Int) + 2 := by rw [hm3.out, KD.out.2.2]; have := hRL.out; omega
          go_wp2_with (first | ((with_reducible refine wv_val (d := 16) ?hd ?hw (.int .u8 (n : Int)) ?hr ?_); (case hd => rfl); (case hw => kernel_rfl); (case hr => intro w; exact run_sidx (i := 2) rfl (by kernel_rfl) rfl YS.out GN.out w); simp only [Act.put, List.setIfInBounds_toArray, List.set_cons_succ, List.set_cons_zero]) | ((with_reducible refine wv_val (d := 17) ?hd ?hw (.int .i64 (n : Int)) ?hr ?_); (case hd => rfl); (case hw => kernel_rfl); (case hr => intro w; exact run_conv83 rfl (by kernel_rfl) hn8 w); simp only [Act.put, List.setIfInBounds_toArray, List.set_cons_succ, List.set_cons_zero]) | ((with_reducible refine wv_val (d := 24) ?hd ?hw (.int .i64 (m0 : Int)) ?hr ?_); (case hd => rfl); (case hw => kernel_rfl); (case hr => intro w; exact run_slen rfl (by kernel_rfl) KM.out w); simp only [Act.put, List.setIfInBounds_toArray, List.set_cons_succ, List.set_cons_zero]))
          refine bodyPost_ret (v := .tuple #[.int .u8 0, .slice none 0 0, .int .i64 4]) (by simp [results, Try.results17, go_sem]) rfl ?_
          exact spost_none hN HW
        case neg =>
          have h2' : ¬ (m0 : Int) < (t : Int) + 2 := by rw [hm3.out, KD.out.2.2]; have := hRL.out; omega
          obtain ⟨a, b, q, hR, hab⟩ : ∃ a b q, rest = a :: b :: q ∧ q.length < 256 * a + b := by
            rcases hS with rfl | ⟨a, rfl⟩ | h
            · simp at h2
            · simp at h2
            · exact h
          have ha8 : a < 256 := YR.out 0 a (by rw [hR]; rfl)
          have hb8 : b < 256 := YR.out 1 b (by rw [hR]; rfl)
          have G0 : Kept (s[t]? = some a) := ⟨by have := hdrop.out 0; rw [Nat.add_zero] at this; rw [this, hR]; rfl⟩
          obtain ⟨t1, ht1⟩ : ∃ t1, t1 = t + 1 := ⟨_, rfl⟩
          have G1 : Kept (s[t1]? = some b) := ⟨by rw [ht1, hdrop.out 1, hR]; rfl⟩
          obtain ⟨a1, ha1⟩ : ∃ a1, a1 = 256 * a := ⟨_, rfl⟩
          obtain ⟨m, hm⟩ : ∃ m, m = a1 + b := ⟨_, rfl⟩
          have KA1 : Kept _ := ⟨ha1⟩
          have KT1 : Kept _ := ⟨ht1⟩
          have KMM : Kept _ := ⟨hm⟩
          have ba : a1 < 4611686018427387904 := by omega
          have bt1 : t1 < 4611686018427387904 := by omega
          have bm : m < 4611686018427387904 := by omega
          have h4 : (m0 : Int) < (t : Int) + 2 + (m : Int) := by
            have e1 := hRL.out
            rw [hR] at e1
            simp at e1
            have e2 := hm3.out
            have e3 := KD.out.2.2
            omega
          clear ha1 ht1 hm hR h2 hab hS
          go_wp2_with (first | ((with_reducible refine wv_val (d := 16) ?hd ?hw (.int .u8 (n : Int)) ?hr ?_); (case hd => rfl); (case hw => kernel_rfl); (case hr => intro w; exact run_sidx (i := 2) rfl (by kernel_rfl) rfl YS.out GN.out w); simp only [Act.put, List.setIfInBounds_toArray, List.set_cons_succ, List.set_cons_zero]) | ((with_reducible refine wv_val (d := 17) ?hd ?hw (.int .i64 (n : Int)) ?hr ?_); (case hd => rfl); (case hw => kernel_rfl); (case hr => intro w; exact run_conv83 rfl (by kernel_rfl) hn8 w); simp only [Act.put, List.setIfInBounds_toArray, List.set_cons_succ, List.set_cons_zero]) | ((with_reducible refine wv_val (d := 24) ?hd ?hw (.int .i64 (m0 : Int)) ?hr ?_); (case hd => rfl); (case hw => kernel_rfl); (case hr => intro w; exact run_slen rfl (by kernel_rfl) KM.out w); simp only [Act.put, List.setIfInBounds_toArray, List.set_cons_succ, List.set_cons_zero]))
          refine region_skipM wz 11 [(26, .string (strOf s)), (27, .int .i64 (t : Int)), (28, .int .u8 (a : Int)), (29, .int .i64 (a : Int)), (30, .int .i64 (a1 : Int)), (31, .string (strOf s)), (32, .int .i64 (t : Int)), (33, .int .i64 (t1 : Int)), (34, .int .u8 (b : Int)), (35, .int .i64 (b : Int)), (36, .int .i64 (m : Int))] [] rfl (by kernel_rfl) (by kernel_rfl) (by kernel_rfl) (by kernel_rfl) (by kernel_rfl) (by kernel_rfl) (by kernel_rfl) (by kernel_rfl) ?hst (Below.refl _ _) (fun hA => ⟨.inl (.inl (ow_val hA (wants_none rfl) 26 (.string (strOf s)) (by kernel_rfl) rfl rfl rfl rfl (by kernel_rfl) (fun w => by kernel_rfl))), .inl (.inl (ow_val hA (wants_none rfl) 27 (.int .i64 (t : Int)) (by kernel_rfl) rfl rfl rfl rfl (by kernel_rfl) (fun w => by kernel_rfl))), .inl (.inl (ow_val hA (wants_none rfl) 28 (.int .u8 (a : Int)) (by kernel_rfl) rfl rfl rfl rfl (by kernel_rfl) (fun w => run_sidx (i := t) rfl (by kernel_rfl) (by kernel_rfl) YS.out G0.out w))), .inl (.inl (ow_val hA (wants_none rfl) 29 (.int .i64 (a : Int)) (by kernel_rfl) rfl rfl rfl rfl (by kernel_rfl) (fun w => run_conv83 rfl (by kernel_rfl) ha8 w))), .inl (.inl (ow_val hA (wants_none rfl) 30 (.int .i64 (a1 : Int)) (by kernel_rfl) rfl rfl rfl rfl (by kernel_rfl) (fun w => run_mulC 256 rfl (by kernel_rfl) KA1.out ba w))), .inl (.inl (ow_val hA (wants_none rfl) 31 (.string (strOf s)) (by kernel_rfl) rfl rfl rfl rfl (by kernel_rfl) (fun w => by kernel_rfl))), .inl (.inl (ow_val hA (wants_none rfl) 32 (.int .i64 (t : Int)) (by kernel_rfl) rfl rfl rfl rfl (by kernel_rfl) (fun w => by kernel_rfl))), .inl (.inl (ow_val hA (wants_none rfl) 33 (.int .i64 (t1 : Int)) (by kernel_rfl) rfl rfl rfl rfl (by kernel_rfl) (fun w => run_addZ 1 rfl (by kernel_rfl) KT1.out bt1 w))), .inl (.inl (ow_val hA (wants_none rfl) 34 (.int .u8 (b : Int)) (by kernel_rfl) rfl rfl rfl rfl (by kernel_rfl) (fun w => run_sidx (i := t1) rfl (by kernel_rfl) (by kernel_rfl) YS.out G1.out w))), .inl (.inl (ow_val hA (wants_none rfl) 35 (.int .i64 (b : Int)) (by kernel_rfl) rfl rfl rfl rfl (by kernel_rfl) (fun w => run_conv83 rfl (by kernel_rfl) hb8 w))), .inl (.inl (ow_val hA (wants_none rfl) 36 (.int .i64 (m : Int)) (by kernel_rfl) rfl rfl rfl rfl (by kernel_rfl) (fun w => run_nadd rfl (by kernel_rfl) (by kernel_rfl) KMM.out bm w))), trivial⟩) ?_
          case hst => intro q hq; cases hq
          intro fv w5 hf hb5
          clear hf
          simp only [putR, List.foldl_cons, List.foldl_nil, List.map_cons, List.map_nil, Act.put, List.setIfInBounds_toArray, List.set_cons_succ, List.set_cons_zero]
          go_wp2_with (first | ((with_reducible refine wv_val (d := 42) ?hd ?hw (.int .i64 (m0 : Int)) ?hr ?_); (case hd => rfl); (case hw => kernel_rfl); (case hr => intro w; exact run_slen rfl (by kernel_rfl) KM.out w); simp only [Act.put, List.setIfInBounds_toArray, List.set_cons_succ, List.set_cons_zero]))
          refine bodyPost_ret (v := .tuple #[.int .u8 0, .slice none 0 0, .int .i64 4]) (by simp [results, Try.results17, go_sem]) rfl ?_
          exact spost_none hN (HW.trans (hb5.mono HW.size))
      case inr =>
        have ha8 : a < 256 := YR.out 0 a (by rw [hR]; rfl)
        have hb8 : b < 256 := YR.out 1 b (by rw [hR]; rfl)
        have e1 := hRL.out
        rw [hR] at e1
        simp at e1
        have h2' : ¬ (m0 : Int) < (t : Int) + 2 := by rw [hm3.out, KD.out.2.2]; omega
        have G0 : Kept (s[t]? = some a) := ⟨by have := hdrop.out 0; rw [Nat.add_zero] at this; rw [this, hR]; rfl⟩
        obtain ⟨t1, ht1⟩ : ∃ t1, t1 = t + 1 := ⟨_, rfl⟩
        have G1 : Kept (s[t1]? = some b) := ⟨by rw [ht1, hdrop.out 1, hR]; rfl⟩
        obtain ⟨a1, ha1⟩ : ∃ a1, a1 = 256 * a := ⟨_, rfl⟩
        obtain ⟨m, hm⟩ : ∃ m, m = a1 + b := ⟨_, rfl⟩
        obtain ⟨t2, ht2⟩ : ∃ t2, t2 = t + 2 := ⟨_, rfl⟩
        obtain ⟨te, hte⟩ : ∃ te, te = t2 + m := ⟨_, rfl⟩
        obtain ⟨T, hT⟩ : ∃ T, T = q.take m := ⟨_, rfl⟩
        have KA1 : Kept _ := ⟨ha1⟩
        have KT1 : Kept _ := ⟨ht1⟩
        have KMM : Kept _ := ⟨hm⟩
        have KT2 : Kept _ := ⟨ht2⟩
        have KTE : Kept _ := ⟨hte⟩
        have ba : a1 < 4611686018427387904 := by omega
        have bt1 : t1 < 4611686018427387904 := by omega
        have bt2 : t2 < 4611686018427387904 := by omega
        have bm : m < 4611686018427387904 := by omega
        have bte : te < 4611686018427387904 := by omega
        have e2 := hm3.out
        have e3 := KD.out.2.2
        have hmq : m ≤ q.length := by omega
        have h4 : ¬ (m0 : Int) < (te : Int) := by omega
        have hte0 : te ≤ s.length := by rw [← KM.out]; omega
        have ht2te : t2 ≤ te := by omega
        have hdr : s.drop t = rest := by
          rw [ES.out, e3, show (itemsL done).length + 3 = ((itemsL done).length) + 3 from rfl]
          show r.drop (itemsL done).length = rest
          rw [KD.out.2.1]
          simp
        have CT : Kept (T = (s.take te).drop t2) := ⟨by
          rw [List.drop_take, show te - t2 = m by omega, ht2, ← List.drop_drop, hdr, hR, hT]
          rfl⟩
        have hRS : r = itemsL (done ++ [T]) ++ q.drop m := by
          have g0 : rest[0]? = some a := by rw [hR]; rfl
          have g1 : rest[1]? = some b := by rw [hR]; rfl
          have := cut_step (done := done) (rest := rest) (n := m) g0 g1 hb8 (by omega) (by rw [hR]; simp; omega)
          rw [KD.out.2.1, this, hT, hR]
          simp
        have hTl : T.length = m := by rw [hT, List.length_take]; omega
        have KN : Kept ((done ++ [T]).length = i + 1 ∧ r = itemsL (done ++ [T]) ++ q.drop m ∧ te = (itemsL (done ++ [T])).length + 3) := ⟨by
          refine ⟨by rw [List.length_append, KD.out.1]; rfl, hRS, ?_⟩
          rw [itemsL_snoc, List.length_append, itemL_len, hTl]
          omega⟩
        have one_T : Kept (∀ x ∈ [Value.string (strOf T)], x.oneCell' = true) := ⟨fun x hx => by simp at hx; subst hx; rfl⟩
        have len_T : Kept ((strs done).length + [Value.string (strOf T)].length ≤ 1099511627776) := ⟨by rw [strs_len, KD.out.1]; simp; omega⟩
        have lit : Kept (∀ w5 : World, ValsV (.slice (some ⟨w5.heap.size, 0, none⟩) 1 1) (w5.alloc (.cells #[.string (strOf T)] 9)) [.string (strOf T)]) := ⟨fun w5 => vrow_vals (vrow_lit (base := 0) w5 #[.string (strOf T)] 1 rfl (Nat.zero_le _) (by decide))⟩
        clear ha1 ht1 hm ht2 hte hT hR hab e1 e2 e3 hmq hdr hRS hTl
        go_wp2_with (first | ((with_reducible refine wv_val (d := 16) ?hd ?hw (.int .u8 (n : Int)) ?hr ?_); (case hd => rfl); (case hw => kernel_rfl); (case hr => intro w; exact run_sidx (i := 2) rfl (by kernel_rfl) rfl YS.out GN.out w); simp only [Act.put, List.setIfInBounds_toArray, List.set_cons_succ, List.set_cons_zero]) | ((with_reducible refine wv_val (d := 17) ?hd ?hw (.int .i64 (n : Int)) ?hr ?_); (case hd => rfl); (case hw => kernel_rfl); (case hr => intro w; exact run_conv83 rfl (by kernel_rfl) hn8 w); simp only [Act.put, List.setIfInBounds_toArray, List.set_cons_succ, List.set_cons_zero]) | ((with_reducible refine wv_val (d := 24) ?hd ?hw (.int .i64 (m0 : Int)) ?hr ?_); (case hd => rfl); (case hw => kernel_rfl); (case hr => intro w; exact run_slen rfl (by kernel_rfl) KM.out w); simp only [Act.put, List.setIfInBounds_toArray, List.set_cons_succ, List.set_cons_zero]))
        refine region_skipM wz 11 [(26, .string (strOf s)), (27, .int .i64 (t : Int)), (28, .int .u8 (a : Int)), (29, .int .i64 (a : Int)), (30, .int .i64 (a1 : Int)), (31, .string (strOf s)), (32, .int .i64 (t : Int)), (33, .int .i64 (t1 : Int)), (34, .int .u8 (b : Int)), (35, .int .i64 (b : Int)), (36, .int .i64 (m : Int))] [] rfl (by kernel_rfl) (by kernel_rfl) (by kernel_rfl) (by kernel_rfl) (by kernel_rfl) (by kernel_rfl) (by kernel_rfl) (by kernel_rfl) ?hst (Below.refl _ _) (fun hA => ⟨.inl (.inl (ow_val hA (wants_none rfl) 26 (.string (strOf s)) (by kernel_rfl) rfl rfl rfl rfl (by kernel_rfl) (fun w => by kernel_rfl))), .inl (.inl (ow_val hA (wants_none rfl) 27 (.int .i64 (t : Int)) (by kernel_rfl) rfl rfl rfl rfl (by kernel_rfl) (fun w => by kernel_rfl))), .inl (.inl (ow_val hA (wants_none rfl) 28 (.int .u8 (a : Int)) (by kernel_rfl) rfl rfl rfl rfl (by kernel_rfl) (fun w => run_sidx (i := t) rfl (by kernel_rfl) (by kernel_rfl) YS.out G0.out w))), .inl (.inl (ow_val hA (wants_none rfl) 29 (.int .i64 (a : Int)) (by kernel_rfl) rfl rfl rfl rfl (by kernel_rfl) (fun w => run_conv83 rfl (by kernel_rfl) ha8 w))), .inl (.inl (ow_val hA (wants_none rfl) 30 (.int .i64 (a1 : Int)) (by kernel_rfl) rfl rfl rfl rfl (by kernel_rfl) (fun w => run_mulC 256 rfl (by kernel_rfl) KA1.out ba w))), .inl (.inl (ow_val hA (wants_none rfl) 31 (.string (strOf s)) (by kernel_rfl) rfl rfl rfl rfl (by kernel_rfl) (fun w => by kernel_rfl))), .inl (.inl (ow_val hA (wants_none rfl) 32 (.int .i64 (t : Int)) (by kernel_rfl) rfl rfl rfl rfl (by kernel_rfl) (fun w => by kernel_rfl))), .inl (.inl (ow_val hA (wants_none rfl) 33 (.int .i64 (t1 : Int)) (by kernel_rfl) rfl rfl rfl rfl (by kernel_rfl) (fun w => run_addZ 1 rfl (by kernel_rfl) KT1.out bt1 w))), .inl (.inl (ow_val hA (wants_none rfl) 34 (.int .u8 (b : Int)) (by kernel_rfl) rfl rfl rfl rfl (by kernel_rfl) (fun w => run_sidx (i := t1) rfl (by kernel_rfl) (by kernel_rfl) YS.out G1.out w))), .inl (.inl (ow_val hA (wants_none rfl) 35 (.int .i64 (b : Int)) (by kernel_rfl) rfl rfl rfl rfl (by kernel_rfl) (fun w => run_conv83 rfl (by kernel_rfl) hb8 w))), .inl (.inl (ow_val hA (wants_none rfl) 36 (.int .i64 (m : Int)) (by kernel_rfl) rfl rfl rfl rfl (by kernel_rfl) (fun w => run_nadd rfl (by kernel_rfl) (by kernel_rfl) KMM.out bm w))), trivial⟩) ?_
        case hst => intro q hq; cases hq
        intro fv w5 hf hb5
        clear hf
        simp only [putR, List.foldl_cons, List.foldl_nil, List.map_cons, List.map_nil, Act.put, List.setIfInBounds_toArray, List.set_cons_succ, List.set_cons_zero]
        have HR5 := HR.under hb5
        have HW5 := HW.trans (hb5.mono HW.size)
        go_wp2_with (first | ((with_reducible refine wv_val (d := 38) ?hd ?hw (.int .i64 (t2 : Int)) ?hr ?_); (case hd => rfl); (case hw => kernel_rfl); (case hr => intro w; exact run_addZ 2 rfl (by kernel_rfl) KT2.out bt2 w); simp only [Act.put, List.setIfInBounds_toArray, List.set_cons_succ, List.set_cons_zero]) | ((with_reducible refine wv_val (d := 40) ?hd ?hw (.int .i64 (te : Int)) ?hr ?_); (case hd => rfl); (case hw => kernel_rfl); (case hr => intro w; exact run_nadd rfl (by kernel_rfl) (by kernel_rfl) KTE.out bte w); simp only [Act.put, List.setIfInBounds_toArray, List.set_cons_succ, List.set_cons_zero]) | ((with_reducible refine wv_val (d := 42) ?hd ?hw (.int .i64 (m0 : Int)) ?hr ?_); (case hd => rfl); (case hw => kernel_rfl); (case hr => intro w; exact run_slen rfl (by kernel_rfl) KM.out w); simp only [Act.put, List.setIfInBounds_toArray, List.set_cons_succ, List.set_cons_zero]) | ((with_reducible refine wv_val (d := 47) ?hd ?hw (.int .i64 (t2 : Int)) ?hr ?_); (case hd => rfl); (case hw => kernel_rfl); (case hr => intro w; exact run_addZ 2 rfl (by kernel_rfl) KT2.out bt2 w); simp only [Act.put, List.setIfInBounds_toArray, List.set_cons_succ, List.set_cons_zero]) | ((with_reducible refine wv_val (d := 49) ?hd ?hw (.int .i64 (t2 : Int)) ?hr ?_); (case hd => rfl); (case hw => kernel_rfl); (case hr => intro w; exact run_addZ 2 rfl (by kernel_rfl) KT2.out bt2 w); simp only [Act.put, List.setIfInBounds_toArray, List.set_cons_succ, List.set_cons_zero]) | ((with_reducible refine wv_val (d := 51) ?hd ?hw (.int .i64 (te : Int)) ?hr ?_); (case hd => rfl); (case hw => kernel_rfl); (case hr => intro w; exact run_nadd rfl (by kernel_rfl) (by kernel_rfl) KTE.out bte w); simp only [Act.put, List.setIfInBounds_toArray, List.set_cons_succ, List.set_cons_zero]) | ((with_reducible refine wv_val (d := 52) ?hd ?hw (.string (strOf T)) ?hr ?_); (case hd => rfl); (case hw => kernel_rfl); (case hr => intro w; exact run_scut rfl (by kernel_rfl) (by kernel_rfl) (by kernel_rfl) ht2te hte0 CT.out w); simp only [Act.put, List.setIfInBounds_toArray, List.set_cons_succ, List.set_cons_zero]) | (refine wl_appV rfl (.tmp 44) (.tmp 53) 22 9 (.string .empty) 16 rfl Try.underlying22 inf_str rfl (by decide) w.heap.size (strs done) [.string (strOf T)] _ _ rfl rfl (HR5.alloc _) (lit.out w5) one_T.out len_T.out (by have := HW5.size; simp; omega) ?_))
        intro v' w6 r6 g6 _
        have HW6 := HW5.trans (grown_mono ((gb_under ((Below.refl _ _).alloc (Nat.le_refl _) (.cells #[.string (strOf T)] 9)) _ |> fun h => gb_trans h g6)) HW5.size (fun b hb => (HR5.range b hb).1))
        have HR6 : VRow w.heap.size 9 (strs (done ++ [T])) v' w6 := by rw [strs_append]; exact r6
        clear HR HR5 r6 g6 lit one_T len_T CT
        go_wp2_with (first | ((with_reducible refine wv_val (d := 56) ?hd ?hw (.int .i64 (t2 : Int)) ?hr ?_); (case hd => rfl); (case hw => kernel_rfl); (case hr => intro w; exact run_addZ 2 rfl (by kernel_rfl) KT2.out bt2 w); simp only [Act.put, List.setIfInBounds_toArray, List.set_cons_succ, List.set_cons_zero]) | ((with_reducible refine wv_val (d := 58) ?hd ?hw (.int .i64 (te : Int)) ?hr ?_); (case hd => rfl); (case hw => kernel_rfl); (case hr => intro w; exact run_nadd rfl (by kernel_rfl) (by kernel_rfl) KTE.out bte w); simp only [Act.put, List.setIfInBounds_toArray, List.set_cons_succ, List.set_cons_zero]))
        go_roundg (gk - 1)
        case measure => omega
        case rel => exact ⟨i + 1, te, done ++ [T], q.drop m, v', by omega, by simp, rfl, rfl, KN, HR6, HW6⟩
    case pos =>
      obtain rfl : n = i := by omega
      have hSE := split_end YS0.out KD.out.2.1 KD.out.1
      rw [← ES.out] at hSE
      have hlen : ∀ l ∈ done, Bytes l ∧ l.length ≤ maxLen := fun l hl => by
        refine ⟨?_, ?_⟩
        · have hy : Bytes (itemsL done) := fun j z hz => YR3.out j z (by rw [KD.out.2.1, List.getElem?_append_left (List.getElem?_eq_some_iff.1 hz).1]; exact hz)
          exact (cutL_some (cutL_items done) hy).2.2 l hl
        · have := item_in hl
          have := hRL.out
          unfold maxLen
          omega
      have CJ := rJoinD (w := wz) hk8 (vrow_vals HR) hlen
      obtain ⟨J, hJ⟩ : ∃ J, J = joinS k done := ⟨_, rfl⟩
      obtain ⟨E, hE⟩ : ∃ J, J = joinE done := ⟨_, rfl⟩
      rw [← hJ, ← hE] at CJ
      have KH : Kept _ := ⟨HR⟩
      by_cases hF : Fits done
      case neg =>
        have hN : splitL s = none := by rw [hSE, if_neg (fun h => hF h.2.2)]
        have hE3 : E = 3 := by rw [hE, joinE_not hF]
        subst hE3
        clear hE hJ hSE hF HR
        go_wp2_with (first | ((with_reducible refine wv_val (d := 16) ?hd ?hw (.int .u8 (n : Int)) ?hr ?_); (case hd => rfl); (case hw => kernel_rfl); (case hr => intro w; exact run_sidx (i := 2) rfl (by kernel_rfl) rfl YS.out GN.out w); simp only [Act.put, List.setIfInBounds_toArray, List.set_cons_succ, List.set_cons_zero]) | ((with_reducible refine wv_val (d := 17) ?hd ?hw (.int .i64 (n : Int)) ?hr ?_); (case hd => rfl); (case hw => kernel_rfl); (case hr => intro w; exact run_conv83 rfl (by kernel_rfl) hn8 w); simp only [Act.put, List.setIfInBounds_toArray, List.set_cons_succ, List.set_cons_zero]) | ((with_reducible refine wv_val (d := 61) ?hd ?hw (.int .u8 (k : Int)) ?hr ?_); (case hd => rfl); (case hw => kernel_rfl); (case hr => intro w; exact run_sidx (i := 1) rfl (by kernel_rfl) rfl YS.out GK.out w); simp only [Act.put, List.setIfInBounds_toArray, List.set_cons_succ, List.set_cons_zero]))
        refine CJ.mono ?_
        rintro e w5 ⟨rfl, hb5⟩
        go_wp2_with fail
        refine bodyPost_ret (v := .tuple #[.int .u8 0, .slice none 0 0, .int .i64 4]) (by simp [results, Try.results17, go_sem]) rfl ?_
        exact spost_none hN (HW.trans (hb5.mono HW.size))
      case pos =>
        have hE0 : E = 0 := by rw [hE, joinE_fits hF]
        subst hE0
        have hJ2 : J = joinL k done := by rw [hJ, joinS_fits hF]
        have YJ : Kept (Bytes J) := ⟨by rw [hJ2]; exact joinL_bytes hk8 (fun l hl => (hlen l hl).1) hF⟩
        have hiff : J = s ↔ (x = 1 ∧ rest = []) := by
          rw [hJ2, ES.out]
          unfold joinL
          rw [KD.out.1]
          constructor
          · intro h
            simp only [List.cons.injEq, true_and] at h
            refine ⟨h.1.symm, ?_⟩
            have h5 := congrArg List.length h.2
            have h6 := hRL.out
            rw [h.2] at h6
            exact List.eq_nil_of_length_eq_zero (by omega)
          · rintro ⟨h1, h2⟩
            rw [h1, KD.out.2.1, h2, List.append_nil]
        by_cases hJs : J = s
        case neg =>
          have hN : splitL s = none := by rw [hSE, if_neg (fun h => hJs (hiff.2 ⟨h.1, h.2.1⟩))]
          have K3 : Kept (true = !decide (J = s)) := ⟨by rw [decide_eq_false hJs]; rfl⟩
          clear hE hJ hSE hF HR hJ2 hiff hJs
          go_wp2_with (first | ((with_reducible refine wv_val (d := 16) ?hd ?hw (.int .u8 (n : Int)) ?hr ?_); (case hd => rfl); (case hw => kernel_rfl); (case hr => intro w; exact run_sidx (i := 2) rfl (by kernel_rfl) rfl YS.out GN.out w); simp only [Act.put, List.setIfInBounds_toArray, List.set_cons_succ, List.set_cons_zero]) | ((with_reducible refine wv_val (d := 17) ?hd ?hw (.int .i64 (n : Int)) ?hr ?_); (case hd => rfl); (case hw => kernel_rfl); (case hr => intro w; exact run_conv83 rfl (by kernel_rfl) hn8 w); simp only [Act.put, List.setIfInBounds_toArray, List.set_cons_succ, List.set_cons_zero]) | ((with_reducible refine wv_val (d := 61) ?hd ?hw (.int .u8 (k : Int)) ?hr ?_); (case hd => rfl); (case hw => kernel_rfl); (case hr => intro w; exact run_sidx (i := 1) rfl (by kernel_rfl) rfl YS.out GK.out w); simp only [Act.put, List.setIfInBounds_toArray, List.set_cons_succ, List.set_cons_zero]))
          refine CJ.mono ?_
          rintro e w5 ⟨rfl, hb5⟩
          go_wp2_with (first | ((with_reducible refine wv_val (d := 71) ?hd ?hw (.bool true) ?hr ?_); (case hd => rfl); (case hw => kernel_rfl); (case hr => intro w; exact run_sneq rfl (by kernel_rfl) (by kernel_rfl) YJ.out YS.out K3.out w); simp only [Act.put, List.setIfInBounds_toArray, List.set_cons_succ, List.set_cons_zero]))
          refine bodyPost_ret (v := .tuple #[.int .u8 0, .slice none 0 0, .int .i64 4]) (by simp [results, Try.results17, go_sem]) rfl ?_
          exact spost_none hN (HW.trans (hb5.mono HW.size))
        case pos =>
          have hN : splitL s = some (k, done) := by rw [hSE, if_pos ⟨(hiff.1 hJs).1, (hiff.1 hJs).2, hF⟩]
          have KNN : Kept _ := ⟨hN⟩
          have K3 : Kept (false = !decide (J = s)) := ⟨by rw [decide_eq_true hJs]; rfl⟩
          clear hE hJ hSE hF HR hJ2 hiff hJs hN
          go_wp2_with (first | ((with_reducible refine wv_val (d := 16) ?hd ?hw (.int .u8 (n : Int)) ?hr ?_); (case hd => rfl); (case hw => kernel_rfl); (case hr => intro w; exact run_sidx (i := 2) rfl (by kernel_rfl) rfl YS.out GN.out w); simp only [Act.put, List.setIfInBounds_toArray, List.set_cons_succ, List.set_cons_zero]) | ((with_reducible refine wv_val (d := 17) ?hd ?hw (.int .i64 (n : Int)) ?hr ?_); (case hd => rfl); (case hw => kernel_rfl); (case hr => intro w; exact run_conv83 rfl (by kernel_rfl) hn8 w); simp only [Act.put, List.setIfInBounds_toArray, List.set_cons_succ, List.set_cons_zero]) | ((with_reducible refine wv_val (d := 61) ?hd ?hw (.int .u8 (k : Int)) ?hr ?_); (case hd => rfl); (case hw => kernel_rfl); (case hr => intro w; exact run_sidx (i := 1) rfl (by kernel_rfl) rfl YS.out GK.out w); simp only [Act.put, List.setIfInBounds_toArray, List.set_cons_succ, List.set_cons_zero]))
          refine CJ.mono ?_
          rintro e w5 ⟨rfl, hb5⟩
          go_wp2_with (first | ((with_reducible refine wv_val (d := 71) ?hd ?hw (.bool false) ?hr ?_); (case hd => rfl); (case hw => kernel_rfl); (case hr => intro w; exact run_sneq rfl (by kernel_rfl) (by kernel_rfl) YJ.out YS.out K3.out w); simp only [Act.put, List.setIfInBounds_toArray, List.set_cons_succ, List.set_cons_zero]) | ((with_reducible refine wv_val (d := 74) ?hd ?hw (.int .u8 (k : Int)) ?hr ?_); (case hd => rfl); (case hw => kernel_rfl); (case hr => intro w; exact run_sidx (i := 1) rfl (by kernel_rfl) rfl YS.out GK.out w); simp only [Act.put, List.setIfInBounds_toArray, List.set_cons_succ, List.set_cons_zero]))
          refine bodyPost_ret (v := .tuple #[.int .u8 (k : Int), v, .int .i64 0]) (by simp [results, Try.results17, go_sem]) rfl ?_
          exact spost_some KNN.out (KH.out.under hb5) (HW.trans (hb5.mono HW.size))
theorem rSplitD {s : List Nat} {w : World} (hs : Bytes s) (hL : s.length ≤ 40000) :
    Calls Try.prog 17 #[.string (strOf s)] w fun e w' => SPost s w e w' := by
  by_cases h : s.length < 3
  · exact rSplit_short h
  · obtain ⟨x, k, n, r, rfl⟩ := three_of h
    exact rSplit_long hs (by simp at hL; omega)
end Go.Proofs.Ytfkpbmkhkhnehaa.sh
