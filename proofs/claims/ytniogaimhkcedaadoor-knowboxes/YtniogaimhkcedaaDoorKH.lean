/-
  Places of names: placesOf, within.
-/
import Derived.Test.YtniogaimhkcedaaDoorKF
namespace Go.Proofs.YtniogaimhkcedaaDoor.sh
open Go Go.RowKit Go.Maps
set_option linter.unusedVariables false
set_option linter.unusedSimpArgs false

theorem run_mkMapH {t k e : TypeId} (ht : Tryd.prog.underlying t = some (.map k e)) (n : Int) (w : World) : (Instr.makeMap t (some (.int .i64 n))).run Tryd.prog w = .ok (.map (some w.heap.size)) (w.alloc (.map #[] 0)) := by
  unfold Instr.makeMap
  simp [run_underlying ht, asInt, go_sem]
  try rfl
theorem plc_row (w : World) : MapI (plcR 0) w.heap.size 0 (w.alloc (.map #[] 0)) := World.ownsMap_made w _ _ _
set_option maxRecDepth 100000 in
set_option maxHeartbeats 2000000 in
theorem placesOfD {N : Nat} {V : Value} {w : World} (hV : ValsV V w (strs (namesL N))) (hN : N < 1000000) :
    Calls Tryd.prog 28 #[V] w fun e w' => (∃ mb, e = .returned (.map (some mb)) ∧ w.heap.size ≤ mb ∧ MapI (plcR N) mb N w') ∧ Below w.heap.size w w' := by
  obtain ⟨p, c, rfl, hc⟩ := vals_form hV (show (strs (namesL N)).length = N by rw [strs_len, namesL_len])
  have hmm := fun n w => run_mkMapH Tryd.underlying60 n w
  obtain ⟨H, hH⟩ : ∃ H, H = w.heap.size := ⟨_, rfl⟩
  have KH : Kept _ := ⟨hH⟩
  have KV : Kept _ := ⟨hV⟩
  rw [← hH]
  have hb0 : Kept (MapI (plcR 0) H 0 (w.alloc (.map #[] 0))) := ⟨by rw [hH]; exact plc_row w⟩
  have hq0 : Kept (Below H w (w.alloc (.map #[] 0))) := ⟨by rw [hH]; exact (Below.refl _ _).alloc (Nat.le_refl _) _⟩
  have fin : ∀ w2, w2 = w.alloc (.map #[] 0) → MapI (plcR 0) H 0 w2 ∧ Below H w w2 := fun w2 h => by subst h; exact ⟨hb0.out, hq0.out⟩
  have KF : Kept _ := ⟨fin⟩
  clear hV hH fin
  go_enter Tryd.func28, Tryd.ntmps28
  go_wp2_with fail
  rw [← KH.out]
  go_loopg [11] N (fun g s11 wr => ∃ i : Nat, i + g = N ∧ s11 = .int .i64 (i : Int) ∧ MapI (plcR i) H i wr ∧ Below H w wr)
  case atStart => exact ⟨0, by omega, rfl, KF.out _ rfl⟩
  case round =>
    rename World => wz
    obtain ⟨i, hik, rfl, hbi, hqi⟩ := hrel
    by_cases hk0 : gk = 0
    · obtain rfl : N = i := by omega
      go_wp2_with fail
      go_ret
      exact ⟨⟨_, rfl, Nat.le_refl _, hbi⟩, hqi⟩
    · have hin : i < N := by omega
      have hin' : (i : Int) < (N : Int) := by omega
      have hi1 : (i : Int) + 1 ≤ 9223372036854775807 := by omega
      have hx : (strs (namesL N))[i]? = some (.string (strOf (termN (i + 1)))) := strs_get (namesL_get hin)
      have hqw : Below w.heap.size w wz := by rw [← KH.out]; exact hqi
      obtain ⟨A, rfl, hA, hcell⟩ := vals_at (KV.out.under hqw) hx
      have KC : Kept _ := ⟨hcell⟩
      have KB : Kept _ := ⟨hbi⟩
      have KQ : Kept _ := ⟨hqi⟩
      obtain ⟨T, hT⟩ : ∃ T, T = termN (i + 1) := ⟨_, rfl⟩
      rw [← hT] at KC
      have KT : Kept _ := ⟨hT⟩
      have hTl : Kept (T.length ≤ maxLen) := ⟨by rw [hT]; exact termN_max _⟩
      have hi6 : i < 1000001 := by omega
      clear hx hcell hbi hqi hqw hT
      go_wp2_with (first | ((with_reducible refine wv_val (d := 14) ?hd ?hw (.pointer (some (A.add i))) ?hr ?_); (case hd => rfl); (case hw => kernel_rfl); (case hr => intro w; exact run_idxS (c := c) rfl (by kernel_rfl) (by kernel_rfl) Tryd.underlying29 hin Tryd.sizeOf9 w); simp only [Act.put, List.setIfInBounds_toArray, List.set_cons_succ, List.set_cons_zero]) | ((with_reducible refine wv_elem (d := 15) ?hd ?hw 9 ag_str (.tmp 14) ?ho (A.add i) ?hx (.string (strOf T)) ?hc ?_); (case hd => rfl); (case hw => kernel_rfl); (case ho => rfl); (case hx => kernel_rfl); (case hc => exact KC.out); simp only [Act.put, List.setIfInBounds_toArray, List.set_cons_succ, List.set_cons_zero]) | (at_mapUpdate; (refine wl_updP rfl (.tmp 16) (.tmp 17) (.tmp 18) rfl H _ _ (by kernel_rfl) KB.out hi6 T (by kernel_rfl) hTl.out i (by kernel_rfl) hi6 ?_); intro w4 ho4 hg4 hs4; simp only [Act.put, List.setIfInBounds_toArray, List.set_cons_succ, List.set_cons_zero]))
      go_roundg (gk - 1)
      case measure => omega
      case rel =>
        refine ⟨i + 1, by omega, by simp, ?_, ?_⟩
        · rw [KT.out] at ho4
          exact ho4
        · exact grown_mono hg4 (by have := KB.out.lt; omega) (fun b hb => by cases hb; exact Nat.le_refl _) |> KQ.out.trans
/-- What within answers: the places of all terms that the texts tell, in a row of its own. -/
def WithinE (ts : List TermL) (ll : List (List Nat)) (w : World) (e : Ending) (w' : World) : Prop := ∃ V ns, e = .returned V ∧ Row w.heap.size 3 .i64 ns V w' ∧ (∀ n, n ∈ ns ↔ TodoL ts ll n) ∧ ns.length ≤ weight ll
theorem todo_nil {ts : List TermL} {n : Nat} : ¬ TodoL ts [] n := fun ⟨s, hs, _⟩ => by cases hs
theorem todo_snoc {ts : List TermL} {ll : List (List Nat)} {s : List Nat} {n : Nat} : TodoL ts (ll ++ [s]) n ↔ TodoL ts ll n ∨ Leaf ts s n := by
  unfold TodoL
  constructor
  · rintro ⟨x, hx, hl⟩
    rcases List.mem_append.1 hx with hx | hx
    · exact .inl ⟨x, hx, hl⟩
    · rw [List.mem_singleton] at hx; subst hx; exact .inr hl
  · rintro (⟨x, hx, hl⟩ | hl)
    · exact ⟨x, List.mem_append_left _ hx, hl⟩
    · exact ⟨s, by simp, hl⟩
theorem weight_take {ll : List (List Nat)} {i : Nat} {s : List Nat} (h : ll[i]? = some s) : weight (ll.take (i + 1)) = weight (ll.take i) + (s.length + 1) := by
  rw [List.take_add_one, h, Option.toList_some, weight_append, weight_cons, weight_nil]
theorem weight_le (ll : List (List Nat)) (i : Nat) : weight (ll.take i) ≤ weight ll := by
  have := weight_append (ll.take i) (ll.drop i)
  rw [List.take_append_drop] at this
  omega
theorem weight_mem {ll : List (List Nat)} {s : List Nat} (h : s ∈ ll) : s.length + 1 ≤ weight ll := by
  induction ll with
  | nil => cases h
  | cons x l ih =>
    rw [weight_cons]
    rcases List.mem_cons.1 h with rfl | h
    · omega
    · have := ih h; omega

set_option maxRecDepth 100000 in
set_option maxHeartbeats 4000000 in
theorem within_ind {ts : List TermL} (hts : ts.length < 1000000) : ∀ (m : Nat) (ll : List (List Nat)) (V : Value) (mb : Nat) (w : World), weight ll ≤ m → m ≤ 1000000 → (∀ l ∈ ll, Bytes l) → ValsV V w (strs ll) → MapI (plcR ts.length) mb ts.length w →
    Calls Tryd.prog 31 #[.map (some mb), V] w fun e w' => WithinE ts ll w e w' ∧ Below w.heap.size w w' := by
  intro m
  induction m with
  | zero =>
    intro ll V mb w hm hm2 hy hV hP
    have h0 : ll = [] := by
      cases ll with
      | nil => rfl
      | cons x l => rw [weight_cons] at hm; omega
    subst h0
    obtain ⟨p, c, rfl, hc⟩ := vals_form hV (show (strs []).length = 0 from rfl)
    have KF : Kept (WithinE ts [] w (.returned (.slice none 0 0)) w) := ⟨⟨_, [], rfl, row_nil _ _ _ _, fun n => ⟨fun h => (by cases h), fun h => absurd h todo_nil⟩, Nat.zero_le _⟩⟩
    clear hV hP hy hts
    go_enter Tryd.func31, Tryd.ntmps31
    go_wp2_with fail
    go_loopg [5, 15] 1 (fun g s5 s15 wr => g = 1 ∧ s5 = .slice none 0 0 ∧ s15 = .int .i64 0 ∧ wr = w)
    case atStart => exact ⟨rfl, rfl, rfl, rfl⟩
    case round =>
      obtain ⟨_, rfl, rfl, rfl⟩ := hrel
      go_wp2_with fail
      go_ret
      exact ⟨KF.out, Below.refl _ _⟩
  | succ m ih =>
    intro ll V mb w hm hm2 hy hV hP
    obtain ⟨n, hn⟩ : ∃ n, n = ll.length := ⟨_, rfl⟩
    obtain ⟨p, c, rfl, hc⟩ := vals_form hV (show (strs ll).length = n by rw [strs_len, hn])
    have hnw : n ≤ 1000000 := by have := len_weight ll; omega
    have KI : Kept _ := ⟨ih⟩
    have KV : Kept _ := ⟨hV⟩
    have KP : Kept _ := ⟨hP⟩
    have KY : Kept (∀ l ∈ ll, Bytes l) := ⟨hy⟩
    have KM : Kept (weight ll ≤ m + 1) := ⟨hm⟩
    have Kn : Kept _ := ⟨hn⟩
    obtain ⟨H, hH⟩ : ∃ H, H = w.heap.size := ⟨_, rfl⟩
    have KH : Kept _ := ⟨hH⟩
    have KT : Kept _ := ⟨hts⟩
    obtain ⟨N, hN⟩ : ∃ N, N = ts.length := ⟨_, rfl⟩
    have KN : Kept _ := ⟨hN⟩
    clear ih hV hP hy hm hn hH hts hN
    go_enter Tryd.func31, Tryd.ntmps31
    go_wp2_with fail
    go_loopg [5, 15] n (fun g s5 s15 wr => ∃ (i : Nat) (ns : List Nat), i + g = n ∧ s15 = .int .i64 (i : Int) ∧ Row H 3 .i64 ns s5 wr ∧ Kept ((∀ x, x ∈ ns ↔ TodoL ts (ll.take i) x) ∧ ns.length ≤ weight (ll.take i)) ∧ Below H w wr)
    case atStart => exact ⟨0, [], by omega, rfl, row_nil _ _ _ _, ⟨⟨fun x => ⟨fun h => (by cases h), fun h => absurd h todo_nil⟩, Nat.zero_le _⟩⟩, Below.refl _ _⟩
    case round =>
      rename World => wz
      obtain ⟨i, ns, hik, rfl, hr, KS, hb⟩ := hrel
      by_cases hk0 : gk = 0
      · obtain rfl : n = i := by omega
        have et : ll.take n = ll := List.take_of_length_le (by rw [← Kn.out]; exact Nat.le_refl _)
        have KE : Kept _ := ⟨et⟩
        have KR : Kept _ := ⟨hr⟩
        clear et hr
        go_wp2_with fail
        go_ret
        have h1 := KS.out
        rw [KE.out] at h1
        rw [← KH.out]
        exact ⟨⟨_, ns, rfl, by rw [← KH.out]; exact KR.out, h1.1, h1.2⟩, hb⟩
      · have hin : i < n := by omega
        have hin' : (i : Int) < (n : Int) := by omega
        have hi1 : (i : Int) + 1 ≤ 9223372036854775807 := by omega
        obtain ⟨s, hs⟩ : ∃ s, ll[i]? = some s := ⟨_, List.getElem?_eq_getElem (by rw [← Kn.out]; exact hin)⟩
        have hqw : Below w.heap.size w wz := by rw [← KH.out]; exact hb
        obtain ⟨A, rfl, hA, hcell⟩ := vals_at (KV.out.under hqw) (strs_get hs)
        have KC : Kept _ := ⟨hcell⟩
        have KPz : Kept _ := ⟨KP.out.under hqw⟩
        have hsy := KY.out s (List.mem_of_getElem? hs)
        have hsw := weight_mem (List.mem_of_getElem? hs)
        have hsl : Kept (s.length ≤ maxLen) := ⟨by have := KM.out; unfold maxLen; omega⟩
        have Kw : Kept _ := ⟨weight_take hs⟩
        have Kt : Kept (∀ x, TodoL ts (ll.take (i + 1)) x ↔ TodoL ts (ll.take i) x ∨ Leaf ts s x) := ⟨fun x => by rw [List.take_add_one, hs, Option.toList_some]; exact todo_snoc⟩
        have Kle : Kept (weight (ll.take (i + 1)) ≤ weight ll) := ⟨weight_le _ _⟩
        have Kr : Kept _ := ⟨hr⟩
        have KHz : Kept (H ≤ wz.heap.size) := ⟨by have := hb.size; have := hqw.size; rw [KH.out]; exact this⟩
        have hb' : Kept _ := ⟨hb⟩
        by_cases hf : findN ts.length s = 0
        case neg =>
          obtain ⟨x, hx⟩ : ∃ x, findN ts.length s = x + 1 := ⟨findN ts.length s - 1, by omega⟩
          obtain ⟨h1, h2⟩ := plc_has hsy hx
          have K1 : Kept _ := ⟨h1⟩
          have K2 : Kept _ := ⟨h2⟩
          have Kl : Kept (∀ y, Leaf ts s y ↔ y = x) := ⟨fun y => leaf_name hx⟩
          have Kap : Kept (ns.length + [x].length ≤ 8796093022208) := ⟨by have := KS.out.2; have := Kle.out; have := Kw.out; have := KM.out; simp; omega⟩
          have K1x : Kept _ := ⟨one_int x wz⟩
          have Krz : Kept _ := ⟨hr.under ((Below.refl wz.heap.size wz).alloc (Nat.le_refl _) (.cells #[.int .i64 (x : Int)] 3))⟩
          have KHz2 : Kept (H ≤ (wz.alloc (.cells #[.int .i64 (x : Int)] 3)).heap.size) := ⟨by rw [alloc_size]; have := KHz.out; omega⟩
          clear hs hcell hqw hr h1 h2 hx hf hsy
          go_wp2_with (first | ((with_reducible refine wv_val (d := 17) ?hd ?hw (.pointer (some (A.add i))) ?hr ?_); (case hd => rfl); (case hw => kernel_rfl); (case hr => intro w; exact run_idxS (c := c) rfl (by kernel_rfl) (by kernel_rfl) Tryd.underlying29 hin Tryd.sizeOf9 w); simp only [Act.put, List.setIfInBounds_toArray, List.set_cons_succ, List.set_cons_zero]) | ((with_reducible refine wv_elem (d := 18) ?hd ?hw 9 ag_str (.tmp 17) ?ho (A.add i) ?hx (.string (strOf s)) ?hc ?_); (case hd => rfl); (case hw => kernel_rfl); (case ho => rfl); (case hx => kernel_rfl); (case hc => exact KC.out); simp only [Act.put, List.setIfInBounds_toArray, List.set_cons_succ, List.set_cons_zero]) | (at_lookup; refine wl_lookP rfl (.tmp 20) (.tmp 21) rfl mb _ _ (by kernel_rfl) KPz.out s (by kernel_rfl) hsl.out x true K1.out K2.out ?_; simp only [Act.put, List.setIfInBounds_toArray, List.set_cons_succ, List.set_cons_zero]) | (refine wl_bsI rfl (.tmp 27) rfl x (by kernel_rfl) ?_; simp only [Act.put, List.setIfInBounds_toArray, List.set_cons_succ, List.set_cons_zero]) | ((refine wl_app (by kernel_rfl) (.tmp 26) (.tmp 28) 65 3 .i64 8 rfl Tryd.underlying65 inf_int (by decide) H ns [x] _ _ (by kernel_rfl) (by kernel_rfl) Krz.out K1x.out Kap.out KHz2.out ?_); intro v' w' hr' hg' hne'; simp only [Act.put, List.setIfInBounds_toArray, List.set_cons_succ, List.set_cons_zero]))
          go_roundg (gk - 1)
          case measure => omega
          case rel =>
            refine ⟨i + 1, ns ++ [x], by omega, by simp, hr', ⟨⟨fun y => ?_, ?_⟩⟩, ?_⟩
            · rw [List.mem_append, List.mem_singleton, KS.out.1 y, Kt.out y, Kl.out y]
            · rw [List.length_append, List.length_singleton, Kw.out]
              have := KS.out.2
              omega
            · exact (hb'.out.trans (((Below.refl _ _).alloc (Nat.le_refl _) _).mono KHz.out)).trans (grown_mono hg' KHz2.out (fun b hb => (Krz.out.range b hb).1))
        case pos =>
          obtain ⟨h1, h2⟩ := plc_not hsy hf
          have K1 : Kept _ := ⟨h1⟩
          have K2 : Kept _ := ⟨h2⟩
          have CS := fun w1 : World => SplitD (s := s) (w := w1) hsy hsl.out
          have Kf : Kept _ := ⟨hf⟩
          cases hsp : splitL s with
          | none =>
            have Kl : Kept (∀ y, ¬ Leaf ts s y) := ⟨fun y => leaf_none hf hsp⟩
            have e1 : spK s = 0 := by unfold spK; rw [hsp]; rfl
            have e2 : spL s = [] := by unfold spL; rw [hsp]; rfl
            have e3 : spE s = 4 := by unfold spE; rw [hsp]; rfl
            unfold SPost at CS
            rw [e1, e2, e3] at CS
            have KCS : Kept _ := ⟨CS⟩
            have B4 : Kept (false = decide ((4 : Int) = 0)) := ⟨rfl⟩
            clear hs hcell hqw hr h1 h2 hf hsy CS hsp e1 e2 e3
            go_wp2_with (first | ((with_reducible refine wv_val (d := 17) ?hd ?hw (.pointer (some (A.add i))) ?hr ?_); (case hd => rfl); (case hw => kernel_rfl); (case hr => intro w; exact run_idxS (c := c) rfl (by kernel_rfl) (by kernel_rfl) Tryd.underlying29 hin Tryd.sizeOf9 w); simp only [Act.put, List.setIfInBounds_toArray, List.set_cons_succ, List.set_cons_zero]) | ((with_reducible refine wv_elem (d := 18) ?hd ?hw 9 ag_str (.tmp 17) ?ho (A.add i) ?hx (.string (strOf s)) ?hc ?_); (case hd => rfl); (case hw => kernel_rfl); (case ho => rfl); (case hx => kernel_rfl); (case hc => exact KC.out); simp only [Act.put, List.setIfInBounds_toArray, List.set_cons_succ, List.set_cons_zero]) | (at_lookup; refine wl_lookP rfl (.tmp 20) (.tmp 21) rfl mb _ _ (by kernel_rfl) KPz.out s (by kernel_rfl) hsl.out 0 false K1.out K2.out ?_; simp only [Act.put, List.setIfInBounds_toArray, List.set_cons_succ, List.set_cons_zero]))
            refine (KCS.out _).mono ?_
            rintro e w2 ⟨⟨V2, rfl, hV2⟩, q2⟩
            obtain ⟨p2, c2, rfl, _⟩ := vals_form (vrow_vals hV2) (show (strs []).length = 0 from rfl)
            clear hV2
            go_wp2_with fail
            go_roundg (gk - 1)
            case measure => omega
            case rel =>
              refine ⟨i + 1, ns, by omega, by simp, Kr.out.under q2, ⟨⟨fun y => ?_, ?_⟩⟩, hb'.out.trans (q2.mono KHz.out)⟩
              · rw [KS.out.1 y, Kt.out y]
                exact ⟨.inl, fun h => h.resolve_right (Kl.out y)⟩
              · rw [Kw.out]
                have := KS.out.2
                omega
          | some q =>
            obtain ⟨k, mm⟩ := q
            have Kl : Kept (∀ y, Leaf ts s y ↔ TodoL ts mm y) := ⟨fun y => leaf_part hf hsp⟩
            have hws := weight_split hsy hsp
            have hmy := split_bytes hsy hsp
            have Kmy : Kept (∀ l ∈ mm, Bytes l) := ⟨hmy⟩
            have Kwm : Kept (weight mm ≤ m) := ⟨by have := KM.out; omega⟩
            have Kws : Kept _ := ⟨hws⟩
            have e1 : spK s = k := by unfold spK; rw [hsp]; rfl
            have e2 : spL s = mm := by unfold spL; rw [hsp]; rfl
            have e3 : spE s = 0 := by unfold spE; rw [hsp]; rfl
            unfold SPost at CS
            rw [e1, e2, e3] at CS
            have KCS : Kept _ := ⟨CS⟩
            obtain ⟨nm, hnm⟩ : ∃ n, n = mm.length := ⟨_, rfl⟩
            have Knm : Kept _ := ⟨hnm⟩
            have hm3 : m ≤ 1000000 := by omega
            clear hs hcell hqw hr h1 h2 hf hsy CS hsp e1 e2 e3 hws hmy hnm
            go_wp2_with (first | ((with_reducible refine wv_val (d := 17) ?hd ?hw (.pointer (some (A.add i))) ?hr ?_); (case hd => rfl); (case hw => kernel_rfl); (case hr => intro w; exact run_idxS (c := c) rfl (by kernel_rfl) (by kernel_rfl) Tryd.underlying29 hin Tryd.sizeOf9 w); simp only [Act.put, List.setIfInBounds_toArray, List.set_cons_succ, List.set_cons_zero]) | ((with_reducible refine wv_elem (d := 18) ?hd ?hw 9 ag_str (.tmp 17) ?ho (A.add i) ?hx (.string (strOf s)) ?hc ?_); (case hd => rfl); (case hw => kernel_rfl); (case ho => rfl); (case hx => kernel_rfl); (case hc => exact KC.out); simp only [Act.put, List.setIfInBounds_toArray, List.set_cons_succ, List.set_cons_zero]) | (at_lookup; refine wl_lookP rfl (.tmp 20) (.tmp 21) rfl mb _ _ (by kernel_rfl) KPz.out s (by kernel_rfl) hsl.out 0 false K1.out K2.out ?_; simp only [Act.put, List.setIfInBounds_toArray, List.set_cons_succ, List.set_cons_zero]))
            refine (KCS.out _).mono ?_
            rintro e w2 ⟨⟨V2, rfl, hV2⟩, q2⟩
            obtain ⟨p2, c2, rfl, _⟩ := vals_form (vrow_vals hV2) (show (strs mm).length = nm by rw [strs_len, Knm.out])
            have KV2 : Kept _ := ⟨vrow_vals hV2⟩
            have KP2 : Kept _ := ⟨KPz.out.under q2⟩
            clear hV2
            go_wp2_with fail
            refine (KI.out _ _ _ _ Kwm.out hm3 Kmy.out KV2.out KP2.out).mono ?_
            rintro e w3 ⟨⟨V3, ns3, rfl, hr3, hm3', hl3⟩, q3⟩
            have q23 := q2.trans (q3.mono q2.size)
            have Kr3 : Kept _ := ⟨Kr.out.under q23⟩
            have Ki3 : Kept _ := ⟨row_cells hr3⟩
            have Kap : Kept (ns.length + ns3.length ≤ 8796093022208) := ⟨by have := KS.out.2; have := Kle.out; have := Kw.out; have := KM.out; have := Kwm.out; omega⟩
            have KH3 : Kept (H ≤ w3.heap.size) := ⟨Nat.le_trans KHz.out q23.size⟩
            have Kh3 : Kept _ := ⟨hm3'⟩
            have Kl3 : Kept _ := ⟨hl3⟩
            obtain ⟨p3, c3, rfl, _⟩ := ints_form (row_cells hr3) rfl
            clear hr3 hm3' hl3
            go_wp2_with (first | ((refine wl_app (by kernel_rfl) (.tmp 38) (.tmp 41) 65 3 .i64 8 rfl Tryd.underlying65 inf_int (by decide) H ns ns3 _ _ (by kernel_rfl) (by kernel_rfl) Kr3.out Ki3.out Kap.out KH3.out ?_); intro v' w' hr' hg' hne'; simp only [Act.put, List.setIfInBounds_toArray, List.set_cons_succ, List.set_cons_zero]))
            go_roundg (gk - 1)
            case measure => omega
            case rel =>
              refine ⟨i + 1, ns ++ ns3, by omega, by simp, hr', ⟨⟨fun y => ?_, ?_⟩⟩, ?_⟩
              · rw [List.mem_append, KS.out.1 y, Kt.out y, Kl.out y, Kh3.out y]
              · rw [List.length_append, Kw.out]
                have := KS.out.2
                have := Kl3.out
                have := Kws.out
                omega
              · exact (hb'.out.trans (q23.mono KHz.out)).trans (grown_mono hg' KH3.out (fun b hb => (Kr3.out.range b hb).1))
theorem withinD {ts : List TermL} (hts : ts.length < 1000000) {ll : List (List Nat)} {V : Value} {mb : Nat} {w : World} (hw : weight ll ≤ 1000000) (hy : ∀ l ∈ ll, Bytes l) (hV : ValsV V w (strs ll)) (hP : MapI (plcR ts.length) mb ts.length w) :
    Calls Tryd.prog 31 #[.map (some mb), V] w fun e w' => WithinE ts ll w e w' ∧ Below w.heap.size w w' := within_ind hts _ ll V mb w hw (Nat.le_refl _) hy hV hP
end Go.Proofs.YtniogaimhkcedaaDoor.sh
