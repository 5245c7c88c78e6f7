/-
  The reference's Find; slices of terms made; TermRefused.
-/
import Derived.Test.YtfdldpcfdebinaaDoorDM
namespace Go.Proofs.YtfdldpcfdebinaaDoor.sh
open Go Go.RowKit
set_option linter.unusedVariables false
set_option linter.unusedSimpArgs false

set_option maxRecDepth 100000 in
set_option maxHeartbeats 1000000 in
theorem rFindD {p : Option Addr} {n c : Nat} {s : List Nat} {w : World} (hs : Bytes s) (hn : n < 1000000) :
    Calls Tryd.prog 23 #[.slice p n c, .string (strOf s)] w fun e w' => e = .returned (.int .i64 (findN n s : Int)) ∧ Below w.heap.size w w' := by
  obtain ⟨R, hR⟩ : ∃ R, R = findN n s := ⟨_, rfl⟩
  rw [← hR]
  have KR : Kept _ := ⟨hR⟩
  have KS : Kept _ := ⟨hs⟩
  clear hR hs
  go_enter Tryd.func23, Tryd.ntmps23
  go_wp2_with fail
  go_loopg [5] n (fun k s5 wr => ∃ i : Nat, i + k = n + 1 ∧ s5 = .int .i64 (i : Int) ∧ 1 ≤ i ∧ Kept (∀ j, 0 < j → j < i → termN j ≠ s) ∧ Below w.heap.size w wr)
  case atStart => exact ⟨1, by omega, rfl, Nat.le_refl _, ⟨fun j h1 h2 => by omega⟩, Below.refl _ _⟩
  case round =>
    rename World => wz
    obtain ⟨i, hik, rfl, h1, KJ, hb⟩ := hrel
    by_cases hk0 : gk = 0
    · have hin : ¬ (i : Int) ≤ (n : Int) := by omega
      have K0 : Kept (R = 0) := ⟨by rw [KR.out]; exact findN_none fun j h2 h3 => KJ.out j h2 (by omega)⟩
      go_wp2_with fail
      go_ret
      exact ⟨by rw [K0.out]; rfl, hb⟩
    · have hin : (i : Int) ≤ (n : Int) := by omega
      have hi1 : (i : Int) + 1 ≤ 9223372036854775807 := by omega
      have CN := rNameD (n := i) (w := wz) (by omega)
      have YN := termN_bytes i
      by_cases he : termN i = s
      · have KF : Kept (R = i) := ⟨by rw [KR.out, ← he]; exact findN_at n i (by omega) h1 (by omega)⟩
        rw [he] at CN
        have KC : Kept _ := ⟨CN⟩
        have D1 : Kept (true = decide (s = s)) := ⟨(decide_eq_true rfl).symm⟩
        clear he CN YN
        go_wp2_with fail
        refine KC.out.mono ?_
        rintro e w2 ⟨rfl, b2⟩
        go_wp2_with (first | ((with_reducible refine wv_val (d := 15) ?hd ?hw (.bool true) ?hr ?_); (case hd => rfl); (case hw => kernel_rfl); (case hr => intro w; exact run_seq rfl (by kernel_rfl) (by kernel_rfl) KS.out KS.out D1.out w); simp only [Act.put, List.setIfInBounds_toArray, List.set_cons_succ, List.set_cons_zero]))
        go_ret
        exact ⟨by rw [KF.out]; rfl, hb.trans (b2.mono hb.size)⟩
      · have KJ2 : Kept (∀ j, 0 < j → j < i + 1 → termN j ≠ s) := ⟨fun j h2 h3 => by
          by_cases hj : j = i
          · subst hj; exact he
          · exact KJ.out j h2 (by omega)⟩
        obtain ⟨N, hN⟩ : ∃ N, N = termN i := ⟨_, rfl⟩
        rw [← hN] at CN YN he
        have KC : Kept _ := ⟨CN⟩
        have KY : Kept _ := ⟨YN⟩
        have D1 : Kept (false = decide (N = s)) := ⟨(decide_eq_false he).symm⟩
        clear he CN YN hN
        go_wp2_with fail
        refine KC.out.mono ?_
        rintro e w2 ⟨rfl, b2⟩
        go_wp2_with (first | ((with_reducible refine wv_val (d := 15) ?hd ?hw (.bool false) ?hr ?_); (case hd => rfl); (case hw => kernel_rfl); (case hr => intro w; exact run_seq rfl (by kernel_rfl) (by kernel_rfl) KY.out KS.out D1.out w); simp only [Act.put, List.setIfInBounds_toArray, List.set_cons_succ, List.set_cons_zero]))
        go_roundg (gk - 1)
        case measure => omega
        case rel => exact ⟨i + 1, by omega, by simp, by omega, KJ2, hb.trans (b2.mono hb.size)⟩

theorem info_term : (Tryd.prog.info? 41).map (fun i => (i.zero, i.size, i.bytes)) = some (some (.agg #[.int .u8 0, .slice none 0 0]), 2, 32) := by kernel_rfl
theorem wl_mkT {ops : Array Oper} {rest : List Oper} {o : Oper} {a : Act} {w : World} {Q : Exit → Act → World → Prop} (hgd : o.guard = none) (x : Operand) (ho : o.op = .makeSlice 27 x x) (c : Nat) (hx : a.eval x = .int .i64 (c : Int)) (hc : c < 1000001)
    (h : ∀ w', Below w.heap.size w w' → wpList Tryd.prog ops Q rest (a.put o.dst (.slice (some ⟨w.heap.size, 0, none⟩) c c)) w') : wpList Tryd.prog ops Q (o :: rest) a w :=
  wpList_plain hgd fun K hK => by
    have hi := info_term
    cases hq : Tryd.prog.info? 41 with
    | none => rw [hq] at hi; cases hi
    | some i =>
      rw [hq] at hi
      simp only [Option.map_some, Option.some.injEq, Prod.mk.injEq] at hi
      obtain ⟨h1, h2, h3⟩ := hi
      have hm := run_make (P := Tryd.prog) w 27 41 i (.agg #[.int .u8 0, .slice none 0 0]) Tryd.underlying27 hq h1 .i64 .i64 (c : Int) (c : Int) (by omega) (Int.le_refl _) (by rw [h3]; omega) (by omega)
      rw [Int.toNat_natCast] at hm
      have hrun : (execOp a.eval o).run Tryd.prog w = .ok (.value (.slice (some ⟨w.heap.size, 0, none⟩) c c)) (w.alloc (.cells (madeCells (Value.agg #[.int .u8 0, .slice none 0 0]).cells (c * i.size)) 41)) := by
        unfold execOp
        simp only [ho, hx]
        simp [hm]
      unfold Oper.wp
      rw [hrun]
      exact hK _ _ (h _ ((Below.refl _ _).alloc (Nat.le_refl _) _))
theorem wl_mkZ {ops : Array Oper} {rest : List Oper} {o : Oper} {a : Act} {w : World} {Q : Exit → Act → World → Prop} (hgd : o.guard = none) (c : Nat) (Z : List Nat) (hZ : Z = List.replicate c 0) (ho : o.op = .makeSlice 47 (.const (.int .i64 (c : Int))) (.const (.int .i64 (c : Int)))) (hc : c < 1000000)
    (h : wpList Tryd.prog ops Q rest (a.put o.dst (.slice (some ⟨w.heap.size, 0, none⟩) c c)) (w.alloc (.cells (ints .u8 Z) 5))) : wpList Tryd.prog ops Q (o :: rest) a w :=
  wl_make hgd _ ho .i64 c rfl hc (by rw [← hZ]; exact h)
theorem z_bytes (c : Nat) (Z : List Nat) (hZ : Z.length = c) (w : World) : IntsV .u8 (.slice (some ⟨w.heap.size, 0, none⟩) c c) (w.alloc (.cells (ints .u8 Z) 5)) Z := arr_bytes (t := 5) (l := Z) (blk_new w _ _) hZ
theorem SealF {tb B n : Nat} {ts us : List TermL} {N : List Nat} {M : Nat → Prop} {k a t : List Nat} {K A T : ByteArray} {w : World} (hT : Tab tb B ts M w) (hn64 : n < 18446744073709551616) (hk : Bytes k) (ha : Bytes a) (ht : Bytes t) (hkl : k.length ≤ maxLen) (hal : a.length ≤ maxLen) (htl : t.length ≤ maxLen) (hn : ts.length < 1000000) (hp : putL ts (5, [k, numL n, a, t]) = (us, N)) (hK : K = strOf k) (hA : A = strOf a) (hTT : T = strOf t) :
    Calls Tryd.prog 22 #[.pointer (some ⟨tb, 0, none⟩), .string K, .int .u64 (n : Int), .string A, .string T] w fun e w' => e = .returned (.string (strOf N)) ∧ Puts tb B ts M w us w' := by
  subst hK hA hTT
  exact SealE hT hn64 hk ha ht hkl hal htl hn hp
theorem big_fits {ts : List TermL} {k : Nat} {ll : List (List Nat)} {Z : List Nat} (hm : Z ∈ ll) (hZ : Z.length = 4001) : putL ts (k, ll) = (ts, []) := putL_not fun h => by
  have := h.2.1 Z hm
  omega
theorem acts_ok {l : List ActL} (h : ∀ x ∈ l, ActOk x) : Terms (actsL [] l) := actsL_terms terms_nil fun x hx => (h x hx).s

set_option maxRecDepth 100000 in
set_option maxHeartbeats 4000000 in
theorem refused9 (v : Value) (l : List ActL) (s : List Nat) (w : World) (hv : ActsV v w l) (hok : ∀ x ∈ l, ActOk x) (hN : l.length ≤ maxLen) (hs : Bytes s) (hsl : s.length ≤ maxLen) :
    Calls Tryd.prog 6 #[v, .string (strOf s)] w fun e w' => e = .returned (.bool true) ∧ Below w.heap.size w w' := by
  have KAl : Kept _ := ⟨alive9 w⟩
  have CH := fun w1 (q : Below w.heap.size w w1) => heavyD (hv.under q) hN
  obtain ⟨p, c, rfl, hc⟩ := acts_form hv rfl
  obtain ⟨n, hn⟩ : ∃ n, n = l.length := ⟨_, rfl⟩
  rw [← hn] at hv hc hN CH ⊢
  have KH : Kept _ := ⟨CH⟩
  have HN : Kept _ := ⟨hn⟩
  have HV : Kept _ := ⟨hv⟩
  have HO : Kept _ := ⟨hok⟩
  obtain ⟨z, hz⟩ : ∃ z, z = s.length := ⟨_, rfl⟩
  have KZ : Kept _ := ⟨hz⟩
  have KS : Kept _ := ⟨hs⟩
  have KSL : Kept _ := ⟨hsl⟩
  unfold maxLen at hN
  clear CH hn hv hok hz hs hsl
  go_enter Tryd.func6, Tryd.ntmps6
  go_wp2_with fail
  refine KAl.out.mono ?_
  rintro e w1 ⟨rfl, q1⟩
  clear KAl
  go_wp2_with fail
  refine NewD.mono ?_
  rintro e w2 ⟨⟨tb, M0, rfl, hT0⟩, q2⟩
  have hBw : w.heap.size ≤ w1.heap.size := q1.size
  have hQ0 := q1.trans (q2.mono q1.size)
  generalize hB : w1.heap.size = B at *
  clear q1 q2 hB
  go_wp2_with fail
  refine (KH.out _ hQ0).mono ?_
  rintro e w3 ⟨⟨b, rfl, hb60⟩, q3⟩
  have hT3 := hT0.under q3
  have hQ3 := hQ0.trans (q3.mono hQ0.size)
  clear hT0 hQ0 q3 KH
  cases b with
  | true =>
    go_wp2_with fail
    go_ret
    exact ⟨rfl, hQ3⟩
  | false =>
    have hlen0 := hb60 rfl
    by_cases h1000 : 1000 < z
    · have h' : (1000 : Int) < (z : Int) := by omega
      go_wp2_with (first | ((with_reducible refine wv_val (d := 22) ?hd ?hw (.int .i64 (z : Int)) ?hr ?_); (case hd => rfl); (case hw => kernel_rfl); (case hr => intro w; exact run_slen rfl (by kernel_rfl) KZ.out w); simp only [Act.put, List.setIfInBounds_toArray, List.set_cons_succ, List.set_cons_zero]))
      go_ret
      exact ⟨rfl, hQ3⟩
    · have h' : ¬ (1000 : Int) < (z : Int) := by omega
      go_wp2_with (first | ((with_reducible refine wv_val (d := 22) ?hd ?hw (.int .i64 (z : Int)) ?hr ?_); (case hd => rfl); (case hw => kernel_rfl); (case hr => intro w; exact run_slen rfl (by kernel_rfl) KZ.out w); simp only [Act.put, List.setIfInBounds_toArray, List.set_cons_succ, List.set_cons_zero]))
      go_loopg [27] n (fun g s27 wr => ∃ (i : Nat) (M : Nat → Prop), i + g = n ∧ s27 = .int .i64 (i : Int) ∧ Tab tb B (actsL ([] : List TermL) (l.take i)) M wr ∧ Below w.heap.size w wr)
      case atStart => exact ⟨0, M0, by omega, rfl, hT3, hQ3⟩
      case round =>
        rename World => wz
        obtain ⟨i, M, hik, rfl, hT, hq⟩ := hrel
        by_cases hk0 : gk = 0
        case neg =>
          have hin : i < n := by omega
          have hin' : (i : Int) < (n : Int) := by omega
          have hi1 : (i : Int) + 1 ≤ 9223372036854775807 := by omega
          obtain ⟨x, hx⟩ : ∃ x, l[i]? = some x := ⟨_, List.getElem?_eq_getElem (by rw [← HN.out]; exact hin)⟩
          obtain ⟨A, rfl, hA, hcell⟩ := acts_at (HV.out.under hq) hx
          have KC : Kept _ := ⟨hcell⟩
          have hts : (actsL ([] : List TermL) (l.take i)).length < 1000000 := by
            have := (actsL_grows (l.take i) ([] : List TermL)).2
            rw [List.length_take] at this
            have := hlen0
            have h0 : ([] : List TermL).length = 0 := rfl
            omega
          have hxo := HO.out x (List.mem_of_getElem? hx)
          have CA := fun w1 (q : Below wz.heap.size wz w1) => actD (hT.under q) hxo hts
          obtain ⟨us, hus⟩ : ∃ us, us = (actL (actsL ([] : List TermL) (l.take i)) x).1 := ⟨_, rfl⟩
          have Kus : Kept (actsL ([] : List TermL) (l.take (i + 1)) = us) := ⟨by rw [List.take_add_one, hx, Option.toList_some, actsL_snoc, hus]⟩
          rw [← hus] at CA
          obtain ⟨AA, hAA⟩ : ∃ AA, AA = actA x := ⟨_, rfl⟩
          rw [← hAA] at CA
          have KA1 : Kept (AA.all (·.oneCell') = true) := ⟨by rw [hAA]; exact actA_one x⟩
          have KA6 : Kept (AA.size = 6) := ⟨by rw [hAA]; rfl⟩
          have KAA : Kept _ := ⟨hAA⟩
          have KCA : Kept _ := ⟨CA⟩
          clear hx hcell hus hAA CA hxo
          go_wp2_with (first | ((with_reducible refine wv_val (d := 29) ?hd ?hw (.pointer (some (A.add (i * 6)))) ?hr ?_); (case hd => rfl); (case hw => kernel_rfl); (case hr => intro w; exact run_idx6 rfl (by kernel_rfl) (by kernel_rfl) hin w); simp only [Act.put, List.setIfInBounds_toArray, List.set_cons_succ, List.set_cons_zero]) | (((with_reducible refine wv_act (d := 30) ?hd ?hw (.tmp 29) ?ho (A.add (i * 6)) ?hx (x) ?hc ?_); (case hd => rfl); (case hw => kernel_rfl); (case ho => rfl); (case hx => kernel_rfl); (case hc => exact KC.out); simp only [Act.put, List.setIfInBounds_toArray, List.set_cons_succ, List.set_cons_zero]); rw [← KAA.out]) | ((refine wl_store rfl 30 (.tmp 7) (.tmp 30) rfl wz.heap.size AA (by kernel_rfl) (by kernel_rfl) _ (blk_new wz 30 _) (by rw [KA6.out]; exact info_act) (by rw [KA6.out]; rfl) KA1.out ?_); intro w2 hb2 hp2; have q2 : Below wz.heap.size wz w2 := ((Below.refl _ _).alloc (Nat.le_refl _) _).trans (hp2.below (Nat.le_refl _)); simp only [Act.put, List.setIfInBounds_toArray, List.set_cons_succ, List.set_cons_zero]) | ((with_reducible refine wv_rowS (d := 32) ?hd ?hw 30 (.tmp 7) ?ho (wz.heap.size) ?hx (t' := 30) (AA) _ Tryd.underlying30 ?hs ?hg ?_); (case hd => rfl); (case hw => kernel_rfl); (case ho => rfl); (case hx => kernel_rfl); (case hs => rw [KA6.out]; exact info_act); (case hg => exact hb2); simp only [Act.put, List.setIfInBounds_toArray, List.set_cons_succ, List.set_cons_zero]))
          refine (KCA.out _ q2).mono ?_
          rintro e w4 ⟨rfl, hPu⟩
          obtain ⟨M2, hT2, tu⟩ := hPu.from q2
          have q4 := hq.trans ((hT.below tu).mono hBw)
          go_wp2_with fail
          go_roundg (gk - 1)
          case measure => omega
          case rel => exact ⟨i + 1, M2, by omega, by simp, by rw [Kus.out]; exact hT2, q4⟩
        case pos =>
          obtain rfl : n = i := by omega
          have e1 : l.take n = l := List.take_of_length_le (by rw [← HN.out]; exact Nat.le_refl _)
          rw [e1] at hT
          have hts : (actsL [] l).length < 1000000 := by
            have := (actsL_grows l []).2
            rw [← HN.out] at this
            have h0 : ([] : List TermL).length = 0 := rfl
            omega
          generalize actsL ([] : List TermL) l = ts at hT hts
          have KL := AllD hT hts
          obtain ⟨N, hNl⟩ : ∃ N, N = ts.length := ⟨_, rfl⟩
          rw [← hNl] at KL
          have KNl : Kept _ := ⟨hNl⟩
          have hN6 : N < 1000000 := by omega
          clear hNl e1
          go_wp2_with fail
          refine KL.mono ?_
          rintro e w4 ⟨⟨V1, rfl, hV1⟩, b4⟩
          obtain ⟨p1, c1, rfl, _⟩ := vals_form (vrow_vals hV1) (show (strs (namesL N)).length = N by rw [strs_len, namesL_len])
          have hT4 := hT.under b4
          have hq4 := hq.trans (b4.mono hq.size)
          obtain ⟨Z, hZ⟩ : ∃ Z, Z = List.replicate 4001 0 := ⟨_, rfl⟩
          have KZZ : Kept _ := ⟨hZ⟩
          have hZl : Z.length = 4001 := by rw [hZ, List.length_replicate]
          have YZ : Kept (Bytes Z) := ⟨by rw [hZ]; exact zeros_bytes _⟩
          have LZ : Kept (Z.length ≤ maxLen) := ⟨by rw [hZl]; decide⟩
          have Z1 : Kept _ := ⟨hZl⟩
          have HZ : Kept (∀ w5 : World, IntsV .u8 (.slice (some ⟨w5.heap.size, 0, none⟩) 4001 4001) (w5.alloc (.cells (ints .u8 Z) 5)) Z) := ⟨fun w5 => z_bytes 4001 Z hZl w5⟩
          have KE : Kept (false = !decide (([] : List Nat) = [])) := ⟨rfl⟩
          have Ya : Kept (Bytes [97]) := ⟨bytes_of_all (fun x hx => by simp at hx; omega)⟩
          have Yk : Kept (Bytes [107]) := ⟨bytes_of_all (fun x hx => by simp at hx; omega)⟩
          clear hZ hZl hT hq hV1 b4
          have hTz := hT4.under ((Below.refl w4.heap.size w4).alloc (Nat.le_refl _) (.cells (ints .u8 Z) 5))
          have hqz := hq4.trans (((Below.refl w4.heap.size w4).alloc (Nat.le_refl _) (.cells (ints .u8 Z) 5)).mono hq4.size)
          go_wp2_with (first | (refine wl_mkZ rfl 4001 Z KZZ.out rfl (by decide) ?_; simp only [Act.put, List.setIfInBounds_toArray, List.set_cons_succ, List.set_cons_zero]) | ((with_reducible refine wv_valW (d := 39) ?hd ?hw (.string (strOf Z)) ?hr ?_); (case hd => rfl); (case hw => kernel_rfl); (case hr => exact run_str rfl (by kernel_rfl) (HZ.out w4)); simp only [Act.put, List.setIfInBounds_toArray, List.set_cons_succ, List.set_cons_zero]))
          refine (AtomE hTz YZ.out LZ.out hts (big_fits (by simp) Z1.out) rfl).mono ?_
          rintro e w6 ⟨rfl, M6, hT6, tu6⟩
          have q6 := hqz.trans ((hTz.below tu6).mono hBw)
          clear hT4 hq4 hTz hqz tu6
          go_wp2_with (first | ((with_reducible refine wv_val (d := 43) ?hd ?hw (.bool false) ?hr ?_); (case hd => rfl); (case hw => kernel_rfl); (case hr => intro w; exact run_sneq (l := []) (m := []) rfl (by kernel_rfl) rfl nil_bytes nil_bytes KE.out w); simp only [Act.put, List.setIfInBounds_toArray, List.set_cons_succ, List.set_cons_zero]) | (refine wl_bs2 (by kernel_rfl) (.const (.string ⟨#[97]⟩)) (.tmp 46) rfl ([97]) (Z) (by kernel_rfl) (by kernel_rfl) ?_; simp only [Act.put, List.setIfInBounds_toArray, List.set_cons_succ, List.set_cons_zero]))
          have ba := (Below.refl w6.heap.size w6).alloc (Nat.le_refl _) (.cells #[.string (strOf [97]), .string (strOf Z)] 9)
          have hTa := hT6.under ba
          refine (HashE hTa (fun l h => by
            simp at h
            rcases h with rfl | rfl
            · exact Ya.out
            · exact YZ.out) (new2 [97] Z w6) (fun l h => by
            simp at h
            rcases h with rfl | rfl
            · decide
            · exact LZ.out) hts (big_fits (by simp) Z1.out)).mono ?_
          rintro e w7 ⟨rfl, M7, hT7, tu7⟩
          have q7 := q6.trans ((ba.mono (Nat.le_trans hBw (Nat.le_of_lt (Nat.lt_of_le_of_lt (by obtain ⟨mb, v, _, h2, _⟩ := hT6.at'; exact h2.1) hT6.ptr)))).trans ((hTa.below tu7).mono hBw))
          clear hT6 q6 ba hTa tu7
          go_wp2_with (first | ((with_reducible refine wv_val (d := 49) ?hd ?hw (.bool false) ?hr ?_); (case hd => rfl); (case hw => kernel_rfl); (case hr => intro w; exact run_sneq (l := []) (m := []) rfl (by kernel_rfl) rfl nil_bytes nil_bytes KE.out w); simp only [Act.put, List.setIfInBounds_toArray, List.set_cons_succ, List.set_cons_zero]))
          refine (SealF (n := 1) (k := [107]) (a := []) (t := Z) hT7 (by decide) Yk.out nil_bytes YZ.out (by decide) (by decide) LZ.out hts (big_fits (by simp) Z1.out) (by kernel_rfl) (by kernel_rfl) rfl).mono ?_
          rintro e w8 ⟨rfl, M8, hT8, tu8⟩
          have q8 := q7.trans ((hT7.below tu8).mono hBw)
          clear hT7 q7 tu8
          go_wp2_with (first | ((with_reducible refine wv_val (d := 55) ?hd ?hw (.bool false) ?hr ?_); (case hd => rfl); (case hw => kernel_rfl); (case hr => intro w; exact run_sneq (l := []) (m := []) rfl (by kernel_rfl) rfl nil_bytes nil_bytes KE.out w); simp only [Act.put, List.setIfInBounds_toArray, List.set_cons_succ, List.set_cons_zero]))
          refine (PubE hT8 YZ.out LZ.out hts (big_fits (by simp) Z1.out) rfl).mono ?_
          rintro e w9 ⟨rfl, M9, hT9, tu9⟩
          have q9 := q8.trans ((hT8.below tu9).mono hBw)
          clear hT8 q8 tu9
          have KL9 := AllD hT9 hts
          rw [← KNl.out] at KL9
          go_wp2_with (first | ((with_reducible refine wv_val (d := 61) ?hd ?hw (.bool false) ?hr ?_); (case hd => rfl); (case hw => kernel_rfl); (case hr => intro w; exact run_sneq (l := []) (m := []) rfl (by kernel_rfl) rfl nil_bytes nil_bytes KE.out w); simp only [Act.put, List.setIfInBounds_toArray, List.set_cons_succ, List.set_cons_zero]))
          refine KL9.mono ?_
          rintro e wa ⟨⟨V2, rfl, hV2⟩, ba⟩
          obtain ⟨p2, c2, rfl, _⟩ := vals_form (vrow_vals hV2) (show (strs (namesL N)).length = N by rw [strs_len, namesL_len])
          have hTa := hT9.under ba
          have qa := q9.trans (ba.mono q9.size)
          have BN : Kept (false = !decide ((N : Int) = (N : Int))) := ⟨by rw [decide_eq_true rfl]; rfl⟩
          clear hT9 q9 ba hV2 KL9
          go_wp2_with (first | ((with_reducible refine wv_val (d := 68) ?hd ?hw (.bool false) ?hr ?_); (case hd => rfl); (case hw => kernel_rfl); (case hr => intro w; exact run_neI rfl (by kernel_rfl) (by kernel_rfl) BN.out w); simp only [Act.put, List.setIfInBounds_toArray, List.set_cons_succ, List.set_cons_zero]))
          have CP := PartsD hTa KS.out KSL.out hts
          have KFi : Kept (∀ w1 p c, Calls Tryd.prog 23 #[.slice p N c, .string (strOf s)] w1 fun e w' => e = .returned (.int .i64 (findN N s : Int)) ∧ Below w1.heap.size w1 w') := ⟨fun w1 p c => rFindD KS.out hN6⟩
          have hN7 : N < 1000001 := by omega
          obtain ⟨x, hx⟩ : ∃ x, x = partX ts s := ⟨_, rfl⟩
          rw [← hx] at CP
          obtain ⟨R, hR⟩ : ∃ R, R = findN N s := ⟨_, rfl⟩
          rw [← hR] at KFi
          cases x with
          | none =>
            have hR0 : R = 0 := by
              rw [hR, KNl.out]
              unfold partX at hx
              split at hx
              · next h => exact h
              · next h =>
                have h3 := findN_le ts.length s
                rw [List.getElem?_eq_getElem (by omega)] at hx
                cases hx
            subst hR0
            have KC : Kept _ := ⟨CP⟩
            clear hx hR CP
            refine KC.out.mono ?_
            rintro e wb ⟨rfl, bb⟩
            have qb := qa.trans (bb.mono qa.size)
            go_wp2_with (first | ((refine wl_mkT rfl (.tmp 78) rfl N (by kernel_rfl) hN7 ?_); intro wc bc; simp only [Act.put, List.setIfInBounds_toArray, List.set_cons_succ, List.set_cons_zero]))
            refine (KFi.out wc _ _).mono ?_
            rintro e wd ⟨rfl, bd⟩
            have qd := (qb.trans (bc.mono qb.size)).trans (bd.mono (Nat.le_trans qb.size bc.size))
            go_wp2_with fail
            go_ret
            exact ⟨rfl, qd⟩
          | some t =>
            have hR0 : (0 : Int) < (R : Int) := by
              rw [hR, KNl.out]
              unfold partX at hx
              split at hx
              · cases hx
              · next h => omega
            obtain ⟨k, ll⟩ := t
            have KC : Kept _ := ⟨CP⟩
            clear hx hR CP
            refine KC.out.mono ?_
            rintro e wb ⟨⟨V3, rfl, hV3⟩, bb⟩
            obtain ⟨p3, c3, rfl, _⟩ := vals_form (vrow_vals hV3) (strs_len ll)
            clear hV3
            have qb := qa.trans (bb.mono qa.size)
            go_wp2_with (first | ((refine wl_mkT rfl (.tmp 78) rfl N (by kernel_rfl) hN7 ?_); intro wc bc; simp only [Act.put, List.setIfInBounds_toArray, List.set_cons_succ, List.set_cons_zero]))
            refine (KFi.out wc _ _).mono ?_
            rintro e wd ⟨rfl, bd⟩
            have qd := (qb.trans (bc.mono qb.size)).trans (bd.mono (Nat.le_trans qb.size bc.size))
            go_wp2_with fail
            go_ret
            exact ⟨rfl, qd⟩
end Go.Proofs.YtfdldpcfdebinaaDoor.sh
