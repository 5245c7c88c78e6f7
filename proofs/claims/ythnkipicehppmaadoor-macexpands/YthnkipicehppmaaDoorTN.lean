/-
  The reference's Sum.
-/
import Derived.Test.YthnkipicehppmaaDoorTM
namespace Go.Proofs.YthnkipicehppmaaDoor.sh
open Go Go.RowKit
set_option linter.unusedVariables false
set_option linter.unusedSimpArgs false


theorem run_conv328 {o : Oper} {a : Act} {x : Operand} {z : Nat} (ho : o.op = .convert 47 5 x) (hx : a.eval x = .int .u32 (z : Int)) (hz : z < 256) (w : World) : (execOp a.eval o).run Tryd.prog w = .ok (.value (.int .u8 (z : Int))) w := by
  unfold execOp
  simp only [ho, hx]
  simp [go_sem, IntKind.wrap_u8']
  omega
theorem bytesL_at (s : List Nat) (i t x : Nat) (hi : i < 8) (ht : t < 4) (hx : s[i]? = some x) : (bytesL s)[4 * i + (3 - t)]? = some (x / 256 ^ t % 256) := by
  rw [bytesL_get s (4 * i + (3 - t)) x (by omega) (by rw [show (4 * i + (3 - t)) / 4 = i from by omega]; exact hx), show 24 - (4 * i + (3 - t)) % 4 * 8 = 8 * t from by omega, Nat.pow_mul]
set_option maxRecDepth 100000 in
set_option maxHeartbeats 4000000 in
theorem rSum_any (bs : List Nat) (v : Value) (w : World) (hv : BytesV v w bs) (hy : Bytes bs) (hl : bs.length ≤ 1000) :
    Calls Tryd.prog 20 #[v] w fun e w' => e = .returned (.agg (ints .u8 (sumL bs))) ∧ Below w.heap.size w w' := by
  have KB : Kept _ := ⟨hv⟩
  have HL : Kept _ := ⟨hl⟩
  obtain ⟨p0, c0, rfl, _, _⟩ := hv
  obtain ⟨n0, hn0⟩ : ∃ n, n = bs.length := ⟨_, rfl⟩
  rw [← hn0] at KB
  obtain ⟨F, hF⟩ : ∃ F, F = bs ++ fillL bs.length := ⟨_, rfl⟩
  obtain ⟨J, hJ⟩ := fill_blocks bs
  have hS := sum_blocks bs J hJ
  rw [← hF] at hJ hS
  have YF : Kept (Bytes F) := ⟨by rw [hF]; exact hy.append (fillTo_bytes _ 8)⟩
  have EJ : Kept _ := ⟨hJ⟩
  have J20 : J < 20 := by
    rw [hF, List.length_append, fillL_len] at hJ
    have : zerosN bs.length < 64 := Nat.mod_lt _ (by decide)
    omega
  have J1 : 0 < J := by
    rw [hF, List.length_append, fillL_len] at hJ
    omega
  obtain ⟨L, hL⟩ : ∃ L, L = sumL bs := ⟨_, rfl⟩
  rw [← hL]
  have LL : Kept (L.length = 32) := ⟨by rw [hL]; exact sumL_len bs⟩
  have ELS : Kept (L = bytesL (refTo F J)) := ⟨by rw [hL, hS]⟩
  have EF : Kept _ := ⟨hF⟩
  rw [← hn0]
  clear hy hF hS hL hJ hl hn0
  go_enter Tryd.func20, Tryd.ntmps20
  go_wp2_with fail
  have A2 : Blk (w.alloc (.cells #[.int .u8 0, .int .u8 0, .int .u8 0, .int .u8 0, .int .u8 0, .int .u8 0, .int .u8 0, .int .u8 0, .int .u8 0, .int .u8 0, .int .u8 0, .int .u8 0, .int .u8 0, .int .u8 0, .int .u8 0, .int .u8 0, .int .u8 0, .int .u8 0, .int .u8 0, .int .u8 0, .int .u8 0, .int .u8 0, .int .u8 0, .int .u8 0, .int .u8 0, .int .u8 0, .int .u8 0, .int .u8 0, .int .u8 0, .int .u8 0, .int .u8 0, .int .u8 0] 24)) w.heap.size 24 #[.int .u8 0, .int .u8 0, .int .u8 0, .int .u8 0, .int .u8 0, .int .u8 0, .int .u8 0, .int .u8 0, .int .u8 0, .int .u8 0, .int .u8 0, .int .u8 0, .int .u8 0, .int .u8 0, .int .u8 0, .int .u8 0, .int .u8 0, .int .u8 0, .int .u8 0, .int .u8 0, .int .u8 0, .int .u8 0, .int .u8 0, .int .u8 0, .int .u8 0, .int .u8 0, .int .u8 0, .int .u8 0, .int .u8 0, .int .u8 0, .int .u8 0, .int .u8 0] := blk_new w _ _
  have Q0 : Below w.heap.size w (w.alloc (.cells #[.int .u8 0, .int .u8 0, .int .u8 0, .int .u8 0, .int .u8 0, .int .u8 0, .int .u8 0, .int .u8 0, .int .u8 0, .int .u8 0, .int .u8 0, .int .u8 0, .int .u8 0, .int .u8 0, .int .u8 0, .int .u8 0, .int .u8 0, .int .u8 0, .int .u8 0, .int .u8 0, .int .u8 0, .int .u8 0, .int .u8 0, .int .u8 0, .int .u8 0, .int .u8 0, .int .u8 0, .int .u8 0, .int .u8 0, .int .u8 0, .int .u8 0, .int .u8 0] 24)) := (Below.refl _ _).alloc (Nat.le_refl _) _
  generalize hW : w.alloc (.cells #[.int .u8 0, .int .u8 0, .int .u8 0, .int .u8 0, .int .u8 0, .int .u8 0, .int .u8 0, .int .u8 0, .int .u8 0, .int .u8 0, .int .u8 0, .int .u8 0, .int .u8 0, .int .u8 0, .int .u8 0, .int .u8 0, .int .u8 0, .int .u8 0, .int .u8 0, .int .u8 0, .int .u8 0, .int .u8 0, .int .u8 0, .int .u8 0, .int .u8 0, .int .u8 0, .int .u8 0, .int .u8 0, .int .u8 0, .int .u8 0, .int .u8 0, .int .u8 0] 24) = wa at *
  clear hW
  refine (roots64 wa).mono ?_
  rintro e w1 ⟨vk, rfl, RK, hb1⟩
  have KK : Kept _ := ⟨row_cells RK⟩
  clear RK
  go_wp2_with fail
  refine (roots8 w1).mono ?_
  rintro e w2 ⟨vs, rfl, RS, hb2⟩
  have KS : Kept _ := ⟨row_cells RS⟩
  have KK2 : Kept _ := ⟨KK.out.under hb2⟩
  have HB2 := hb1.trans (hb2.mono hb1.size)
  clear RS KK
  go_wp2_with fail
  refine (filled_any bs _ w2 (KB.out.under (Q0.trans (HB2.mono Q0.size))) HL.out).mono ?_
  rintro e w3 ⟨vf, rfl, RF, hb3⟩
  rw [← EF.out] at RF
  have KF : Kept _ := ⟨row_bytes RF⟩
  obtain ⟨pf, cf, ef, hcf, hcl⟩ := row_bytes RF
  obtain ⟨Af, rfl, _, _⟩ := hcl (by intro e; have := EJ.out; rw [e] at this; simp at this; omega)
  obtain ⟨nF, hnF⟩ : ∃ n, n = F.length := ⟨_, rfl⟩
  rw [← hnF] at ef hcf
  have HNJ : Kept (nF = 64 * J) := ⟨by rw [hnF, EJ.out]⟩
  have ENF : Kept _ := ⟨hnF⟩
  subst ef
  have KS3 : Kept _ := ⟨KS.out.under hb3⟩
  have KK3 : Kept _ := ⟨KK2.out.under hb3⟩
  have HB3 := HB2.trans (hb3.mono HB2.size)
  have A23 := A2.under HB3
  have QB3 := Q0.trans (HB3.mono Q0.size)
  clear RF hcl KS KK2 HB2 hb1 hb2 hb3 A2 Q0 HB3 hnF
  go_wp2_with fail
  go_loopg [4, 6] J (fun m s4 s6 wr => ∃ j : Nat, j + m = J ∧ s6 = .int .i64 ((64 * j : Nat) : Int) ∧ Kept (Below w3.heap.size w3 wr ∧ IntsV .u32 s4 wr (refTo F j)))
  case atStart => exact ⟨0, by omega, rfl, ⟨⟨Below.refl _ _, KS3.out⟩⟩⟩
  case round =>
    clear KS3
    obtain ⟨j, hj, rfl, KQ⟩ := hrel
    obtain ⟨HQ, RQ⟩ := KQ.out
    have KR : Kept _ := ⟨RQ⟩
    clear KQ RQ
    by_cases hjJ : j < J
    case pos =>
      have hj' : (64 : Int) * (j : Int) < (nF : Int) := by have := HNJ.out; omega
      obtain ⟨jj, hjj⟩ : ∃ q, q = 64 * j := ⟨_, rfl⟩
      have EJJ : Kept _ := ⟨hjj⟩
      obtain ⟨S, hS⟩ : ∃ S, S = refTo F j := ⟨_, rfl⟩
      rw [← hS] at KR
      obtain ⟨C, hC⟩ : ∃ C, C = (F.drop (64 * j)).take 64 := ⟨_, rfl⟩
      have LC : Kept (C.length = 64) := ⟨by rw [hC, List.length_take, List.length_drop]; have := EJ.out; omega⟩
      have YC : Kept (Bytes C) := ⟨by rw [hC]; exact (YF.out.drop _).take _⟩
      have VC : Kept (BytesV (.slice (some (Af.add (64 * j))) 64 (cf - 64 * j)) wr C) := ⟨by
        have h1 := BytesV.under KF.out HQ
        have hle : 64 * j ≤ F.length := by have := EJ.out; omega
        rw [ENF.out] at h1
        have h2 := BytesV.cut h1 hle
        rw [if_neg (by have := ENF.out; have := HNJ.out; omega)] at h2
        have h3 := IntsV.take (m := 64) h2 (by rw [List.length_drop]; have := EJ.out; omega)
        rw [← hC] at h3
        exact h3⟩
      have NEXT : Kept (plusL S (roundTo S (wsTo C 48) 64) = refTo F (j + 1)) := ⟨by rw [refTo_succ, ← hC, ← hS, words_eq C YC.out]; rfl⟩
      have LS : Kept (S.length = 8) := ⟨by rw [hS]; exact refTo_len F j⟩
      have SS : Kept (Small S) := ⟨by rw [hS]; exact refTo_small F j⟩
      have CT : Kept (∀ {o : Oper} {a : Act}, o.op = .slice 22 (.tmp 23) (some (.tmp 24)) (some (.tmp 26)) none → a.eval (.tmp 23) = .slice (some Af) nF cf → a.eval (.tmp 24) = .int .i64 ((64 * j : Nat) : Int) → a.eval (.tmp 26) = .int .i64 ((64 * j + 64 : Nat) : Int) → ∀ w, (execOp a.eval o).run Tryd.prog w = .ok (.value (.slice (some (Af.add (64 * j))) 64 (cf - 64 * j))) w) := ⟨fun ho hx hy hz w => by
        have hN := HNJ.out
        have := cuts_run (m := 64 * j + 64) ho hx hy hz Tryd.underlying22 sz_u8 (by omega) (by omega) w
        rw [this, if_neg (by omega), Nat.add_sub_cancel_left]
        rfl⟩
      clear hS hC hjj
      go_wp2_with (first | ((with_reducible refine wv_val (d := 26) ?hd ?hw (.int .i64 ((64 * j + 64 : Nat) : Int)) ?hr ?_); (case hd => rfl); (case hw => kernel_rfl); (case hr => intro w; exact run_addI 64 rfl (by kernel_rfl) (by omega) w); simp only [Act.put, List.setIfInBounds_toArray, List.set_cons_succ, List.set_cons_zero]) | ((with_reducible refine wv_val (d := 27) ?hd ?hw (.slice (some (Af.add (64 * j))) 64 (cf - 64 * j)) ?hr ?_); (case hd => rfl); (case hw => kernel_rfl); (case hr => intro w; exact CT.out rfl (by kernel_rfl) (by kernel_rfl) (by kernel_rfl) w); simp only [Act.put, List.setIfInBounds_toArray, List.set_cons_succ, List.set_cons_zero]))
      refine (rblock_any S C _ _ _ wr KR.out (KK3.out.under HQ) VC.out LS.out SS.out YC.out LC.out).mono ?_
      rintro e w4 ⟨u4, rfl, R4, hb4⟩
      rw [NEXT.out] at R4
      have R4 : Kept _ := ⟨row_cells R4⟩
      have HQ4 := HQ.trans (hb4.mono HQ.size)
      clear HQ hb4 KR VC CT
      go_wp2_with (first | ((with_reducible refine wv_val (d := 20) ?hd ?hw (.int .i64 ((64 * j + 64 : Nat) : Int)) ?hr ?_); (case hd => rfl); (case hw => kernel_rfl); (case hr => intro w; exact run_addI 64 rfl (by kernel_rfl) (by omega) w); simp only [Act.put, List.setIfInBounds_toArray, List.set_cons_succ, List.set_cons_zero]))
      go_roundg (gk - 1)
      case measure => omega
      case rel => exact ⟨j + 1, by omega, by rfl, ⟨⟨HQ4, R4.out⟩⟩⟩
    have hj' : ¬ (64 : Int) * (j : Int) < (nF : Int) := by have := HNJ.out; omega
    obtain rfl : J = j := by omega
    obtain ⟨S, hS⟩ : ∃ S, S = refTo F J := ⟨_, rfl⟩
    rw [← hS] at KR ELS
    have LS : Kept (S.length = 8) := ⟨by rw [hS]; exact refTo_len F J⟩
    have SS : Kept (Small S) := ⟨by rw [hS]; exact refTo_small F J⟩
    have A2r := A23.under HQ
    have QBr := QB3.trans (HQ.mono QB3.size)
    clear hS A23 QB3 HQ hj
    obtain ⟨ps, cs, es, _, hcs⟩ := KR.out
    obtain ⟨As, rfl, _, _⟩ := hcs (by intro e; have := LS.out; rw [e] at this; simp at this)
    rw [LS.out] at es
    subst es
    clear hcs
    rename World => wz
    go_wp2_with fail
    have A7 : Blk (wz.alloc (.cells #[.int .u8 0, .int .u8 0, .int .u8 0, .int .u8 0, .int .u8 0, .int .u8 0, .int .u8 0, .int .u8 0, .int .u8 0, .int .u8 0, .int .u8 0, .int .u8 0, .int .u8 0, .int .u8 0, .int .u8 0, .int .u8 0, .int .u8 0, .int .u8 0, .int .u8 0, .int .u8 0, .int .u8 0, .int .u8 0, .int .u8 0, .int .u8 0, .int .u8 0, .int .u8 0, .int .u8 0, .int .u8 0, .int .u8 0, .int .u8 0, .int .u8 0, .int .u8 0] 24)) wz.heap.size 24 (ints .u8 (List.replicate 32 0)) := blk_new wz _ _
    have B7 : Below wz.heap.size wz (wz.alloc (.cells #[.int .u8 0, .int .u8 0, .int .u8 0, .int .u8 0, .int .u8 0, .int .u8 0, .int .u8 0, .int .u8 0, .int .u8 0, .int .u8 0, .int .u8 0, .int .u8 0, .int .u8 0, .int .u8 0, .int .u8 0, .int .u8 0, .int .u8 0, .int .u8 0, .int .u8 0, .int .u8 0, .int .u8 0, .int .u8 0, .int .u8 0, .int .u8 0, .int .u8 0, .int .u8 0, .int .u8 0, .int .u8 0, .int .u8 0, .int .u8 0, .int .u8 0, .int .u8 0] 24)) := (Below.refl _ _).alloc (Nat.le_refl _) _
    go_loopg [8] 8 (fun m s8 wr => ∃ i : Nat, i + m = 8 ∧ s8 = .int .i64 (i : Int) ∧ Kept (∃ o : List Nat, o.length = 32 ∧ (∀ k, k < 4 * i → o[k]? = L[k]?) ∧ Blk wr wz.heap.size 24 (ints .u8 o) ∧ Below wz.heap.size wz wr))
    case atStart => exact ⟨0, by omega, rfl, ⟨⟨List.replicate 32 0, by simp, fun k hk => by omega, A7, B7⟩⟩⟩
    case round =>
      clear A7 B7
      obtain ⟨i, hik, rfl, KQ⟩ := hrel
      obtain ⟨o, ho, hok, AO, HQ⟩ := KQ.out
      have HO : Kept _ := ⟨ho⟩
      have HOK : Kept _ := ⟨hok⟩
      clear KQ ho hok
      by_cases hi : i < 8
      case pos =>
        have hi' : (i : Int) < 8 := by omega
        have i8 : i < 8 := hi
        have i0 : (0 : Int) ≤ (i : Int) := by omega
        obtain ⟨x, hx⟩ : ∃ x, S[i]? = some x := ⟨_, List.getElem?_eq_getElem (by have := LS.out; omega)⟩
        obtain ⟨A', eA, _, hc⟩ := (KR.out.under HQ).cell hx
        cases eA
        have x32 : x < 4294967296 := SS.out i x hx
        have KX : Kept _ := ⟨hx⟩
        clear hx
        go_wp2_with (first | ((with_reducible refine wv_val (d := 35) ?hd ?hw (.pointer (some (As.add i))) ?hr ?_); (case hd => rfl); (case hw => kernel_rfl); (case hr => intro w; exact run_idxS (l := 8) (c := cs) rfl (by kernel_rfl) (by kernel_rfl) Tryd.underlying64 i8 sz_u32 w); simp only [Act.put, List.setIfInBounds_toArray, List.set_cons_succ, List.set_cons_zero]) | ((with_reducible refine wv_elem (d := 36) ?hd ?hw 47 ag_u32 (.tmp 35) ?ho (As.add i) ?hx (.int .u32 (x : Int)) ?hg ?_); (case hd => rfl); (case hw => kernel_rfl); (case ho => rfl); (case hx => first | rfl | kernel_rfl); (case hg => exact hc); simp only [Act.put, List.setIfInBounds_toArray, List.set_cons_succ, List.set_cons_zero]))
        clear hc
        rename World => wy
        go_loopg [9, 10] 4 (fun q s9 s10 wr => ∃ n : Nat, s9 = .int .u32 (n : Int) ∧ s10 = .int .i64 ((q : Int) - 1) ∧ q ≤ 4 ∧ Kept (∃ o : List Nat, n = x / 256 ^ (4 - q) ∧ o.length = 32 ∧ (∀ k, k < 4 * i → o[k]? = L[k]?) ∧ (∀ k, 4 * i + q ≤ k → k < 4 * i + 4 → o[k]? = L[k]?) ∧ Blk wr wz.heap.size 24 (ints .u8 o) ∧ Below wz.heap.size wz wr))
        case atStart => exact ⟨x, rfl, by rfl, Nat.le_refl _, ⟨⟨o, by simp, HO.out, HOK.out, fun k h1 h2 => by omega, AO, HQ⟩⟩⟩
        case round =>
          clear AO HQ HO HOK
          obtain ⟨n, rfl, rfl, q4, KQ⟩ := hrel
          obtain ⟨o, hn, ho, hok, hoq, AO, HQ⟩ := KQ.out
          clear KQ
          cases hg : gk with
          | zero =>
            have NO : Kept (∀ k, k < 4 * (i + 1) → o[k]? = L[k]?) := ⟨fun k hk => by
              by_cases h : k < 4 * i
              · exact hok k h
              · exact hoq k (by omega) (by omega)⟩
            have HO : Kept _ := ⟨ho⟩
            clear hok hoq ho hn
            go_wp2_with fail
            go_roundg (8 - i - 1)
            case measure => omega
            case rel => exact ⟨i + 1, by omega, by rfl, ⟨⟨o, HO.out, NO.out, AO, HQ⟩⟩⟩
          | succ jn =>
            have e1 : ((jn + 1 : Nat) : Int) - 1 = (jn : Int) := by omega
            rw [e1]
            have jn4 : jn < 4 := by omega
            have jn0 : (0 : Int) ≤ (jn : Int) := by omega
            have jn62 : jn < 4611686018427387904 := by omega
            have n32 : n < 4294967296 := by rw [hn]; exact Nat.lt_of_le_of_lt (Nat.div_le_self _ _) x32
            obtain ⟨q, hq⟩ : ∃ q, q = 4 * i := ⟨_, rfl⟩
            obtain ⟨r, hr⟩ : ∃ r, r = n % 256 := ⟨_, rfl⟩
            obtain ⟨d, hd⟩ : ∃ d, d = n / 256 := ⟨_, rfl⟩
            have r8 : r < 256 := by omega
            have Eq : Kept _ := ⟨hq⟩
            have Er : Kept _ := ⟨hr⟩
            have Ed : Kept _ := ⟨hd⟩
            have q62 : q + jn < 4611686018427387904 := by omega
            have qj : q + jn < 32 := by omega
            have qs : q + jn < (ints .u8 o).size := by rw [ints_size, ho]; omega
            have NV : Kept (L[q + jn]? = some r) := ⟨by
              have := bytesL_at S i (3 - jn) x i8 (by omega) KX.out
              rw [show 3 - (3 - jn) = jn from by omega, ← ELS.out] at this
              rw [hq, this, hr, hn, show 4 - gk = 3 - jn from by omega]⟩
            have ND : Kept (d = x / 256 ^ (4 - jn)) := ⟨by rw [hd, hn, Nat.div_div_eq_div_mul, show 4 - gk = 3 - jn from by omega, ← Nat.pow_succ, show 4 - jn = 3 - jn + 1 from by omega]⟩
            have OO : Kept ((o.set (q + jn) r).length = 32 ∧ (∀ k, k < 4 * i → (o.set (q + jn) r)[k]? = L[k]?) ∧ ∀ k, 4 * i + jn ≤ k → k < 4 * i + 4 → (o.set (q + jn) r)[k]? = L[k]?) := ⟨by
              refine ⟨by rw [List.length_set]; exact ho, fun k hk => ?_, fun k h1 h2 => ?_⟩
              · rw [List.getElem?_set_ne (by omega)]; exact hok k hk
              · by_cases h : q + jn = k
                · rw [← h, List.getElem?_set_self (by omega), NV.out]
                · rw [List.getElem?_set_ne h]; exact hoq k (by omega) h2⟩
            clear hr hd hok hoq hn e1 ho hq
            go_wp2_with (first | ((with_reducible refine wv_val (d := 42) ?hd ?hw (.int .i64 (q : Int)) ?hr ?_); (case hd => rfl); (case hw => kernel_rfl); (case hr => intro w; exact run_mulI rfl (by kernel_rfl) (by omega) Eq.out w); simp only [Act.put, List.setIfInBounds_toArray, List.set_cons_succ, List.set_cons_zero]) | ((with_reducible refine wv_val (d := 44) ?hd ?hw (.int .i64 ((q + jn : Nat) : Int)) ?hr ?_); (case hd => rfl); (case hw => kernel_rfl); (case hr => intro w; exact run_addV rfl (by kernel_rfl) (by kernel_rfl) q62 w); simp only [Act.put, List.setIfInBounds_toArray, List.set_cons_succ, List.set_cons_zero]) | ((with_reducible refine wv_val (d := 46) ?hd ?hw (.int .u32 (r : Int)) ?hr ?_); (case hd => rfl); (case hw => kernel_rfl); (case hr => intro w; exact run_rem32 rfl (by kernel_rfl) (by kernel_rfl) (by decide) n32 Er.out w); simp only [Act.put, List.setIfInBounds_toArray, List.set_cons_succ, List.set_cons_zero]) | ((with_reducible refine wv_val (d := 47) ?hd ?hw (.int .u8 (r : Int)) ?hr ?_); (case hd => rfl); (case hw => kernel_rfl); (case hr => intro w; exact run_conv328 rfl (by kernel_rfl) r8 w); simp only [Act.put, List.setIfInBounds_toArray, List.set_cons_succ, List.set_cons_zero]) | ((with_reducible refine wv_val (d := 48) ?hd ?hw (.pointer (some ⟨wz.heap.size, q + jn, none⟩)) ?hr ?_); (case hd => rfl); (case hw => kernel_rfl); (case hr => intro w; exact run_idx rfl (by kernel_rfl) (by kernel_rfl) Tryd.underlying24 qj sz_u8 w); simp only [Act.put, List.setIfInBounds_toArray, List.set_cons_succ, List.set_cons_zero]) | (refine wl_setElem rfl 5 sz_u8 (.tmp 48) (.tmp 47) rfl wz.heap.size (q + jn) .u8 (r : Int) rfl rfl _ AO qs ?_))
            intro w9 A9 P9
            have A9 : Blk w9 wz.heap.size 24 (ints .u8 (o.set (q + jn) r)) := by rw [← ints_set]; exact A9
            have HQ9 := HQ.trans (P9.below (Nat.le_refl _))
            clear AO HQ P9 qs
            go_wp2_with (first | ((with_reducible refine wv_val (d := 50) ?hd ?hw (.int .u32 (d : Int)) ?hr ?_); (case hd => rfl); (case hw => kernel_rfl); (case hr => intro w; exact run_quo32 rfl (by kernel_rfl) (by kernel_rfl) (by decide) n32 Ed.out w); simp only [Act.put, List.setIfInBounds_toArray, List.set_cons_succ, List.set_cons_zero]) | ((with_reducible refine wv_val (d := 40) ?hd ?hw (.int .i64 ((jn : Int) - 1)) ?hr ?_); (case hd => rfl); (case hw => kernel_rfl); (case hr => intro w; exact run_dec rfl (by kernel_rfl) jn62 w); simp only [Act.put, List.setIfInBounds_toArray, List.set_cons_succ, List.set_cons_zero]))
            go_roundg jn
            case measure => omega
            case rel => exact ⟨d, rfl, by rfl, by omega, ⟨⟨o.set (q + jn) r, ND.out, OO.out.1, OO.out.2.1, OO.out.2.2, A9, HQ9⟩⟩⟩
      obtain rfl : i = 8 := by omega
      have EO : o = L := List.ext_getElem? fun k => by
        by_cases hk : k < 32
        · exact HOK.out k (by omega)
        · rw [List.getElem?_eq_none (by have := HO.out; omega), List.getElem?_eq_none (by have := LL.out; omega)]
      subst EO
      have A2q := A2r.below HQ A2r.lt
      have QBq := QBr.trans (HQ.mono QBr.size)
      have lt2 : w.heap.size < wz.heap.size := A2r.lt
      clear A2r QBr HQ
      go_wp2_with (first | ((with_reducible refine wv_row (d := 51) ?hd ?hw 24 (.tmp 7) ?ho (wz.heap.size) ?hx (t' := 24) (ints .u8 o) _ _ Tryd.underlying24 ?hs ?hg ?_); (case hd => rfl); (case hw => kernel_rfl); (case ho => rfl); (case hx => kernel_rfl); (case hs => rw [ints_size, LL.out]; exact t32_info); (case hg => exact AO); simp only [Act.put, List.setIfInBounds_toArray, List.set_cons_succ, List.set_cons_zero]) | (refine wl_store rfl 24 (.tmp 2) (.tmp 51) rfl w.heap.size (ints .u8 o) rfl rfl _ A2q (by rw [ints_size, LL.out]; exact t32_info) (by rw [ints_size, LL.out]; rfl) (ints_one _ _) ?_))
      intro wf Af2 Pf
      go_wp2
      exact bodyPost_ret (v := .agg (ints .u8 o)) (results_cell_row Tryd.results20 _ _ _ 24 (ints .u8 o) (0, 0) _ rfl Af2 Tryd.underlying24 rfl (by rw [ints_size, LL.out]; exact t32_info)) rfl ⟨rfl, QBq.trans (Pf.below (Nat.le_refl _))⟩
end Go.Proofs.YthnkipicehppmaaDoor.sh
