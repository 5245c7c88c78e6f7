/-
  General pieces, joined: YG YH YI YJ YK YO YP YR XR XS.
-/
import Derived.Test.YtkibojjbghopkaaDoorG40
import Derived.Deep.Strs
import Derived.Test.YtkibojjbghopkaaDoorG37
import Derived.Test.YtkibojjbghopkaaDoorG36
import Derived.Lib.AppendStr
/-
  The tag of bytes, by the program.
-/
namespace Go.Proofs.YtkibojjbghopkaaDoor.sh
open Go Go.RowKit
set_option linter.unusedVariables false
set_option linter.unusedSimpArgs false

theorem cut_fr {o : Oper} {a : Act} {x y : Operand} {p pf : Option Addr} {l c k mm cc : Nat} {t e : TypeId} (ho : o.op = .slice t x (some y) none none) (hx : a.eval x = .slice p l c) (hy : a.eval y = .int .i64 (k : Int)) (ht : Tryd.prog.underlying t = some (.slice e)) (sz : ∀ w, (sizeOf e).run Tryd.prog w = .ok 1 w) (hk : k ≤ l) (hpf : pf = if c = k then p else p.map (·.add k)) (hmm : mm = l - k) (hcc : cc = c - k) (w : World) :
    (execOp a.eval o).run Tryd.prog w = .ok (.value (.slice pf mm cc)) w := by
  rw [hpf, hmm, hcc]
  exact cut_run ho hx hy ht sz hk w
theorem z3_eq : (#[.int .u64 0, .int .u64 0, .int .u64 0] : Array Value) = ints .u64 (nw 0) := by kernel_rfl
set_option maxRecDepth 100000 in
set_option maxHeartbeats 2000000 in
theorem SumD (key b : List Nat) (v : Value) (w : World) (hk : key.length = 32) (hy : Bytes key) (hyb : Bytes b) (hv : BytesV v w b) :
    Calls Tryd.prog 34 #[.agg (ints .u8 key), v] w fun e w' => e = .returned (.agg (ints .u8 (tagL key b))) ∧ Below w.heap.size w w' := by
  have LK : Kept _ := ⟨hk⟩
  have KYB : Kept _ := ⟨hyb⟩
  have CF : Kept (∀ w', Calls Tryd.prog 54 #[.agg (ints .u8 key)] w' fun e w2 => e = .returned (.agg (ints .u64 (nw2 (rN key)))) ∧ Below w'.heap.size w' w2) := ⟨fun w' => factorD key w' hk hy⟩
  obtain ⟨r, hr⟩ : ∃ r, r = rN key := ⟨_, rfl⟩
  have BR : Kept (r < 21267647932558653966460912964485513216) := ⟨by rw [hr]; exact rN_lt key hk hy⟩
  have BR0 : Kept (wd r 0 < 1152921504606846976) := ⟨by rw [hr]; exact rN_low key hk hy⟩
  obtain ⟨KK, hKK⟩ : ∃ n, n = (b.length + 15) / 16 := ⟨_, rfl⟩
  obtain ⟨L, hL⟩ : ∃ L, L = tagL key b := ⟨_, rfl⟩
  have EL : Kept (L = digs (polyT r b KK % 1361129467683753853853498429727072845819 + sN key) 16) := ⟨by rw [hL, hr, hKK]; rfl⟩
  have LL : Kept (L.length = 16) := ⟨by rw [hL]; exact tagL_len _ _⟩
  have HS : Kept (sN key < 340282366920938463463374607431768211456) := ⟨sN_lt key hk hy⟩
  have CAd : Kept (∀ w', Calls Tryd.prog 59 #[.agg (ints .u8 key)] w' fun e w2 => e = .returned (.agg (ints .u64 (nw (sN key)))) ∧ Below w'.heap.size w' w2) := ⟨fun w' => addendD key w' hk hy⟩
  obtain ⟨p0, c0, rfl, hc0, _⟩ := id hv
  have KV : Kept _ := ⟨hv⟩
  rw [← hL]
  rw [← hr] at CF
  obtain ⟨R2, hR2⟩ : ∃ l, l = nw2 r := ⟨_, rfl⟩
  rw [← hR2] at CF
  have LR2 : Kept (R2.length = 2) := ⟨by rw [hR2]; rfl⟩
  have ER2 : Kept _ := ⟨hR2⟩
  obtain ⟨n, hn⟩ : ∃ n, n = b.length := ⟨_, rfl⟩
  rw [← hn] at KV hKK ⊢
  have EN : Kept _ := ⟨hn⟩
  have EK : Kept _ := ⟨hKK⟩
  obtain ⟨Z0, hZ0⟩ : ∃ Z, Z = List.replicate 16 0 := ⟨_, rfl⟩
  have LZ : Kept (Z0.length = 16) := ⟨by rw [hZ0]; rfl⟩
  have A0 : Blk ((w.alloc (.cells (ints .u8 key) 22)).alloc (.cells #[.int .u8 0, .int .u8 0, .int .u8 0, .int .u8 0, .int .u8 0, .int .u8 0, .int .u8 0, .int .u8 0, .int .u8 0, .int .u8 0, .int .u8 0, .int .u8 0, .int .u8 0, .int .u8 0, .int .u8 0, .int .u8 0] 46)) w.heap.size 22 (ints .u8 key) := (blk_new w _ _).alloc _
  have A1 : Blk ((w.alloc (.cells (ints .u8 key) 22)).alloc (.cells #[.int .u8 0, .int .u8 0, .int .u8 0, .int .u8 0, .int .u8 0, .int .u8 0, .int .u8 0, .int .u8 0, .int .u8 0, .int .u8 0, .int .u8 0, .int .u8 0, .int .u8 0, .int .u8 0, .int .u8 0, .int .u8 0] 46)) (w.heap.size + 1) 46 (ints .u8 Z0) := by rw [hZ0, ← z16b_eq]; exact blk_top _ _ _ _ (by simp)
  have Q0 : Below w.heap.size w ((w.alloc (.cells (ints .u8 key) 22)).alloc (.cells #[.int .u8 0, .int .u8 0, .int .u8 0, .int .u8 0, .int .u8 0, .int .u8 0, .int .u8 0, .int .u8 0, .int .u8 0, .int .u8 0, .int .u8 0, .int .u8 0, .int .u8 0, .int .u8 0, .int .u8 0, .int .u8 0] 46)) := ((Below.refl _ _).alloc (Nat.le_refl _) _).alloc (by simp) _
  clear hk hy hyb hr hKK hL hv hR2 hn hZ0 hc0
  go_enter Tryd.func34, Tryd.ntmps34
  go_wp2_with (first | ((with_reducible refine wv_row (d := 8) ?hd ?hw 22 (.tmp 2) ?ho (w.heap.size) ?hx (t' := 22) (ints .u8 key) _ _ Tryd.underlying22 ?hs ?hg ?_); (case hd => rfl); (case hw => kernel_rfl); (case ho => rfl); (case hx => kernel_rfl); (case hs => rw [ints_size, LK.out]; exact t32_info); (case hg => exact A0); simp only [Act.put, List.setIfInBounds_toArray, List.set_cons_succ, List.set_cons_zero]))
  refine (CF.out _).mono ?_
  rintro e w1 ⟨rfl, hb1⟩
  have B0 := A0.under hb1
  have B1 := A1.under hb1
  have Q1 := Q0.trans (hb1.mono Q0.size)
  have hl1 : w.heap.size + 1 < w1.heap.size := B1.lt
  clear A0 A1 Q0 hb1 CF
  go_wp2_with (first | (refine wl_store rfl 89 (.tmp 5) (.tmp 9) rfl w1.heap.size (ints .u64 R2) rfl rfl _ (blk_new w1 _ _) (by rw [ints_size, LR2.out]; exact a2_info) (by rw [ints_size, LR2.out]; rfl) (ints_one _ _) ?_))
  intro w2 A5 P2
  have C0 := P2.blk (B0.alloc _) (by omega)
  have C1 := P2.blk (B1.alloc _) (by omega)
  have Q2 := (Q1.alloc Q1.size _).trans (P2.below (by omega))
  generalize hg5 : w1.heap.size = g5 at *
  have hl2 : g5 < w2.heap.size := A5.lt
  clear B0 B1 Q1 P2 hg5
  go_wp2_with fail
  have D6 : Blk (w2.alloc (.cells #[.int .u64 0, .int .u64 0, .int .u64 0] 92)) w2.heap.size 92 (ints .u64 (nw (polyT r b 0))) := by rw [show polyT r b 0 = 0 from rfl, ← z3_eq]; exact blk_new w2 _ _
  have D0 := C0.alloc (.cells #[.int .u64 0, .int .u64 0, .int .u64 0] 92)
  have D1 := C1.alloc (.cells #[.int .u64 0, .int .u64 0, .int .u64 0] 92)
  have D5 := A5.alloc (.cells #[.int .u64 0, .int .u64 0, .int .u64 0] 92)
  have Q3 := Q2.alloc Q2.size (.cells #[.int .u64 0, .int .u64 0, .int .u64 0] 92)
  generalize hW : w2.alloc (.cells #[.int .u64 0, .int .u64 0, .int .u64 0] 92) = wa at *
  generalize hg6 : w2.heap.size = g6 at *
  clear C0 C1 A5 Q2 hW hg6
  go_loopg [1] KK (fun gk s1 wr => ∃ (k m : Nat) (p : Option Addr) (c : Nat), k + gk = KK ∧ s1 = .slice p m c ∧ Kept (m = n - 16 * k) ∧ Kept (BytesV (.slice p m c) w (b.drop (16 * k))) ∧ Below w.heap.size w wr ∧ Blk wr w.heap.size 22 (ints .u8 key) ∧ Blk wr (w.heap.size + 1) 46 (ints .u8 Z0) ∧ Blk wr g5 89 (ints .u64 R2) ∧ Blk wr g6 92 (ints .u64 (nw (polyT r b k))))
  case atStart => exact ⟨0, n, p0, c0, by omega, rfl, ⟨by omega⟩, ⟨KV.out⟩, Q3, D0, D1, D5, D6⟩
  case round =>
    obtain ⟨k, m, p, c, hik, rfl, Em, KB, HB, A0, A1, A5, A6⟩ := hrel
    clear Q3 D0 D1 D5 D6
    obtain ⟨PN, hPN⟩ : ∃ l, l = nw (polyT r b k) := ⟨_, rfl⟩
    have LPN : Kept (PN.length = 3) := ⟨by rw [hPN]; rfl⟩
    rw [← hPN] at A6
    have PB := polyT_lt r b BR.out KYB.out k
    by_cases hm : 0 < m
    case pos =>
      have hmi : (0 : Int) < (m : Int) := by omega
      obtain ⟨z, hz⟩ : ∃ z, z = min m 16 := ⟨_, rfl⟩
      obtain ⟨pc, hpc⟩ : ∃ l, l = (b.drop (16 * k)).take z := ⟨_, rfl⟩
      have hzm : z ≤ m := by omega
      have hlm : (b.drop (16 * k)).length = m := by rw [List.length_drop, ← EN.out, Em.out]
      have lpc : pc.length = z := by rw [hpc, List.length_take, hlm]; omega
      have hmc : m ≤ c := by obtain ⟨_, _, e1, h2, _⟩ := KB.out; rw [hlm] at e1 h2; cases e1; exact h2
      have zc : z ≤ c := by omega
      have VP : BytesV (.slice p z c) w pc := by
        rw [hpc]
        exact (bytesV_ints KB.out).take (by rw [hlm]; exact hzm)
      have YP : Bytes pc := by rw [hpc]; exact (KYB.out.drop _).take _
      have epc : pc = (b.drop (16 * k)).take 16 := by
        rw [hpc]
        by_cases h16 : m ≤ 16
        · rw [List.take_of_length_le (by rw [hlm]; omega), List.take_of_length_le (by rw [hlm]; omega)]
        · rw [show z = 16 by omega]
      obtain ⟨RD, hRD⟩ : ∃ l, l = nw (val (pc ++ [1])) := ⟨_, rfl⟩
      obtain ⟨SU, hSU⟩ : ∃ l, l = nw (polyT r b k + val (pc ++ [1])) := ⟨_, rfl⟩
      obtain ⟨TN, hTN⟩ : ∃ l, l = nw (polyT r b (k + 1)) := ⟨_, rfl⟩
      have LTN : Kept (TN.length = 3) := ⟨by rw [hTN]; rfl⟩
      have PL := piece_lt pc YP (by omega)
      have CR : Kept (∀ w', Below wr.heap.size wr w' → Calls Tryd.prog 56 [.slice p z c].toArray w' fun e w2 => e = .returned (.agg (ints .u64 RD)) ∧ Below w'.heap.size w' w2) := ⟨fun w' hb => by
        rw [hRD]
        have := readD pc p c w' (by omega) YP (by rw [lpc]; exact VP.under (HB.trans (hb.mono HB.size)))
        rw [lpc] at this
        exact this⟩
      have CP : Kept (∀ w', Below wr.heap.size wr w' → Calls Tryd.prog 55 [.agg (ints .u64 PN), .agg (ints .u64 RD)].toArray w' fun e w2 => e = .returned (.agg (ints .u64 SU)) ∧ Below w'.heap.size w' w2) := ⟨fun w' hb => by rw [hPN, hRD, hSU]; exact plusD _ _ w' (by omega)⟩
      have CT : Kept (∀ w', Below wr.heap.size wr w' → Calls Tryd.prog 57 [.agg (ints .u64 SU), .agg (ints .u64 R2)].toArray w' fun e w2 => e = .returned (.agg (ints .u64 TN)) ∧ Below w'.heap.size w' w2) := ⟨fun w' hb => by
        rw [hSU, hTN, ER2.out]
        show Calls _ _ _ _ fun e w2 => e = .returned (.agg (ints .u64 (nw (timesN (polyT r b k + val ((b.drop (16 * k)).take 16 ++ [1])) r)))) ∧ _
        rw [← epc]
        exact timesD _ r w' (by omega) BR.out BR0.out⟩
      have VD : Kept (BytesV (.slice (if c = z then p else p.map (·.add z)) (m - z) (c - z)) w (b.drop (16 * (k + 1)))) := ⟨by
        have h1 := KB.out
        rw [← hlm] at h1
        have h2 := h1.cut (k := z) (by rw [hlm]; exact hzm)
        rw [hlm, List.drop_drop] at h2
        have e : b.drop (16 * k + z) = b.drop (16 * (k + 1)) := by
          by_cases h16 : m ≤ 16
          · have h3 := Em.out; have h4 := EN.out
            rw [List.drop_of_length_le (by omega), List.drop_of_length_le (by omega)]
          · rw [show z = 16 by omega, Nat.mul_add]
        rw [e] at h2
        exact h2⟩
      obtain ⟨pf, hpf⟩ : ∃ q, q = if c = z then p else p.map (·.add z) := ⟨_, rfl⟩
      obtain ⟨mz, hmz⟩ : ∃ q, q = m - z := ⟨_, rfl⟩
      obtain ⟨cz, hcz⟩ : ∃ q, q = c - z := ⟨_, rfl⟩
      rw [← hpf, ← hmz, ← hcz] at VD
      have Em2 : Kept (mz = n - 16 * (k + 1)) := ⟨by have := Em.out; omega⟩
      have Hpf : Kept _ := ⟨hpf⟩
      have Hmz : Kept _ := ⟨hmz⟩
      have Hcz : Kept _ := ⟨hcz⟩
      clear hpf hmz hcz
      have hgk : gk ≠ 0 := by have h1 := Em.out; have h2 := EK.out; omega
      have Hz : Kept _ := ⟨hz⟩
      have zm : Kept (z ≤ m) := ⟨hzm⟩
      have ETN : Kept _ := ⟨hTN⟩
      clear hz hpc hlm lpc hmc VP YP epc hRD hSU hTN PL PB hPN hzm KB
      go_wp2_with (first | ((with_reducible refine wv_val (d := 15) ?hd ?hw (.int .i64 (z : Int)) ?hr ?_); (case hd => rfl); (case hw => kernel_rfl); (case hr => intro w; exact run_min2 (n := 16) rfl (by kernel_rfl) (by kernel_rfl) Hz.out w); simp only [Act.put, List.setIfInBounds_toArray, List.set_cons_succ, List.set_cons_zero]))
      refine region_ownL wr 8 [(16, .agg (ints .u64 PN)), (17, .slice p m c), (18, .int .i64 (z : Int)), (19, .slice p z c), (20, .agg (ints .u64 RD)), (21, .agg (ints .u64 SU)), (22, .agg (ints .u64 R2)), (23, .agg (ints .u64 TN))] [] [] [] rfl (by kernel_rfl) (by kernel_rfl) (by kernel_rfl) (by kernel_rfl) (by kernel_rfl) (by kernel_rfl) (by kernel_rfl) (by kernel_rfl) (by kernel_rfl) (by kernel_rfl) (by kernel_rfl) ?hst1 ?hst2 (Below.refl _ _) (fun hA => ⟨ow_row hA (wants_none rfl) 16 (.agg (ints .u64 PN)) (by kernel_rfl) rfl rfl rfl rfl (by kernel_rfl) 92 (.tmp 6) rfl (g6) (by kernel_rfl) 92 (ints .u64 PN) 3 33 Tryd.underlying92 ((by rw [ints_size, LPN.out]; exact nt_info)) (fun w1 hb => A6.under hb) rfl, ow_val hA (wants_none rfl) 17 (.slice p m c) (by kernel_rfl) rfl rfl rfl rfl (by kernel_rfl) (fun w => by kernel_rfl), ow_val hA (wants_none rfl) 18 (.int .i64 (z : Int)) (by kernel_rfl) rfl rfl rfl rfl (by kernel_rfl) (fun w => by kernel_rfl), ow_val hA (wants_none rfl) 19 (.slice p z c) (by kernel_rfl) rfl rfl rfl rfl (by kernel_rfl) (fun w => cutTo_run (l := m) rfl (by kernel_rfl) (by kernel_rfl) Tryd.underlying23 sz_u8 zc w), ow_calld hA (wants_none rfl) 20 (.agg (ints .u64 RD)) (by kernel_rfl) rfl rfl rfl rfl (by kernel_rfl) 56 Tryd.f56 _ [.tmp 19] _ [.slice p z c] rfl (by kernel_rfl) Tryd.func56 (by kernel_rfl) rfl (CR.out), ow_calld hA (wants_none rfl) 21 (.agg (ints .u64 SU)) (by kernel_rfl) rfl rfl rfl rfl (by kernel_rfl) 55 Tryd.f55 _ [.tmp 16, .tmp 20] _ [.agg (ints .u64 PN), .agg (ints .u64 RD)] rfl (by kernel_rfl) Tryd.func55 (by kernel_rfl) rfl (CP.out), ow_row hA (wants_none rfl) 22 (.agg (ints .u64 R2)) (by kernel_rfl) rfl rfl rfl rfl (by kernel_rfl) 89 (.tmp 5) rfl (g5) (by kernel_rfl) 89 (ints .u64 R2) 2 33 Tryd.underlying89 ((by rw [ints_size, LR2.out]; exact a2_info)) (fun w1 hb => A5.under hb) rfl, ow_calld hA (wants_none rfl) 23 (.agg (ints .u64 TN)) (by kernel_rfl) rfl rfl rfl rfl (by kernel_rfl) 57 Tryd.f57 _ [.tmp 21, .tmp 22] _ [.agg (ints .u64 SU), .agg (ints .u64 R2)] rfl (by kernel_rfl) Tryd.func57 (by kernel_rfl) rfl (CT.out), trivial⟩) ?_
      case hst1 => intro q hq; cases hq
      case hst2 => intro q hq; cases hq
      intro fv wt hf hD hwt
      simp only [putR, List.foldl_cons, List.foldl_nil, List.map_cons, List.map_nil, Act.put, List.setIfInBounds_toArray, List.set_cons_succ, List.set_cons_zero]
      have B0 := A0.under hwt
      have B1 := A1.under hwt
      have B5 := A5.under hwt
      have B6 := A6.under hwt
      have HB2 := HB.trans (hwt.mono HB.size)
      clear hf hD CR CP CT A0 A1 A5 A6 HB hwt
      refine wl_store rfl 92 (.tmp 6) (.tmp 23) rfl g6 (ints .u64 TN) (by kernel_rfl) (by kernel_rfl) _ B6 (by rw [ints_size, LTN.out]; exact nt_info) (by rw [ints_size, ints_size, LTN.out, LPN.out]) (ints_one _ _) ?_
      intro w4 E6 P4
      rw [ETN.out] at E6
      have E0 := P4.blk B0 (by omega)
      have E1 := P4.blk B1 (by omega)
      have E5 := P4.blk B5 (by omega)
      have HB4 := HB2.trans (P4.below (by omega))
      clear B0 B1 B5 B6 HB2 P4 ETN
      go_wp2_with (first | ((with_reducible refine wv_val (d := 26) ?hd ?hw (.slice pf mz cz) ?hr ?_); (case hd => rfl); (case hw => kernel_rfl); (case hr => intro w; exact cut_fr rfl (by kernel_rfl) (by kernel_rfl) Tryd.underlying23 sz_u8 zm.out Hpf.out Hmz.out Hcz.out w); simp only [Act.put, List.setIfInBounds_toArray, List.set_cons_succ, List.set_cons_zero]))
      go_roundg (gk - 1)
      case measure => omega
      case rel => exact ⟨k + 1, _, _, _, by omega, rfl, Em2, VD, HB4, E0, E1, E5, E6⟩
    case neg =>
      have hmi : ¬ (0 : Int) < (m : Int) := by omega
      have hkK : k = KK := by have h1 := Em.out; have h2 := EK.out; omega
      subst hkK
      obtain ⟨RE, hRE⟩ : ∃ l, l = nw (polyT r b k % 1361129467683753853853498429727072845819) := ⟨_, rfl⟩
      obtain ⟨AD, hAD⟩ : ∃ l, l = nw (sN key) := ⟨_, rfl⟩
      obtain ⟨SU, hSU⟩ : ∃ l, l = nw (polyT r b k % 1361129467683753853853498429727072845819 + sN key) := ⟨_, rfl⟩
      have CR : Kept (∀ w', Below wr.heap.size wr w' → Calls Tryd.prog 58 [.agg (ints .u64 PN)].toArray w' fun e w2 => e = .returned (.agg (ints .u64 RE)) ∧ Below w'.heap.size w' w2) := ⟨fun w' hb => by rw [hPN, hRE]; exact reducedD _ w' (by omega)⟩
      have CA : Kept (∀ w', Below wr.heap.size wr w' → Calls Tryd.prog 59 [.agg (ints .u8 key)].toArray w' fun e w2 => e = .returned (.agg (ints .u64 AD)) ∧ Below w'.heap.size w' w2) := ⟨fun w' hb => by rw [hAD]; exact CAd.out w'⟩
      have CP : Kept (∀ w', Below wr.heap.size wr w' → Calls Tryd.prog 55 [.agg (ints .u64 RE), .agg (ints .u64 AD)].toArray w' fun e w2 => e = .returned (.agg (ints .u64 SU)) ∧ Below w'.heap.size w' w2) := ⟨fun w' hb => by
        rw [hRE, hAD, hSU]
        have := HS.out
        exact plusD _ _ w' (by omega)⟩
      have CB : Kept (∀ w', Below wr.heap.size wr w' → Calls Tryd.prog 60 [.agg (ints .u64 SU)].toArray w' fun e w2 => e = .returned (.agg (ints .u8 L)) ∧ Below w'.heap.size w' w2) := ⟨fun w' hb => by rw [hSU, EL.out]; exact bytesD _ w'⟩
      clear hRE hAD hSU hPN PB EL CAd HS KB Em
      go_wp2_with fail
      refine region_ownL wr 6 [(27, .agg (ints .u64 PN)), (28, .agg (ints .u64 RE)), (29, .agg (ints .u8 key)), (30, .agg (ints .u64 AD)), (31, .agg (ints .u64 SU)), (32, .agg (ints .u8 L))] [] [] [] rfl (by kernel_rfl) (by kernel_rfl) (by kernel_rfl) (by kernel_rfl) (by kernel_rfl) (by kernel_rfl) (by kernel_rfl) (by kernel_rfl) (by kernel_rfl) (by kernel_rfl) (by kernel_rfl) ?hst1 ?hst2 (Below.refl _ _) (fun hA => ⟨ow_row hA (wants_none rfl) 27 (.agg (ints .u64 PN)) (by kernel_rfl) rfl rfl rfl rfl (by kernel_rfl) 92 (.tmp 6) rfl (g6) (by kernel_rfl) 92 (ints .u64 PN) 3 33 Tryd.underlying92 ((by rw [ints_size, LPN.out]; exact nt_info)) (fun w1 hb => A6.under hb) rfl, ow_calld hA (wants_none rfl) 28 (.agg (ints .u64 RE)) (by kernel_rfl) rfl rfl rfl rfl (by kernel_rfl) 58 Tryd.f58 _ [.tmp 27] _ [.agg (ints .u64 PN)] rfl (by kernel_rfl) Tryd.func58 (by kernel_rfl) rfl (CR.out), ow_row hA (wants_none rfl) 29 (.agg (ints .u8 key)) (by kernel_rfl) rfl rfl rfl rfl (by kernel_rfl) 22 (.tmp 2) rfl (w.heap.size) (by kernel_rfl) 22 (ints .u8 key) 32 5 Tryd.underlying22 ((by rw [ints_size, LK.out]; exact t32_info)) (fun w1 hb => A0.under hb) rfl, ow_calld hA (wants_none rfl) 30 (.agg (ints .u64 AD)) (by kernel_rfl) rfl rfl rfl rfl (by kernel_rfl) 59 Tryd.f59 _ [.tmp 29] _ [.agg (ints .u8 key)] rfl (by kernel_rfl) Tryd.func59 (by kernel_rfl) rfl (CA.out), ow_calld hA (wants_none rfl) 31 (.agg (ints .u64 SU)) (by kernel_rfl) rfl rfl rfl rfl (by kernel_rfl) 55 Tryd.f55 _ [.tmp 28, .tmp 30] _ [.agg (ints .u64 RE), .agg (ints .u64 AD)] rfl (by kernel_rfl) Tryd.func55 (by kernel_rfl) rfl (CP.out), ow_calld hA (wants_none rfl) 32 (.agg (ints .u8 L)) (by kernel_rfl) rfl rfl rfl rfl (by kernel_rfl) 60 Tryd.f60 _ [.tmp 31] _ [.agg (ints .u64 SU)] rfl (by kernel_rfl) Tryd.func60 (by kernel_rfl) rfl (CB.out), trivial⟩) ?_
      case hst1 => intro q hq; cases hq
      case hst2 => intro q hq; cases hq
      intro fv wt hf hD hwt
      simp only [putR, List.foldl_cons, List.foldl_nil, List.map_cons, List.map_nil, Act.put, List.setIfInBounds_toArray, List.set_cons_succ, List.set_cons_zero]
      refine wl_store rfl 46 (.tmp 4) (.tmp 32) rfl (w.heap.size + 1) (ints .u8 L) (by kernel_rfl) (by kernel_rfl) _ (A1.under hwt) (by rw [ints_size, LL.out]; exact a16_info) (by rw [ints_size, ints_size, LL.out, LZ.out]) (ints_one _ _) ?_
      intro w5 B1 P5
      go_wp2
      exact bodyPost_ret (v := .agg (ints .u8 L)) (results_cell_row Tryd.results34 _ _ _ 46 (ints .u8 L) (0, 0) _ rfl B1 Tryd.underlying46 rfl (by rw [ints_size, LL.out]; exact a16_info)) rfl ⟨rfl, (HB.trans (hwt.mono HB.size)).trans (P5.below (by omega))⟩
end Go.Proofs.YtkibojjbghopkaaDoor.sh
/-
  Texts compared, and the difference of two tags.
-/
namespace Go.Proofs.YtkibojjbghopkaaDoor.sh
open Go Go.RowKit
set_option linter.unusedVariables false
set_option linter.unusedSimpArgs false

/-- What is gathered behind i bytes. -/
def orT (a b : List Nat) : Nat → Nat
  | 0 => 0
  | i + 1 => orT a b i ||| (a.getD i 0 ^^^ b.getD i 0)
theorem getD_lt {l : List Nat} (h : Bytes l) (i : Nat) : l.getD i 0 < 256 := by
  rw [List.getD_eq_getElem?_getD]
  cases hx : l[i]? with
  | none => decide
  | some x => exact h i x hx
theorem orT_lt {a b : List Nat} (ha : Bytes a) (hb : Bytes b) : ∀ i, orT a b i < 256
  | 0 => by simp [orT]
  | i + 1 => Nat.or_lt_two_pow (n := 8) (orT_lt ha hb i) (Nat.xor_lt_two_pow (n := 8) (getD_lt ha i) (getD_lt hb i))
theorem xor_zero (x y : Nat) : x ^^^ y = 0 ↔ x = y := by
  constructor
  · intro h
    have h2 : (x ^^^ y) ^^^ y = 0 ^^^ y := by rw [h]
    rw [Nat.xor_assoc, Nat.xor_self, Nat.xor_zero, Nat.zero_xor] at h2
    exact h2
  · rintro rfl; exact Nat.xor_self _
theorem orT_zero (a b : List Nat) : ∀ n, orT a b n = 0 ↔ ∀ i, i < n → a.getD i 0 = b.getD i 0
  | 0 => by simp [orT]
  | n + 1 => by
    simp only [orT, Nat.or_eq_zero_iff, xor_zero, orT_zero a b n]
    constructor
    · rintro ⟨h1, h2⟩ i hi
      by_cases h : i < n
      · exact h1 i h
      · rw [show i = n by omega]; exact h2
    · exact fun h => ⟨fun i hi => h i (by omega), h n (by omega)⟩
theorem orT_same (a b : List Nat) (h : a.length = b.length) : decide (orT a b a.length = 0) = decide (a = b) := by
  refine decide_eq_decide.2 ?_
  rw [orT_zero]
  constructor
  · intro hi
    apply List.ext_getElem?
    intro i
    by_cases h1 : i < a.length
    · have := hi i h1
      rw [List.getD_eq_getElem?_getD, List.getD_eq_getElem?_getD, List.getElem?_eq_getElem h1, List.getElem?_eq_getElem (by omega)] at this
      rw [List.getElem?_eq_getElem h1, List.getElem?_eq_getElem (by omega)]
      simpa using this
    · rw [List.getElem?_eq_none (by omega), List.getElem?_eq_none (by omega)]
  · rintro rfl i _; rfl
theorem run_orV {o : Oper} {a : Act} {x y : Operand} {m n z : Nat} (ho : o.op = .binOp .or 5 x y 5) (hx : a.eval x = .int .u8 (m : Int)) (hy : a.eval y = .int .u8 (n : Int)) (hm : m < 256) (hn : n < 256) (hz : z = m ||| n) (w : World) : (execOp a.eval o).run Tryd.prog w = .ok (.value (.int .u8 (z : Int))) w := by
  have h := u8_or_nat m n hm hn
  unfold execOp
  simp only [ho, hx, hy]
  simp [go_sem, h, hz]
theorem run_eq08 {o : Oper} {a : Act} {x : Operand} {m : Nat} (b : Bool) (ho : o.op = .binOp .eql 5 x (.const (.int .u8 0)) 5) (hx : a.eval x = .int .u8 (m : Int)) (hb : b = decide (m = 0)) (w : World) : (execOp a.eval o).run Tryd.prog w = .ok (.value (.bool b)) w := by
  have e3 : a.eval (.const (.int .u8 0)) = .int .u8 0 := rfl
  unfold execOp
  simp only [ho, hx, e3]
  rw [hb]
  simp [go_sem]
  refine decide_eq_decide.2 ?_
  omega

set_option maxRecDepth 100000 in
set_option maxHeartbeats 1000000 in
theorem EqualD (a b : List Nat) (v u : Value) (w : World) (hya : Bytes a) (hyb : Bytes b) (hv : BytesV v w a) (hu : BytesV u w b) (hlen : a.length ≤ 1000000) :
    Calls Tryd.prog 18 #[v, u] w fun e w' => e = .returned (.bool (decide (a = b))) ∧ Below w.heap.size w w' := by
  have KA : Kept _ := ⟨hya⟩
  have KB : Kept _ := ⟨hyb⟩
  obtain ⟨p, c, rfl, h1, h2⟩ := hv
  obtain ⟨q, d, rfl, h3, h4⟩ := hu
  obtain ⟨n, hn⟩ : ∃ n, n = a.length := ⟨_, rfl⟩
  obtain ⟨m, hm⟩ : ∃ n, n = b.length := ⟨_, rfl⟩
  obtain ⟨R, hR⟩ : ∃ R, R = decide (a = b) := ⟨_, rfl⟩
  rw [← hn, ← hm, ← hR]
  have CA : Kept (∀ i x : Nat, a[i]? = some x → ∃ A, p = some A ∧ w.cell? (A.add i) = some (.int .u8 (x : Int))) := ⟨fun i x hx => by
    obtain ⟨A, e1, _, e2⟩ := h2 (by intro e; rw [e] at hx; cases hx)
    exact ⟨A, e1, e2 i x hx⟩⟩
  have CB : Kept (∀ i x : Nat, b[i]? = some x → ∃ A, q = some A ∧ w.cell? (A.add i) = some (.int .u8 (x : Int))) := ⟨fun i x hx => by
    obtain ⟨A, e1, _, e2⟩ := h4 (by intro e; rw [e] at hx; cases hx)
    exact ⟨A, e1, e2 i x hx⟩⟩
  have EN : Kept _ := ⟨hn⟩
  have EM : Kept _ := ⟨hm⟩
  have nB : n ≤ 1000000 := by rw [hn]; exact hlen
  clear hlen
  by_cases hnm : n = m
  case neg =>
    have hnmi : ¬ (n : Int) = (m : Int) := by omega
    have e : R = false := by rw [hR]; exact decide_eq_false (fun e => hnm (by rw [hn, hm, e]))
    subst e
    clear hn hm hR h1 h2 h3 h4 hya hyb
    go_enter Tryd.func18, Tryd.ntmps18
    go_wp2_with fail
    go_ret
    exact ⟨rfl, Below.refl _ _⟩
  case pos =>
    subst hnm
    have ER : Kept (R = decide (orT a b n = 0)) := ⟨by rw [hR, hn, orT_same a b (by rw [← hn, ← hm])]⟩
    clear hn hm hR h1 h2 h3 h4 hya hyb
    go_enter Tryd.func18, Tryd.ntmps18
    go_wp2_with fail
    go_loopg [5, 15] n (fun k s5 s15 wr => ∃ i z : Nat, i + k = n ∧ s5 = .int .u8 (z : Int) ∧ s15 = .int .i64 (i : Int) ∧ Kept (z = orT a b i) ∧ wr = w)
    case atStart => exact ⟨0, 0, by omega, rfl, rfl, ⟨rfl⟩, rfl⟩
    case round =>
      obtain ⟨i, z, hik, rfl, rfl, Hz, hww⟩ := hrel
      obtain rfl := hww.symm
      by_cases hi : i < n
      case pos =>
        have hii : (i : Int) < (n : Int) := by omega
        obtain ⟨x, hx⟩ : ∃ x, a[i]? = some x := ⟨_, List.getElem?_eq_getElem (by have := EN.out; omega)⟩
        obtain ⟨y, hy⟩ : ∃ y, b[i]? = some y := ⟨_, List.getElem?_eq_getElem (by have := EM.out; omega)⟩
        obtain ⟨A, rfl, cA⟩ := CA.out i x hx
        obtain ⟨B, rfl, cB⟩ := CB.out i y hy
        have x8 : x < 256 := KA.out i x hx
        have y8 : y < 256 := KB.out i y hy
        have z8 : z < 256 := by rw [Hz.out]; exact orT_lt KA.out KB.out i
        obtain ⟨t, ht⟩ : ∃ t, t = x ^^^ y := ⟨_, rfl⟩
        have t8 : t < 256 := by rw [ht]; exact Nat.xor_lt_two_pow (n := 8) x8 y8
        obtain ⟨s, hs⟩ : ∃ s, s = z ||| t := ⟨_, rfl⟩
        have Hs : Kept (s = orT a b (i + 1)) := ⟨by rw [hs, ht, Hz.out]; simp only [orT, List.getD_eq_getElem?_getD, hx, hy, Option.getD_some]⟩
        have Et : Kept _ := ⟨ht⟩
        have Es : Kept _ := ⟨hs⟩
        have KcA : Kept _ := ⟨cA⟩
        have KcB : Kept _ := ⟨cB⟩
        clear ht hs hx hy cA cB Hz
        go_wp2_with (first | ((with_reducible refine wv_val (d := 18) ?hd ?hw (.pointer (some (A.add i))) ?hr ?_); (case hd => rfl); (case hw => kernel_rfl); (case hr => intro w; exact run_idxS rfl (by kernel_rfl) (by kernel_rfl) Tryd.underlying23 hi sz_u8 w); simp only [Act.put, List.setIfInBounds_toArray, List.set_cons_succ, List.set_cons_zero]) | ((with_reducible refine wv_elem (d := 19) ?hd ?hw 5 ag_u8 (.tmp 18) ?ho (A.add i) ?hx (.int .u8 (x : Int)) ?hc ?_); (case hd => rfl); (case hw => kernel_rfl); (case ho => rfl); (case hx => kernel_rfl); (case hc => exact KcA.out); simp only [Act.put, List.setIfInBounds_toArray, List.set_cons_succ, List.set_cons_zero]) | ((with_reducible refine wv_val (d := 24) ?hd ?hw (.pointer (some (B.add i))) ?hr ?_); (case hd => rfl); (case hw => kernel_rfl); (case hr => intro w; exact run_idxS rfl (by kernel_rfl) (by kernel_rfl) Tryd.underlying23 hi sz_u8 w); simp only [Act.put, List.setIfInBounds_toArray, List.set_cons_succ, List.set_cons_zero]) | ((with_reducible refine wv_elem (d := 25) ?hd ?hw 5 ag_u8 (.tmp 24) ?ho (B.add i) ?hx (.int .u8 (y : Int)) ?hc ?_); (case hd => rfl); (case hw => kernel_rfl); (case ho => rfl); (case hx => kernel_rfl); (case hc => exact KcB.out); simp only [Act.put, List.setIfInBounds_toArray, List.set_cons_succ, List.set_cons_zero]) | ((with_reducible refine wv_val (d := 26) ?hd ?hw (.int .u8 (t : Int)) ?hr ?_); (case hd => rfl); (case hw => kernel_rfl); (case hr => intro w; exact run_xorV rfl (by kernel_rfl) (by kernel_rfl) x8 y8 Et.out w); simp only [Act.put, List.setIfInBounds_toArray, List.set_cons_succ, List.set_cons_zero]) | ((with_reducible refine wv_val (d := 27) ?hd ?hw (.int .u8 (s : Int)) ?hr ?_); (case hd => rfl); (case hw => kernel_rfl); (case hr => intro w; exact run_orV rfl (by kernel_rfl) (by kernel_rfl) z8 t8 Es.out w); simp only [Act.put, List.setIfInBounds_toArray, List.set_cons_succ, List.set_cons_zero]))
        go_roundg (gk - 1)
        case measure => omega
        case rel => exact ⟨i + 1, s, by omega, rfl, by go_num, Hs, rfl⟩
      case neg =>
        have hii : ¬ (i : Int) < (n : Int) := by omega
        obtain rfl : n = i := by omega
        have Hb : Kept (R = decide (z = 0)) := ⟨by rw [ER.out, Hz.out]⟩
        clear ER Hz
        go_wp2_with (first | ((with_reducible refine wv_val (d := 30) ?hd ?hw (.bool R) ?hr ?_); (case hd => rfl); (case hw => kernel_rfl); (case hr => intro w; exact run_eq08 R rfl (by kernel_rfl) Hb.out w); simp only [Act.put, List.setIfInBounds_toArray, List.set_cons_succ, List.set_cons_zero]))
        go_ret
        exact ⟨rfl, Below.refl _ _⟩

end Go.Proofs.YtkibojjbghopkaaDoor.sh
/-
  The answers that the document fixes for layer 6 are as they must be.
-/
namespace Go.Proofs.YtkibojjbghopkaaDoor.sh
open Go Go.RowKit
set_option linter.unusedVariables false
set_option linter.unusedSimpArgs false

end Go.Proofs.YtkibojjbghopkaaDoor.sh
/-
  TagBlocks and TagOne, walked.
-/
namespace Go.Proofs.YtkibojjbghopkaaDoor.sh
open Go Go.RowKit
set_option linter.unusedVariables false
set_option linter.unusedSimpArgs false

end Go.Proofs.YtkibojjbghopkaaDoor.sh
/-
  TagBits, walked.
-/
namespace Go.Proofs.YtkibojjbghopkaaDoor.sh
open Go Go.RowKit
set_option linter.unusedVariables false
set_option linter.unusedSimpArgs false

end Go.Proofs.YtkibojjbghopkaaDoor.sh
/-
  Arguments: sixteen bytes; two slices of bytes; two slices, a number of 16 bits and a byte.
-/
namespace Go.Proofs.YtkibojjbghopkaaDoor.sh
open Go Go.ChangeShapes Go.WideShapes Go.ChangeAt Go.RowKit
set_option linter.unusedVariables false
set_option linter.unusedSimpArgs false

end Go.Proofs.YtkibojjbghopkaaDoor.sh
/-
  Slices of ints that a call owns; the reference's carry.
-/
namespace Go.Proofs.YtkibojjbghopkaaDoor.sh
open Go Go.RowKit
set_option linter.unusedVariables false
set_option linter.unusedSimpArgs false

/-- A slice of ints in a block of its own. -/
def OI (base g n cap : Nat) (l : List Nat) (w : World) : Prop := base ≤ g ∧ l.length = n ∧ n ≤ cap ∧ cap ≤ maxLen ∧ ∃ cur, Blk w g 3 cur ∧ cur.size = cap ∧ ∀ (i x : Nat), l[i]? = some x → cur[i]? = some (.int .i64 (x : Int))
theorem OI.len {base g n cap : Nat} {l : List Nat} {w : World} (h : OI base g n cap l w) : l.length = n := h.2.1
theorem OI.lt {base g n cap : Nat} {l : List Nat} {w : World} (h : OI base g n cap l w) : g < w.heap.size := by obtain ⟨_, _, _, _, cur, hB, _⟩ := h; exact hB.lt
theorem OI.cell {base g n cap : Nat} {l : List Nat} {w : World} (h : OI base g n cap l w) {i x : Nat} (hx : l[i]? = some x) : w.cell? ⟨g, i, none⟩ = some (.int .i64 (x : Int)) := by
  obtain ⟨_, _, _, _, cur, hB, _, hc⟩ := h
  exact hB.cell (hc i x hx)
theorem OI.under {base g n cap : Nat} {l : List Nat} {w w' : World} (h : OI base g n cap l w) (hb : Below w.heap.size w w') : OI base g n cap l w' := by
  obtain ⟨h1, h2, h3, h4, cur, hB, hs, hc⟩ := h
  exact ⟨h1, h2, h3, h4, cur, hB.under hb, hs, hc⟩
theorem OI.alloc {base g n cap : Nat} {l : List Nat} {w : World} (h : OI base g n cap l w) (o : Obj) : OI base g n cap l (w.alloc o) := by
  obtain ⟨h1, h2, h3, h4, cur, hB, hs, hc⟩ := h
  exact ⟨h1, h2, h3, h4, cur, hB.alloc o, hs, hc⟩
theorem OI.put {base g n cap k : Nat} {l : List Nat} {w w' : World} (h : OI base g n cap l w) (hp : Put w w' k) (hne : g ≠ k) : OI base g n cap l w' := by
  obtain ⟨h1, h2, h3, h4, cur, hB, hs, hc⟩ := h
  exact ⟨h1, h2, h3, h4, cur, hp.blk hB hne, hs, hc⟩
theorem OI.mono {base b' g n cap : Nat} {l : List Nat} {w : World} (h : OI base g n cap l w) (hb : b' ≤ base) : OI b' g n cap l w := ⟨Nat.le_trans hb h.1, h.2⟩
theorem OI.ints {base g n cap : Nat} {l : List Nat} {w : World} (h : OI base g n cap l w) : IntsV .i64 (.slice (some ⟨g, 0, none⟩) n cap) w l := by
  have hl := h.len
  subst hl
  refine ⟨some ⟨g, 0, none⟩, cap, rfl, h.2.2.1, fun _ => ⟨⟨g, 0, none⟩, rfl, h.lt, fun j x hx => ?_⟩⟩
  rw [addr_add, Nat.zero_add]
  exact h.cell hx
theorem OI.holds {base g n cap : Nat} {l : List Nat} {w : World} (h : OI base g n cap l w) : Holds w g l :=
  ⟨h.lt, fun j hj => h.cell (by rw [List.getD_eq_getElem?_getD, List.getElem?_eq_getElem hj]; rfl)⟩
section
variable {ops : Array Oper} {rest : List Oper} {o : Oper} {a : Act} {w : World} {Q : Exit → Act → World → Prop}
end
end Go.Proofs.YtkibojjbghopkaaDoor.sh
/-
  What the reference's Sum wants, as plain numbers; its single operations.
-/
namespace Go.Proofs.YtkibojjbghopkaaDoor.sh
open Go Go.RowKit
set_option linter.unusedVariables false
set_option linter.unusedSimpArgs false

end Go.Proofs.YtkibojjbghopkaaDoor.sh
/-
  The reference's block: pieces.
-/
namespace Go.Proofs.YtkibojjbghopkaaDoor.sh
open Go Go.RowKit
set_option linter.unusedVariables false
set_option linter.unusedSimpArgs false

theorem app_below {w0 w w' : World} {v : Value} {B : Nat} {e : TypeId} {k : IntKind} {l : List Nat} (h : Below B w0 w) (hB : B ≤ w.heap.size) (hr : Row B e k l v w) (hg : w.grownBy w' (blkOf v)) : Below B w0 w' := h.trans (grown_mono hg hB (fun b hb => (hr.range b hb).1))
theorem run_addN {o : Oper} {a : Act} {x y : Operand} {i j z : Nat} (ho : o.op = .binOp .add 3 x y 3) (hx : a.eval x = .int .i64 (i : Int)) (hy : a.eval y = .int .i64 (j : Int)) (hz : z = i + j) (hi : z < 4611686018427387904) (w : World) : (execOp a.eval o).run Tryd.prog w = .ok (.value (.int .i64 (z : Int))) w := by
  subst hz
  exact run_addV ho hx hy hi w
end Go.Proofs.YtkibojjbghopkaaDoor.sh
/-
  The reference: bytes turned by blocks.
-/
namespace Go.Proofs.YtkibojjbghopkaaDoor.sh
open Go Go.RowKit
set_option linter.unusedVariables false
set_option linter.unusedSimpArgs false

end Go.Proofs.YtkibojjbghopkaaDoor.sh
