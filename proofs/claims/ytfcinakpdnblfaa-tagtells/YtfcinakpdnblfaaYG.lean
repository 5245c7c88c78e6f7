/-
  The tag of bytes, by the program.
-/
import Derived.Test.YtfcinakpdnblfaaYF
namespace Go.Proofs.Ytfcinakpdnblfaa.sh
open Go Go.RowKit
set_option linter.unusedVariables false
set_option linter.unusedSimpArgs false

theorem cut_fr {o : Oper} {a : Act} {x y : Operand} {p pf : Option Addr} {l c k mm cc : Nat} {t e : TypeId} (ho : o.op = .slice t x (some y) none none) (hx : a.eval x = .slice p l c) (hy : a.eval y = .int .i64 (k : Int)) (ht : Try.prog.underlying t = some (.slice e)) (sz : ∀ w, (sizeOf e).run Try.prog w = .ok 1 w) (hk : k ≤ l) (hpf : pf = if c = k then p else p.map (·.add k)) (hmm : mm = l - k) (hcc : cc = c - k) (w : World) :
    (execOp a.eval o).run Try.prog w = .ok (.value (.slice pf mm cc)) w := by
  rw [hpf, hmm, hcc]
  exact cut_run ho hx hy ht sz hk w
theorem z3_eq : (#[.int .u64 0, .int .u64 0, .int .u64 0] : Array Value) = ints .u64 (nw 0) := by kernel_rfl
set_option maxRecDepth 100000 in
set_option maxHeartbeats 2000000 in
theorem SumD (key b : List Nat) (v : Value) (w : World) (hk : key.length = 32) (hy : Bytes key) (hyb : Bytes b) (hv : BytesV v w b) :
    Calls Try.prog 10 #[.agg (ints .u8 key), v] w fun e w' => e = .returned (.agg (ints .u8 (tagL key b))) ∧ Below w.heap.size w w' := by
  have LK : Kept _ := ⟨hk⟩
  have KYB : Kept _ := ⟨hyb⟩
  have CF : Kept (∀ w', Calls Try.prog 14 #[.agg (ints .u8 key)] w' fun e w2 => e = .returned (.agg (ints .u64 (nw2 (rN key)))) ∧ Below w'.heap.size w' w2) := ⟨fun w' => factorD key w' hk hy⟩
  obtain ⟨r, hr⟩ : ∃ r, r = rN key := ⟨_, rfl⟩
  have BR : Kept (r < 21267647932558653966460912964485513216) := ⟨by rw [hr]; exact rN_lt key hk hy⟩
  have BR0 : Kept (wd r 0 < 1152921504606846976) := ⟨by rw [hr]; exact rN_low key hk hy⟩
  obtain ⟨KK, hKK⟩ : ∃ n, n = (b.length + 15) / 16 := ⟨_, rfl⟩
  obtain ⟨L, hL⟩ : ∃ L, L = tagL key b := ⟨_, rfl⟩
  have EL : Kept (L = digs (polyT r b KK % 1361129467683753853853498429727072845819 + sN key) 16) := ⟨by rw [hL, hr, hKK]; rfl⟩
  have LL : Kept (L.length = 16) := ⟨by rw [hL]; exact tagL_len _ _⟩
  have HS : Kept (sN key < 340282366920938463463374607431768211456) := ⟨sN_lt key hk hy⟩
  have CAd : Kept (∀ w', Calls Try.prog 19 #[.agg (ints .u8 key)] w' fun e w2 => e = .returned (.agg (ints .u64 (nw (sN key)))) ∧ Below w'.heap.size w' w2) := ⟨fun w' => addendD key w' hk hy⟩
  obtain ⟨p0, c0, rfl, hc0, _⟩ := id hv
  have KV : Kept _ := ⟨hv⟩
  rw [← hL]
  rw [← hr] at CF
  obtain ⟨R2, hR2⟩ : ∃ l, l = nw2 r := ⟨_, rfl⟩
  rw [← hR2] at CF
  have LR2 : Kept (R2.length = 2) := ⟨by rw [hR2]; rfl⟩
  have ER2 : Kept _ := ⟨hR2⟩
  obtain ⟨n, hn⟩ : ∃ n, n = b.length := ⟨_, rfl⟩
  rw [← hn] at KV hKK ⊢
  have EN : Kept _ := ⟨hn⟩
  have EK : Kept _ := ⟨hKK⟩
  obtain ⟨Z0, hZ0⟩ : ∃ Z, Z = List.replicate 16 0 := ⟨_, rfl⟩
  have LZ : Kept (Z0.length = 16) := ⟨by rw [hZ0]; rfl⟩
  have A0 : Blk ((w.alloc (.cells (ints .u8 key) 22)).alloc (.cells #[.int .u8 0, .int .u8 0, .int .u8 0, .int .u8 0, .int .u8 0, .int .u8 0, .int .u8 0, .int .u8 0, .int .u8 0, .int .u8 0, .int .u8 0, .int .u8 0, .int .u8 0, .int .u8 0, .int .u8 0, .int .u8 0] 25)) w.heap.size 22 (ints .u8 key) := (blk_new w _ _).alloc _
  have A1 : Blk ((w.alloc (.cells (ints .u8 key) 22)).alloc (.cells #[.int .u8 0, .int .u8 0, .int .u8 0, .int .u8 0, .int .u8 0, .int .u8 0, .int .u8 0, .int .u8 0, .int .u8 0, .int .u8 0, .int .u8 0, .int .u8 0, .int .u8 0, .int .u8 0, .int .u8 0, .int .u8 0] 25)) (w.heap.size + 1) 25 (ints .u8 Z0) := by rw [hZ0, ← z16b_eq]; exact blk_top _ _ _ _ (by simp)
  have Q0 : Below w.heap.size w ((w.alloc (.cells (ints .u8 key) 22)).alloc (.cells #[.int .u8 0, .int .u8 0, .int .u8 0, .int .u8 0, .int .u8 0, .int .u8 0, .int .u8 0, .int .u8 0, .int .u8 0, .int .u8 0, .int .u8 0, .int .u8 0, .int .u8 0, .int .u8 0, .int .u8 0, .int .u8 0] 25)) := ((Below.refl _ _).alloc (Nat.le_refl _) _).alloc (by simp) _
  clear hk hy hyb hr hKK hL hv hR2 hn hZ0 hc0
  go_enter Try.func10, Try.ntmps10
  go_wp2_with (first | ((with_reducible refine wv_row (d := 8) ?hd ?hw 22 (.tmp 2) ?ho (w.heap.size) ?hx (t' := 22) (ints .u8 key) _ _ Try.underlying22 ?hs ?hg ?_); (case hd => rfl); (case hw => kernel_rfl); (case ho => rfl); (case hx => kernel_rfl); (case hs => rw [ints_size, LK.out]; exact t32_info); (case hg => exact A0); simp only [Act.put, List.setIfInBounds_toArray, List.set_cons_succ, List.set_cons_zero]))
  refine (CF.out _).mono ?_
  rintro e w1 ⟨rfl, hb1⟩
  have B0 := A0.under hb1
  have B1 := A1.under hb1
  have Q1 := Q0.trans (hb1.mono Q0.size)
  have hl1 : w.heap.size + 1 < w1.heap.size := B1.lt
  clear A0 A1 Q0 hb1 CF
  go_wp2_with (first | (refine wl_store rfl 40 (.tmp 5) (.tmp 9) rfl w1.heap.size (ints .u64 R2) rfl rfl _ (blk_new w1 _ _) (by rw [ints_size, LR2.out]; exact a2_info) (by rw [ints_size, LR2.out]; rfl) (ints_one _ _) ?_))
  intro w2 A5 P2
  have C0 := P2.blk (B0.alloc _) (by omega)
  have C1 := P2.blk (B1.alloc _) (by omega)
  have Q2 := (Q1.alloc Q1.size _).trans (P2.below (by omega))
  generalize hg5 : w1.heap.size = g5 at *
  have hl2 : g5 < w2.heap.size := A5.lt
  clear B0 B1 Q1 P2 hg5
  go_wp2_with fail
  have D6 : Blk (w2.alloc (.cells #[.int .u64 0, .int .u64 0, .int .u64 0] 43)) w2.heap.size 43 (ints .u64 (nw (polyT r b 0))) := by rw [show polyT r b 0 = 0 from rfl, ← z3_eq]; exact blk_new w2 _ _
  have D0 := C0.alloc (.cells #[.int .u64 0, .int .u64 0, .int .u64 0] 43)
  have D1 := C1.alloc (.cells #[.int .u64 0, .int .u64 0, .int .u64 0] 43)
  have D5 := A5.alloc (.cells #[.int .u64 0, .int .u64 0, .int .u64 0] 43)
  have Q3 := Q2.alloc Q2.size (.cells #[.int .u64 0, .int .u64 0, .int .u64 0] 43)
  generalize hW : w2.alloc (.cells #[.int .u64 0, .int .u64 0, .int .u64 0] 43) = wa at *
  generalize hg6 : w2.heap.size = g6 at *
  clear C0 C1 A5 Q2 hW hg6
  go_loopg [1] KK (fun gk s1 wr => ∃ (k m : Nat) (p : Option Addr) (c : Nat), k + gk = KK ∧ s1 = .slice p m c ∧ Kept (m = n - 16 * k) ∧ Kept (BytesV (.slice p m c) w (b.drop (16 * k))) ∧ Below w.heap.size w wr ∧ Blk wr w.heap.size 22 (ints .u8 key) ∧ Blk wr (w.heap.size + 1) 25 (ints .u8 Z0) ∧ Blk wr g5 40 (ints .u64 R2) ∧ Blk wr g6 43 (ints .u64 (nw (polyT r b k))))
  case atStart => exact ⟨0, n, p0, c0, by omega, rfl, ⟨by omega⟩, ⟨KV.out⟩, Q3, D0, D1, D5, D6⟩
  case round =>
    obtain ⟨k, m, p, c, hik, rfl, Em, KB, HB, A0, A1, A5, A6⟩ := hrel
    clear Q3 D0 D1 D5 D6
    obtain ⟨PN, hPN⟩ : ∃ l, l = nw (polyT r b k) := ⟨_, rfl⟩
    have LPN : Kept (PN.length = 3) := ⟨by rw [hPN]; rfl⟩
    rw [← hPN] at A6
    have PB := polyT_lt r b BR.out KYB.out k
    by_cases hm : 0 < m
    case pos =>
      have hmi : (0 : Int) < (m : Int) := by omega
      obtain ⟨z, hz⟩ : ∃ z, z = min m 16 := ⟨_, rfl⟩
      obtain ⟨pc, hpc⟩ : ∃ l, l = (b.drop (16 * k)).take z := ⟨_, rfl⟩
      have hzm : z ≤ m := by omega
      have hlm : (b.drop (16 * k)).length = m := by rw [List.length_drop, ← EN.out, Em.out]
      have lpc : pc.length = z := by rw [hpc, List.length_take, hlm]; omega
      have hmc : m ≤ c := by obtain ⟨_, _, e1, h2, _⟩ := KB.out; rw [hlm] at e1 h2; cases e1; exact h2
      have zc : z ≤ c := by omega
      have VP : BytesV (.slice p z c) w pc := by
        rw [hpc]
        exact (bytesV_ints KB.out).take (by rw [hlm]; exact hzm)
      have YP : Bytes pc := by rw [hpc]; exact (KYB.out.drop _).take _
      have epc : pc = (b.drop (16 * k)).take 16 := by
        rw [hpc]
        by_cases h16 : m ≤ 16
        · rw [List.take_of_length_le (by rw [hlm]; omega), List.take_of_length_le (by rw [hlm]; omega)]
        · rw [show z = 16 by omega]
      obtain ⟨RD, hRD⟩ : ∃ l, l = nw (val (pc ++ [1])) := ⟨_, rfl⟩
      obtain ⟨SU, hSU⟩ : ∃ l, l = nw (polyT r b k + val (pc ++ [1])) := ⟨_, rfl⟩
      obtain ⟨TN, hTN⟩ : ∃ l, l = nw (polyT r b (k + 1)) := ⟨_, rfl⟩
      have LTN : Kept (TN.length = 3) := ⟨by rw [hTN]; rfl⟩
      have PL := piece_lt pc YP (by omega)
      have CR : Kept (∀ w', Below wr.heap.size wr w' → Calls Try.prog 16 [.slice p z c].toArray w' fun e w2 => e = .returned (.agg (ints .u64 RD)) ∧ Below w'.heap.size w' w2) := ⟨fun w' hb => by
        rw [hRD]
        have := readD pc p c w' (by omega) YP (by rw [lpc]; exact VP.under (HB.trans (hb.mono HB.size)))
        rw [lpc] at this
        exact this⟩
      have CP : Kept (∀ w', Below wr.heap.size wr w' → Calls Try.prog 15 [.agg (ints .u64 PN), .agg (ints .u64 RD)].toArray w' fun e w2 => e = .returned (.agg (ints .u64 SU)) ∧ Below w'.heap.size w' w2) := ⟨fun w' hb => by rw [hPN, hRD, hSU]; exact plusD _ _ w' (by omega)⟩
      have CT : Kept (∀ w', Below wr.heap.size wr w' → Calls Try.prog 17 [.agg (ints .u64 SU), .agg (ints .u64 R2)].toArray w' fun e w2 => e = .returned (.agg (ints .u64 TN)) ∧ Below w'.heap.size w' w2) := ⟨fun w' hb => by
        rw [hSU, hTN, ER2.out]
        show Calls _ _ _ _ fun e w2 => e = .returned (.agg (ints .u64 (nw (timesN (polyT r b k + val ((b.drop (16 * k)).take 16 ++ [1])) r)))) ∧ _
        rw [← epc]
        exact timesD _ r w' (by omega) BR.out BR0.out⟩
      have VD : Kept (BytesV (.slice (if c = z then p else p.map (·.add z)) (m - z) (c - z)) w (b.drop (16 * (k + 1)))) := ⟨by
        have h1 := KB.out
        rw [← hlm] at h1
        have h2 := h1.cut (k := z) (by rw [hlm]; exact hzm)
        rw [hlm, List.drop_drop] at h2
        have e : b.drop (16 * k + z) = b.drop (16 * (k + 1)) := by
          by_cases h16 : m ≤ 16
          · have h3 := Em.out; have h4 := EN.out
            rw [List.drop_of_length_le (by omega), List.drop_of_length_le (by omega)]
          · rw [show z = 16 by omega, Nat.mul_add]
        rw [e] at h2
        exact h2⟩
      obtain ⟨pf, hpf⟩ : ∃ q, q = if c = z then p else p.map (·.add z) := ⟨_, rfl⟩
      obtain ⟨mz, hmz⟩ : ∃ q, q = m - z := ⟨_, rfl⟩
      obtain ⟨cz, hcz⟩ : ∃ q, q = c - z := ⟨_, rfl⟩
      rw [← hpf, ← hmz, ← hcz] at VD
      have Em2 : Kept (mz = n - 16 * (k + 1)) := ⟨by have := Em.out; omega⟩
      have Hpf : Kept _ := ⟨hpf⟩
      have Hmz : Kept _ := ⟨hmz⟩
      have Hcz : Kept _ := ⟨hcz⟩
      clear hpf hmz hcz
      have hgk : gk ≠ 0 := by have h1 := Em.out; have h2 := EK.out; omega
      have Hz : Kept _ := ⟨hz⟩
      have zm : Kept (z ≤ m) := ⟨hzm⟩
      have ETN : Kept _ := ⟨hTN⟩
      clear hz hpc hlm lpc hmc VP YP epc hRD hSU hTN PL PB hPN hzm KB
      go_wp2_with (first | ((with_reducible refine wv_val (d := 15) ?hd ?hw (.int .i64 (z : Int)) ?hr ?_); (case hd => rfl); (case hw => kernel_rfl); (case hr => intro w; exact run_min2 (n := 16) rfl (by kernel_rfl) (by kernel_rfl) Hz.out w); simp only [Act.put, List.setIfInBounds_toArray, List.set_cons_succ, List.set_cons_zero]))
      refine region_ownL wr 8 [(16, .agg (ints .u64 PN)), (17, .slice p m c), (18, .int .i64 (z : Int)), (19, .slice p z c), (20, .agg (ints .u64 RD)), (21, .agg (ints .u64 SU)), (22, .agg (ints .u64 R2)), (23, .agg (ints .u64 TN))] [] [] [] rfl (by kernel_rfl) (by kernel_rfl) (by kernel_rfl) (by kernel_rfl) (by kernel_rfl) (by kernel_rfl) (by kernel_rfl) (by kernel_rfl) (by kernel_rfl) (by kernel_rfl) (by kernel_rfl) ?hst1 ?hst2 (Below.refl _ _) (fun hA => ⟨ow_row hA (wants_none rfl) 16 (.agg (ints .u64 PN)) (by kernel_rfl) rfl rfl rfl rfl (by kernel_rfl) 43 (.tmp 6) rfl (g6) (by kernel_rfl) 43 (ints .u64 PN) 3 39 Try.underlying43 ((by rw [ints_size, LPN.out]; exact nt_info)) (fun w1 hb => A6.under hb) rfl, ow_val hA (wants_none rfl) 17 (.slice p m c) (by kernel_rfl) rfl rfl rfl rfl (by kernel_rfl) (fun w => by kernel_rfl), ow_val hA (wants_none rfl) 18 (.int .i64 (z : Int)) (by kernel_rfl) rfl rfl rfl rfl (by kernel_rfl) (fun w => by kernel_rfl), ow_val hA (wants_none rfl) 19 (.slice p z c) (by kernel_rfl) rfl rfl rfl rfl (by kernel_rfl) (fun w => cutTo_run (l := m) rfl (by kernel_rfl) (by kernel_rfl) Try.underlying23 sz_u8 zc w), ow_calld hA (wants_none rfl) 20 (.agg (ints .u64 RD)) (by kernel_rfl) rfl rfl rfl rfl (by kernel_rfl) 16 Try.f16 _ [.tmp 19] _ [.slice p z c] rfl (by kernel_rfl) Try.func16 (by kernel_rfl) rfl (CR.out), ow_calld hA (wants_none rfl) 21 (.agg (ints .u64 SU)) (by kernel_rfl) rfl rfl rfl rfl (by kernel_rfl) 15 Try.f15 _ [.tmp 16, .tmp 20] _ [.agg (ints .u64 PN), .agg (ints .u64 RD)] rfl (by kernel_rfl) Try.func15 (by kernel_rfl) rfl (CP.out), ow_row hA (wants_none rfl) 22 (.agg (ints .u64 R2)) (by kernel_rfl) rfl rfl rfl rfl (by kernel_rfl) 40 (.tmp 5) rfl (g5) (by kernel_rfl) 40 (ints .u64 R2) 2 39 Try.underlying40 ((by rw [ints_size, LR2.out]; exact a2_info)) (fun w1 hb => A5.under hb) rfl, ow_calld hA (wants_none rfl) 23 (.agg (ints .u64 TN)) (by kernel_rfl) rfl rfl rfl rfl (by kernel_rfl) 17 Try.f17 _ [.tmp 21, .tmp 22] _ [.agg (ints .u64 SU), .agg (ints .u64 R2)] rfl (by kernel_rfl) Try.func17 (by kernel_rfl) rfl (CT.out), trivial⟩) ?_
      case hst1 => intro q hq; cases hq
      case hst2 => intro q hq; cases hq
      intro fv wt hf hD hwt
      simp only [putR, List.foldl_cons, List.foldl_nil, List.map_cons, List.map_nil, Act.put, List.setIfInBounds_toArray, List.set_cons_succ, List.set_cons_zero]
      have B0 := A0.under hwt
      have B1 := A1.under hwt
      have B5 := A5.under hwt
      have B6 := A6.under hwt
      have HB2 := HB.trans (hwt.mono HB.size)
      clear hf hD CR CP CT A0 A1 A5 A6 HB hwt
      refine wl_store rfl 43 (.tmp 6) (.tmp 23) rfl g6 (ints .u64 TN) (by kernel_rfl) (by kernel_rfl) _ B6 (by rw [ints_size, LTN.out]; exact nt_info) (by rw [ints_size, ints_size, LTN.out, LPN.out]) (ints_one _ _) ?_
      intro w4 E6 P4
      rw [ETN.out] at E6
      have E0 := P4.blk B0 (by omega)
      have E1 := P4.blk B1 (by omega)
      have E5 := P4.blk B5 (by omega)
      have HB4 := HB2.trans (P4.below (by omega))
      clear B0 B1 B5 B6 HB2 P4 ETN
      go_wp2_with (first | ((with_reducible refine wv_val (d := 26) ?hd ?hw (.slice pf mz cz) ?hr ?_); (case hd => rfl); (case hw => kernel_rfl); (case hr => intro w; exact cut_fr rfl (by kernel_rfl) (by kernel_rfl) Try.underlying23 sz_u8 zm.out Hpf.out Hmz.out Hcz.out w); simp only [Act.put, List.setIfInBounds_toArray, List.set_cons_succ, List.set_cons_zero]))
      go_roundg (gk - 1)
      case measure => omega
      case rel => exact ⟨k + 1, _, _, _, by omega, rfl, Em2, VD, HB4, E0, E1, E5, E6⟩
    case neg =>
      have hmi : ¬ (0 : Int) < (m : Int) := by omega
      have hkK : k = KK := by have h1 := Em.out; have h2 := EK.out; omega
      subst hkK
      obtain ⟨RE, hRE⟩ : ∃ l, l = nw (polyT r b k % 1361129467683753853853498429727072845819) := ⟨_, rfl⟩
      obtain ⟨AD, hAD⟩ : ∃ l, l = nw (sN key) := ⟨_, rfl⟩
      obtain ⟨SU, hSU⟩ : ∃ l, l = nw (polyT r b k % 1361129467683753853853498429727072845819 + sN key) := ⟨_, rfl⟩
      have CR : Kept (∀ w', Below wr.heap.size wr w' → Calls Try.prog 18 [.agg (ints .u64 PN)].toArray w' fun e w2 => e = .returned (.agg (ints .u64 RE)) ∧ Below w'.heap.size w' w2) := ⟨fun w' hb => by rw [hPN, hRE]; exact reducedD _ w' (by omega)⟩
      have CA : Kept (∀ w', Below wr.heap.size wr w' → Calls Try.prog 19 [.agg (ints .u8 key)].toArray w' fun e w2 => e = .returned (.agg (ints .u64 AD)) ∧ Below w'.heap.size w' w2) := ⟨fun w' hb => by rw [hAD]; exact CAd.out w'⟩
      have CP : Kept (∀ w', Below wr.heap.size wr w' → Calls Try.prog 15 [.agg (ints .u64 RE), .agg (ints .u64 AD)].toArray w' fun e w2 => e = .returned (.agg (ints .u64 SU)) ∧ Below w'.heap.size w' w2) := ⟨fun w' hb => by
        rw [hRE, hAD, hSU]
        have := HS.out
        exact plusD _ _ w' (by omega)⟩
      have CB : Kept (∀ w', Below wr.heap.size wr w' → Calls Try.prog 20 [.agg (ints .u64 SU)].toArray w' fun e w2 => e = .returned (.agg (ints .u8 L)) ∧ Below w'.heap.size w' w2) := ⟨fun w' hb => by rw [hSU, EL.out]; exact bytesD _ w'⟩
      clear hRE hAD hSU hPN PB EL CAd HS KB Em
      go_wp2_with fail
      refine region_ownL wr 6 [(27, .agg (ints .u64 PN)), (28, .agg (ints .u64 RE)), (29, .agg (ints .u8 key)), (30, .agg (ints .u64 AD)), (31, .agg (ints .u64 SU)), (32, .agg (ints .u8 L))] [] [] [] rfl (by kernel_rfl) (by kernel_rfl) (by kernel_rfl) (by kernel_rfl) (by kernel_rfl) (by kernel_rfl) (by kernel_rfl) (by kernel_rfl) (by kernel_rfl) (by kernel_rfl) (by kernel_rfl) ?hst1 ?hst2 (Below.refl _ _) (fun hA => ⟨ow_row hA (wants_none rfl) 27 (.agg (ints .u64 PN)) (by kernel_rfl) rfl rfl rfl rfl (by kernel_rfl) 43 (.tmp 6) rfl (g6) (by kernel_rfl) 43 (ints .u64 PN) 3 39 Try.underlying43 ((by rw [ints_size, LPN.out]; exact nt_info)) (fun w1 hb => A6.under hb) rfl, ow_calld hA (wants_none rfl) 28 (.agg (ints .u64 RE)) (by kernel_rfl) rfl rfl rfl rfl (by kernel_rfl) 18 Try.f18 _ [.tmp 27] _ [.agg (ints .u64 PN)] rfl (by kernel_rfl) Try.func18 (by kernel_rfl) rfl (CR.out), ow_row hA (wants_none rfl) 29 (.agg (ints .u8 key)) (by kernel_rfl) rfl rfl rfl rfl (by kernel_rfl) 22 (.tmp 2) rfl (w.heap.size) (by kernel_rfl) 22 (ints .u8 key) 32 5 Try.underlying22 ((by rw [ints_size, LK.out]; exact t32_info)) (fun w1 hb => A0.under hb) rfl, ow_calld hA (wants_none rfl) 30 (.agg (ints .u64 AD)) (by kernel_rfl) rfl rfl rfl rfl (by kernel_rfl) 19 Try.f19 _ [.tmp 29] _ [.agg (ints .u8 key)] rfl (by kernel_rfl) Try.func19 (by kernel_rfl) rfl (CA.out), ow_calld hA (wants_none rfl) 31 (.agg (ints .u64 SU)) (by kernel_rfl) rfl rfl rfl rfl (by kernel_rfl) 15 Try.f15 _ [.tmp 28, .tmp 30] _ [.agg (ints .u64 RE), .agg (ints .u64 AD)] rfl (by kernel_rfl) Try.func15 (by kernel_rfl) rfl (CP.out), ow_calld hA (wants_none rfl) 32 (.agg (ints .u8 L)) (by kernel_rfl) rfl rfl rfl rfl (by kernel_rfl) 20 Try.f20 _ [.tmp 31] _ [.agg (ints .u64 SU)] rfl (by kernel_rfl) Try.func20 (by kernel_rfl) rfl (CB.out), trivial⟩) ?_
      case hst1 => intro q hq; cases hq
      case hst2 => intro q hq; cases hq
      intro fv wt hf hD hwt
      simp only [putR, List.foldl_cons, List.foldl_nil, List.map_cons, List.map_nil, Act.put, List.setIfInBounds_toArray, List.set_cons_succ, List.set_cons_zero]
      refine wl_store rfl 25 (.tmp 4) (.tmp 32) rfl (w.heap.size + 1) (ints .u8 L) (by kernel_rfl) (by kernel_rfl) _ (A1.under hwt) (by rw [ints_size, LL.out]; exact a16_info) (by rw [ints_size, ints_size, LL.out, LZ.out]) (ints_one _ _) ?_
      intro w5 B1 P5
      go_wp2
      exact bodyPost_ret (v := .agg (ints .u8 L)) (results_cell_row Try.results10 _ _ _ 25 (ints .u8 L) (0, 0) _ rfl B1 Try.underlying25 rfl (by rw [ints_size, LL.out]; exact a16_info)) rfl ⟨rfl, (HB.trans (hwt.mono HB.size)).trans (P5.below (by omega))⟩
end Go.Proofs.Ytfcinakpdnblfaa.sh
