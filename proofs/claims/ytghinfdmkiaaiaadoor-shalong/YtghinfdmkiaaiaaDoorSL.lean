/-
  What ShaLong answers.
-/
import Derived.Test.YtghinfdmkiaaiaaDoorSV
import Derived.OpenShut
namespace Go.Proofs.YtghinfdmkiaaiaaDoor.sh
open Go Go.RowKit
set_option linter.unusedVariables false
set_option linter.unusedSimpArgs false


theorem rep_set (k i c : Nat) (h : i < k) : (List.replicate i c ++ List.replicate (k - i) 0).set i c = List.replicate (i + 1) c ++ List.replicate (k - (i + 1)) 0 := by
  rw [List.set_append_right _ _ (by simp), List.length_replicate, Nat.sub_self, show k - i = (k - (i + 1)) + 1 from by omega, List.replicate_succ, List.set_cons_zero, List.replicate_succ', List.append_assoc]
  rfl
set_option maxHeartbeats 2000000 in
theorem long_any (n c : Nat) (w : World) (hn : n < 65536) (hc : c < 256) (hr : RootsAt w) :
    Calls Tryd.prog 6 #[.int .u16 (n : Int), .int .u8 (c : Int)] w fun e w' => e = .returned (.bool true) ∧ Below w.heap.size w w' := by
  obtain ⟨k, hk⟩ : ∃ k, k = n % 300 := ⟨_, rfl⟩
  have EK : Kept _ := ⟨hk⟩
  have k3 : k < 300 := by rw [hk]; exact Nat.mod_lt _ (by decide)
  have cm : k < 1000000 := by omega
  have ek : ((n : Int) % 300) = (k : Int) := by rw [hk]; omega
  obtain ⟨DD, hDD⟩ : ∃ DD : Nat → Array Value, ∀ i, DD i = digOf (feed initD (List.replicate i c)) := ⟨_, fun _ => rfl⟩
  obtain ⟨L, hL⟩ : ∃ L, L = sumL (List.replicate k c) := ⟨_, rfl⟩
  have HL : Kept (L.length = 32) := ⟨by rw [hL]; exact sumL_len _⟩
  have GG : ∀ i, Good (feed initD (List.replicate i c)) := fun i => init_good.feed _ (rep_bytes i c hc)
  have DS : Kept (∀ i, (DD i).size = 73) := ⟨fun i => by rw [hDD]; exact dig_size (GG i)⟩
  have DO : Kept (∀ i, (DD i).all (·.oneCell') = true) := ⟨fun i => by rw [hDD]; exact digA_one _ _ _⟩
  have NN : ∀ i, (feed initD (List.replicate i c)).2.2 = i := fun i => by rw [feed_n, List.length_replicate]; simp [initD]
  have B1 : Bytes [c] := rep_bytes 1 c hc
  have CW : Kept (∀ i v w', i < k → RootsAt w' → BytesV v w' [c] → Calls Tryd.prog 11 #[.agg (DD i), v] w' fun e w2 => e = .returned (.agg (DD (i + 1))) ∧ Below w'.heap.size w' w2) := ⟨fun i v w' hi h1 h2 => by
    rw [hDD, hDD, List.replicate_succ', feed_append]
    exact Write_any _ [c] v w' (GG i) B1 (by rw [NN]; simp; omega) h2 h1⟩
  have CN : Kept (∀ w', RootsAt w' → Calls Tryd.prog 11 #[.agg (DD k), .slice none 0 0] w' fun e w2 => e = .returned (.agg (DD k)) ∧ Below w'.heap.size w' w2) := ⟨fun w' h1 => by
    rw [hDD]
    exact Write_any _ [] _ w' (GG k) (fun i x hx => by simp at hx) (by rw [NN]; simp; omega) ⟨none, 0, rfl, Nat.le_refl _, fun h => absurd rfl h⟩ h1⟩
  have CS : Kept (∀ w', RootsAt w' → Calls Tryd.prog 12 #[.agg (DD k)] w' fun e w2 => e = .returned (.agg (ints .u8 L)) ∧ Below w'.heap.size w' w2) := ⟨fun w' h1 => by
    rw [hDD, hL]
    exact DSum_any _ w' (GG k) (by rw [NN]; omega) h1⟩
  have CB : Kept (∀ v w', RootsAt w' → BytesV v w' (List.replicate k c) → Calls Tryd.prog 9 #[v] w' fun e w2 => e = .returned (.agg (ints .u8 L)) ∧ Below w'.heap.size w' w2) := ⟨fun v w' h1 h2 => by
    rw [hL]
    exact Sum_any _ v w' (rep_bytes k c hc) (by rw [List.length_replicate]; omega) h2 h1⟩
  have D0 : DD 0 = digOf initD := by rw [hDD]; rfl
  have KD : Kept _ := ⟨D0⟩
  have hz0 : ∀ w, (zeroValue 32).run Tryd.prog w = .ok (.agg (DD 0)) w := fun w => by rw [D0, ← init_val]; kernel_rfl
  clear hDD hL GG NN B1 hk D0
  have KR : Kept _ := ⟨hr⟩
  have h0 := hr.1
  go_enter Tryd.func6, Tryd.ntmps6
  go_wp2_with fail
  refine (alive3_any w hr).mono ?_
  rintro e w1 ⟨rfl, hb1⟩
  clear hr
  have R1 : Kept (RootsAt w1) := ⟨KR.out.below h0 hb1⟩
  have h1 : 0 < w1.heap.size := R1.out.1
  go_wp2_with (first | ((with_reducible refine wv_val (d := 12) ?hd ?hw (.int .u16 (k : Int)) ?hr ?_); (case hd => rfl); (case hw => kernel_rfl); (case hr => intro w; simp [execOp, Act.eval, go_sem, ek]); simp only [Act.put, List.setIfInBounds_toArray, List.set_cons_succ, List.set_cons_zero]) | ((with_reducible refine wv_val (d := 13) ?hd ?hw (.int .i64 (k : Int)) ?hr ?_); (case hd => rfl); (case hw => kernel_rfl); (case hr => intro w; simp [execOp, Act.eval, go_sem]; omega); simp only [Act.put, List.setIfInBounds_toArray, List.set_cons_succ, List.set_cons_zero]) | (refine wl_make rfl (.tmp 14) rfl .i64 k rfl cm ?_))
  generalize hW : (w1.alloc (.cells (DD 0) 32)).alloc (.cells (ints .u8 (List.replicate k 0)) 5) = W1
  have A0 : Blk W1 w1.heap.size 32 (DD 0) := by subst hW; exact (blk_new w1 _ _).alloc _
  have A1 : Blk W1 (w1.heap.size + 1) 5 (ints .u8 (List.replicate 0 c ++ List.replicate (k - 0) 0)) := by subst hW; exact blk_top _ _ _ _ (by simp)
  have QB : Below w1.heap.size w1 W1 := by subst hW; exact ((Below.refl _ _).alloc (Nat.le_refl _) _).alloc (by simp) _
  clear hW hz0
  go_loopg [18] k (fun m s18 wr => ∃ i : Nat, i + m = k ∧ s18 = .int .i64 (i : Int) ∧ Below w1.heap.size w1 wr ∧ Blk wr w1.heap.size 32 (DD i) ∧ Blk wr (w1.heap.size + 1) 5 (ints .u8 (List.replicate i c ++ List.replicate (k - i) 0)))
  case atStart => exact ⟨0, by omega, rfl, QB, A0, A1⟩
  case round =>
    clear A0 A1 QB
    obtain ⟨i, hik, rfl, HB, A0, A1⟩ := hrel
    by_cases hk0 : gk = 0
    · obtain rfl : i = k := by omega
      clear hik hk0
      have BB : Kept (BytesV (.slice (some ⟨w1.heap.size + 1, 0, none⟩) i i) wr (List.replicate i c)) := ⟨bytesV_slice (t := 5) (cap := i) ⟨w1.heap.size + 1, by rw [List.length_replicate], by rw [Nat.sub_self, List.replicate_zero, List.append_nil] at A1; exact A1⟩ (by rw [List.length_replicate]; exact Nat.le_refl _)⟩
      have RW : Kept (RootsAt wr) := ⟨R1.out.below h1 HB⟩
      clear A1
      go_wp2_with (first | ((with_reducible refine wv_rowS (d := 33) ?hd ?hw 32 (.tmp 6) ?ho (w1.heap.size) ?hx (t' := 32) (DD i) _ Tryd.underlying32 ?hs ?hg ?_); (case hd => rfl); (case hw => kernel_rfl); (case ho => rfl); (case hx => kernel_rfl); (case hs => rw [DS.out]; exact dig_info); (case hg => exact A0); simp only [Act.put, List.setIfInBounds_toArray, List.set_cons_succ, List.set_cons_zero]))
      refine (CS.out _ RW.out).mono ?_
      rintro e w2 ⟨rfl, hb2⟩
      have B2 : Kept _ := ⟨BB.out.under hb2⟩
      have R2 : Kept _ := ⟨RW.out.below (n := wr.heap.size) RW.out.1 hb2⟩
      have A2 := A0.under hb2
      have HB2 := HB.trans (hb2.mono HB.size)
      clear A0 BB RW HB hb2
      go_wp2_with fail
      refine (CB.out _ _ R2.out B2.out).mono ?_
      rintro e w3 ⟨rfl, hb3⟩
      have B3 : Kept _ := ⟨B2.out.under hb3⟩
      have R3 : Kept _ := ⟨R2.out.below (n := w2.heap.size) R2.out.1 hb3⟩
      have A3 := A2.under hb3
      have HB3 := HB2.trans (hb3.mono HB2.size)
      clear A2 B2 R2 HB2 hb3
      go_wp2_with (first | ((with_reducible refine wv_val (d := 37) ?hd ?hw (.bool true) ?hr ?_); (case hd => rfl); (case hw => kernel_rfl); (case hr => intro w; rw [run_eql_row L L rfl (by kernel_rfl) (by kernel_rfl) HL.out HL.out Tryd.underlying24 Tryd.underlying5 sz_u8 ag_u8 eg32]; rw [decide_eq_true rfl]); simp only [Act.put, List.setIfInBounds_toArray, List.set_cons_succ, List.set_cons_zero]) | ((with_reducible refine wv_rowS (d := 39) ?hd ?hw 32 (.tmp 6) ?ho (w1.heap.size) ?hx (t' := 32) (DD i) _ Tryd.underlying32 ?hs ?hg ?_); (case hd => rfl); (case hw => kernel_rfl); (case ho => rfl); (case hx => kernel_rfl); (case hs => rw [DS.out]; exact dig_info); (case hg => exact A3); simp only [Act.put, List.setIfInBounds_toArray, List.set_cons_succ, List.set_cons_zero]))
      refine (CN.out _ R3.out).mono ?_
      rintro e w4 ⟨rfl, hb4⟩
      have B4 : Kept _ := ⟨B3.out.under hb4⟩
      have R4 : Kept _ := ⟨R3.out.below (n := w3.heap.size) R3.out.1 hb4⟩
      have HB4 := HB3.trans (hb4.mono HB3.size)
      clear A3 B3 R3 HB3 hb4
      go_wp2_with fail
      refine (CS.out _ R4.out).mono ?_
      rintro e w5 ⟨rfl, hb5⟩
      have B5 : Kept _ := ⟨B4.out.under hb5⟩
      have R5 : Kept _ := ⟨R4.out.below (n := w4.heap.size) R4.out.1 hb5⟩
      have HB5 := HB4.trans (hb5.mono HB4.size)
      clear B4 R4 HB4 hb5
      go_wp2_with fail
      refine (CB.out _ _ R5.out B5.out).mono ?_
      rintro e w6 ⟨rfl, hb6⟩
      have HB6 := HB5.trans (hb6.mono HB5.size)
      clear B5 R5 HB5 hb6
      go_wp2_with (first | ((with_reducible refine wv_val (d := 44) ?hd ?hw (.bool true) ?hr ?_); (case hd => rfl); (case hw => kernel_rfl); (case hr => intro w; rw [run_eql_row L L rfl (by kernel_rfl) (by kernel_rfl) HL.out HL.out Tryd.underlying24 Tryd.underlying5 sz_u8 ag_u8 eg32]; rw [decide_eq_true rfl]); simp only [Act.put, List.setIfInBounds_toArray, List.set_cons_succ, List.set_cons_zero]))
      go_ret
      exact ⟨rfl, hb1.trans (HB6.mono hb1.size)⟩
    · have hlt : i < k := by omega
      have hlt' : (i : Int) < (k : Int) := by omega
      have i0 : (0 : Int) ≤ (i : Int) := by omega
      have ll : i < (ints .u8 (List.replicate i c ++ List.replicate (k - i) 0)).size := by rw [ints_size]; simp; omega
      go_wp2_with (first | (refine wl_setElem rfl 5 sz_u8 (.tmp 24) (.tmp 23) rfl (w1.heap.size + 1) i .u8 (c : Int) rfl rfl _ A1 ll ?_))
      intro w2 A2 P2
      have A2 : Blk w2 (w1.heap.size + 1) 5 (ints .u8 (List.replicate (i + 1) c ++ List.replicate (k - (i + 1)) 0)) := by rw [← rep_set k i c hlt, ← ints_set]; exact A2
      have A0 := P2.blk A0 (by omega)
      have HB2 := HB.trans (P2.below (by omega))
      clear A1 HB P2 ll
      have VB : Kept (BytesV (.slice (some ⟨w1.heap.size + 1, i, none⟩) 1 (k - i)) w2 [c]) := ⟨⟨_, _, rfl, by simp; omega, fun _ => ⟨_, rfl, A2.lt, fun j x hx => by
        rcases j with _ | j
        · simp at hx
          subst hx
          rw [addr_add]
          exact A2.cell (ints_get (by simp [List.getElem?_append, List.getElem?_replicate]))
        · simp at hx⟩⟩⟩
      have CC : Kept (∀ w', Below w2.heap.size w2 w' → Calls Tryd.prog 11 [.agg (DD i), .slice (some ⟨w1.heap.size + 1, i, none⟩) 1 (k - i)].toArray w' fun e w3 => e = .returned (.agg (DD (i + 1))) ∧ Below w'.heap.size w' w3) := ⟨fun w' hb => CW.out i _ w' hlt ((R1.out.below h1 HB2).below (n := w2.heap.size) (by have := HB2.size; omega) hb) (VB.out.under hb)⟩
      have CT : Kept (∀ {o : Oper} {a : Act}, o.op = .slice 22 (.tmp 26) (some (.tmp 27)) (some (.tmp 29)) none → a.eval (.tmp 26) = .slice (some ⟨w1.heap.size + 1, 0, none⟩) k k → a.eval (.tmp 27) = .int .i64 (i : Int) → a.eval (.tmp 29) = .int .i64 ((i + 1 : Nat) : Int) → ∀ w, (execOp a.eval o).run Tryd.prog w = .ok (.value (.slice (some ⟨w1.heap.size + 1, i, none⟩) 1 (k - i))) w) := ⟨fun ho hx hy hz w => by
        have := cuts_run (m := i + 1) ho hx hy hz Tryd.underlying22 sz_u8 (by omega) (by omega) w
        rw [this, if_neg (by omega), Nat.add_sub_cancel_left]
        simp only [Option.map_some, addr_add, Nat.zero_add]⟩
      go_wp2_with fail
      refine region_ownL w2 7 [(25, .agg (DD i)), (26, .slice (some ⟨w1.heap.size + 1, 0, none⟩) k k), (27, .int .i64 (i : Int)), (28, .int .i64 (i : Int)), (29, .int .i64 ((i + 1 : Nat) : Int)), (30, .slice (some ⟨w1.heap.size + 1, i, none⟩) 1 (k - i)), (31, .agg (DD (i + 1)))] [] [] [] rfl (by kernel_rfl) (by kernel_rfl) (by kernel_rfl) (by kernel_rfl) (by kernel_rfl) (by kernel_rfl) (by kernel_rfl) (by kernel_rfl) (by kernel_rfl) (by kernel_rfl) (by kernel_rfl) ?hst1 ?hst2 (Below.refl _ _) (fun hA => ⟨ow_rowS hA (wants_none rfl) 25 (.agg (DD i)) (by kernel_rfl) rfl rfl rfl rfl (by kernel_rfl) 32 (.tmp 6) rfl (w1.heap.size) (by kernel_rfl) 32 (DD i) _ Tryd.underlying32 (by rw [DS.out]; exact dig_info) (fun w1 hb => Blk.under A0 hb) rfl, ow_val hA (wants_none rfl) 26 (.slice (some ⟨w1.heap.size + 1, 0, none⟩) k k) (by kernel_rfl) rfl rfl rfl rfl (by kernel_rfl) (fun w => by kernel_rfl), ow_val hA (wants_none rfl) 27 (.int .i64 (i : Int)) (by kernel_rfl) rfl rfl rfl rfl (by kernel_rfl) (fun w => by kernel_rfl), ow_val hA (wants_none rfl) 28 (.int .i64 (i : Int)) (by kernel_rfl) rfl rfl rfl rfl (by kernel_rfl) (fun w => by kernel_rfl), ow_val hA (wants_none rfl) 29 (.int .i64 ((i + 1 : Nat) : Int)) (by kernel_rfl) rfl rfl rfl rfl (by kernel_rfl) (fun w => run_addI 1 rfl (by kernel_rfl) (by omega) w), ow_val hA (wants_none rfl) 30 (.slice (some ⟨w1.heap.size + 1, i, none⟩) 1 (k - i)) (by kernel_rfl) rfl rfl rfl rfl (by kernel_rfl) (fun w => CT.out (by kernel_rfl) (by kernel_rfl) (by kernel_rfl) (by kernel_rfl) w), ow_calld hA (wants_none rfl) 31 (.agg (DD (i + 1))) (by kernel_rfl) rfl rfl rfl rfl (by kernel_rfl) 11 Tryd.f11 _ [.tmp 25, .tmp 30] _ [.agg (DD i), .slice (some ⟨w1.heap.size + 1, i, none⟩) 1 (k - i)] rfl (by kernel_rfl) Tryd.func11 (by kernel_rfl) rfl (fun w3 hb => CC.out w3 hb), trivial⟩) ?_
      case hst1 => intro q hq; cases hq
      case hst2 => intro q hq; cases hq
      intro fv w3 hf hD hb3
      simp only [putR, List.foldl_cons, List.foldl_nil, List.map_cons, List.map_nil, Act.put, List.setIfInBounds_toArray, List.set_cons_succ, List.set_cons_zero]
      have A0 := A0.under hb3
      have A2 := A2.under hb3
      have HB3 := HB2.trans (hb3.mono HB2.size)
      clear hf hD VB CC CT HB2 hb3
      refine wl_store rfl 32 (.tmp 6) (.tmp 31) rfl w1.heap.size (DD (i + 1)) (by kernel_rfl) (by kernel_rfl) _ A0 (by rw [DS.out]; exact dig_info) (by rw [DS.out, DS.out]) (DO.out _) ?_
      intro w4 A4 P4
      have A5 := P4.blk A2 (by omega)
      have HB4 := HB3.trans (P4.below (Nat.le_refl _))
      clear A0 A2 HB3 P4
      go_wp2_with fail
      go_roundg (gk - 1)
      case measure => omega
      case rel => exact ⟨i + 1, by omega, by rfl, HB4, A4, A5⟩
theorem long_all (n c : Int) (w : World) (hn : (Lit.int .u16 n).wf = true) (hc : (Lit.int .u8 c).wf = true) (hr : RootsAt w) :
    Calls Tryd.prog 6 #[.int .u16 n, .int .u8 c] w fun e w' => e = .returned (.bool true) ∧ Below w.heap.size w w' := by
  have h1 := bounds_u16 hn
  have h2 := bounds_u8 hc
  obtain ⟨n, rfl⟩ := Int.eq_ofNat_of_zero_le h1.1
  obtain ⟨c, rfl⟩ := Int.eq_ofNat_of_zero_le h2.1
  exact long_any n c w (by omega) (by omega) hr
end Go.Proofs.YtghinfdmkiaaiaaDoor.sh
