/-
  General pieces, joined: MQ.
-/
import Derived.Test.YtjkdonjcngmjeaaGreatDoorG36
/-
  PrimsReal, walked: a public key that is none.
-/


namespace Go.Proofs.YtjkdonjcngmjeaaGreatDoor.sh
open Go Go.RowKit
set_option linter.unusedVariables false
set_option linter.unusedSimpArgs false

set_option maxRecDepth 100000 in
set_option maxHeartbeats 8000000 in
theorem real_bg {A B C T : List Nat} {N : Nat} {w : World} (hA : Bytes A) (hB : Bytes B) (hC : Bytes C) (hT : Bytes T) (hN : N < 18446744073709551616) (hr : RootsAt w) (hp : PrimeAt w) {n : Nat} (hf : decide (Few A B C T) = true) (h1 : A.length = 32) (h2 : B.length ≠ 32) (hn1 : 1 ≤ n) (hn3 : n ≤ 3) : Calls Tryz.prog 3 #[.agg #[.string (strOf A), .string (strOf B), .int .u64 (N : Int), .string (strOf C), .string (strOf T)], .int .i64 (n : Int)] w fun e w' => e = .returned (.bool true) ∧ Below w.heap.size w w' := by
  have KF : Kept (Few A B C T) := ⟨of_decide_eq_true hf⟩
  obtain ⟨kA, hkA⟩ : ∃ k, k = keyZ A := ⟨_, rfl⟩
  obtain ⟨kB, hkB⟩ : ∃ k, k = keyZ B := ⟨_, rfl⟩
  have IA : Kept ((Tryz.prog.info? 30).map (·.size) = some (ints .u8 kA).size ∧ (ints .u8 kA).size = 32) := ⟨by rw [ints_size, hkA, keyZ_len]; exact ⟨t32_info, rfl⟩⟩
  have IB : Kept ((Tryz.prog.info? 30).map (·.size) = some (ints .u8 kB).size ∧ (ints .u8 kB).size = 32) := ⟨by rw [ints_size, hkB, keyZ_len]; exact ⟨t32_info, rfl⟩⟩
  have YT : Kept _ := ⟨hT⟩
  obtain ⟨AB, hAB⟩ : ∃ z, z = A ++ B := ⟨_, rfl⟩
  obtain ⟨H, hH⟩ : ∃ z, z = sumL AB := ⟨_, rfl⟩
  have KAB : Kept (A.length + B.length < 4611686018427387904 ∧ AB = A ++ B) := ⟨⟨by have := KF.out.1; have := KF.out.2.1; omega, hAB⟩⟩
  have YAB : Kept (Bytes AB) := ⟨by rw [hAB]; exact hA.append hB⟩
  have LH : Kept (H.length = 32) := ⟨by rw [hH]; exact sumL_len _⟩
  have YH : Kept (Bytes H) := ⟨by rw [hH]; exact sumL_bytes _⟩
  have IH : Kept ((Tryz.prog.info? 30).map (·.size) = some (ints .u8 H).size ∧ (ints .u8 H).size = 32) := ⟨by rw [ints_size, LH.out]; exact ⟨t32_info, rfl⟩⟩
  obtain ⟨w0, hw0⟩ : ∃ v, v = w.alloc (.cells #[.string (strOf A), .string (strOf B), .int .u64 (N : Int), .string (strOf C), .string (strOf T)] 24) := ⟨_, rfl⟩
  have qww : Below w.heap.size w w0 := by rw [hw0]; exact (Below.refl _ _).alloc (Nat.le_refl _) _
  have hrw : RootsAt w0 := hr.under qww
  have hpw : PrimeAt w0 := PrimeAt.below hp qww
  have CHs : Kept (∀ v w', Below w0.heap.size w0 w' → BytesV v w' AB → Calls Tryz.prog 15 [v].toArray w' fun e w2 => e = .returned (.agg (ints .u8 H)) ∧ Below w'.heap.size w' w2) := ⟨fun v w' hb hv => by rw [hH]; exact cSum YAB.out (by rw [hAB, List.length_append]; have := KF.out.1; have := KF.out.2.1; omega) (hrw.under hb) hv⟩
  have CHr : Kept (∀ w', Below w0.heap.size w0 w' → Calls Tryz.prog 167 (.agg #[] :: [.string (strOf A), .string (strOf B)]).toArray w' fun e w2 => e = .returned (.string (strOf H)) ∧ Below w'.heap.size w' w2) := ⟨fun w' hb => by
    have h9 := HashR (w := w') hA hB (by have := KF.out.1; have := KF.out.2.1; omega) (hrw.under hb)
    rw [← hAB, ← hH] at h9
    exact h9⟩
  have KNil : Kept (Bytes []) := ⟨fun i x h => by simp at h⟩
  have CKA : Kept (∀ w, Calls Tryz.prog 11 #[.string (strOf A)] w fun e w' => e = .returned (.tuple #[.agg (ints .u8 kA), .bool true]) ∧ Below w.heap.size w w') := ⟨fun w => by
    have h9 := key11 (w := w) hA
    rw [← hkA, decide_eq_true h1] at h9
    exact h9⟩
  have CKB : Kept (∀ w, Calls Tryz.prog 11 #[.string (strOf B)] w fun e w' => e = .returned (.tuple #[.agg (ints .u8 kB), .bool false]) ∧ Below w.heap.size w w') := ⟨fun w => by
    have h9 := key11 (w := w) hB
    rw [← hkB, decide_eq_false h2] at h9
    exact h9⟩
  have eA : kA = A := by rw [hkA, keyZ_key h1]
  obtain ⟨PW, hPW⟩ : ∃ y, y = pubB A := ⟨_, rfl⟩
  obtain ⟨Y, hY⟩ : ∃ y, y = PW := ⟨_, rfl⟩
  subst hY
  have LY : Kept (Y.length = 32) := ⟨by rw [hPW]; exact digs_len _ _⟩
  have YPW : Kept (Bytes Y) := ⟨by rw [hPW]; exact digs_bytes _ _⟩
  have IY : Kept ((Tryz.prog.info? 30).map (·.size) = some (ints .u8 Y).size ∧ (ints .u8 Y).size = 32) := ⟨by rw [ints_size, LY.out]; exact ⟨t32_info, rfl⟩⟩
  have CPb : Kept (∀ w', Below w0.heap.size w0 w' → Calls Tryz.prog 12 [.agg (ints .u8 kA)].toArray w' fun e w2 => e = .returned (.agg (ints .u8 Y)) ∧ Below w'.heap.size w' w2) := ⟨fun w' hb => by rw [hPW, eA]; exact cPub h1 hA (PrimeAt.below hpw hb)⟩
  have CPr : Kept (∀ w', Below w0.heap.size w0 w' → Calls Tryz.prog 170 #[.agg #[], .string (strOf A)] w' fun e w2 => e = .returned (.string (strOf Y)) ∧ Below w'.heap.size w' w2) := ⟨fun w' hb => by rw [hPW]; exact PubR hA h1 (PrimeAt.below hpw hb)⟩
  have hd : ¬ (A.length = 32 ∧ B.length = 32) := fun h => h2 h.2
  have CDr : Kept (∀ w', Below w0.heap.size w0 w' → Calls Tryz.prog 166 #[.agg #[], .string (strOf A), .string (strOf B)] w' fun e w2 => e = .returned (.tuple #[.string ⟨#[]⟩, .bool false]) ∧ Below w'.heap.size w' w2) := ⟨fun w' hb => Dh_no hA hB hd⟩
  have Kn : Kept (1 ≤ n ∧ n ≤ 3) := ⟨⟨hn1, hn3⟩⟩
  obtain ⟨kl, hkl⟩ : ∃ k, k = keysL A T n := ⟨_, rfl⟩
  have Lk : Kept (kl.length = n ∧ ∀ k ∈ kl, k.length = 32 ∧ Bytes k) := ⟨⟨by rw [hkl, keysL_len], fun k hk => ⟨keysL_32 A T n k (hkl ▸ hk), by
    rw [hkl] at hk
    obtain ⟨i, _, rfl⟩ := List.mem_map.1 hk
    exact tL_bytes _ _ _⟩⟩⟩
  have CMk : Kept (∀ va w', Below w0.heap.size w0 w' → BytesV va w' T → Calls Tryz.prog 14 [.agg (ints .u8 kA), va, .int .i64 (n : Int)].toArray w' fun e w2 => ∃ v, e = .returned (.tuple #[v, .int .i64 0]) ∧ KeysV v w2 kl ∧ Below w'.heap.size w' w2) := ⟨fun va w' hb hv => by
    rw [eA]
    refine (Keys_ok A T n va w' h1 hA hT (by have := KF.out.2.2.2; omega) hn1 hn3 (hrw.under hb) hv).mono ?_
    rintro e w2 ⟨v, e1, e2, e3⟩
    exact ⟨v, e1, by rw [hkl]; exact e2.keys (keysL_32 A T n), e3⟩⟩
  have CKk : Kept (∀ w', Below w0.heap.size w0 w' → Calls Tryz.prog 168 #[.agg #[], .string (strOf A), .string (strOf T), .int .i64 (n : Int)] w' fun e w2 => ∃ V, e = .returned V ∧ VRow w'.heap.size 9 (strs kl) V w2 ∧ Below w'.heap.size w' w2) := ⟨fun w' hb => by rw [hkl]; exact KeysR hA h1 hT (by have := KF.out.2.2.2; omega) hn1 hn3 (hrw.under hb)⟩
  clear hkl hn1 hn3
  clear hA hB hC hT hN hp hAB hH hkA hkB hrw hpw qww h1 eA hPW hd h2
  obtain ⟨gx, hgx⟩ : ∃ g, g = w.heap.size := ⟨_, rfl⟩
  have BX : Kept (Blk w0 gx 24 #[.string (strOf A), .string (strOf B), .int .u64 (N : Int), .string (strOf C), .string (strOf T)]) := ⟨by rw [hw0, hgx]; exact blk_new w _ _⟩
  have Q0 : Kept (Below w.heap.size w w0) := ⟨by rw [hw0]; exact (Below.refl _ _).alloc (Nat.le_refl _) _⟩
  have KX : Kept (∀ w', Below w0.heap.size w0 w' → ∀ (k : Nat) (v : Value), (#[.string (strOf A), .string (strOf B), .int .u64 (N : Int), .string (strOf C), .string (strOf T)] : Array Value)[k]? = some v → w'.cell? ⟨gx, k, none⟩ = some v) := ⟨fun w' hb k v hk => (BX.out.under hb).cell hk⟩
  have IX : Kept ((Tryz.prog.info? 24).map (·.size) = some (#[.string (strOf A), .string (strOf B), .int .u64 (N : Int), .string (strOf C), .string (strOf T)] : Array Value).size) := ⟨by kernel_rfl⟩
  have KR : Kept (RootsAt w0) := ⟨hr.under Q0.out⟩
  have CF : Kept (∀ w, Calls Tryz.prog 10 #[.agg #[.string (strOf A), .string (strOf B), .int .u64 (N : Int), .string (strOf C), .string (strOf T)]] w fun e w' => e = .returned (.bool true) ∧ Below w.heap.size w w') := ⟨fun w => by
    have h9 := few11 (A := A) (B := B) (C := C) (T := T) (N := N) (w := w)
    rw [show decide (Few A B C T) = true from hf] at h9
    exact h9⟩
  have Kw0 : Kept _ := ⟨hw0⟩
  have Kgx : Kept _ := ⟨hgx⟩
  clear hw0 hgx hr hf
  go_enter Tryz.func3, Tryz.ntmps3
  go_wp2_with fail
  rw [← Kw0.out, ← Kgx.out]
  refine (alive11 KR.out).mono ?_
  rintro e w1 ⟨rfl, q1⟩
  have KP1 : Kept _ := ⟨q1⟩
  clear q1
  go_wp2_with fail
  refine RealD.mono ?_
  rintro e w2 ⟨rfl, q2⟩
  have KP2 : Kept _ := ⟨KP1.out.trans (q2.mono KP1.out.size)⟩
  clear q2 KP1
  go_wp2_with (first | ((with_reducible refine wv_rowS (d := 28) ?hd ?hw 24 (.tmp 2) ?ho (gx) ?hx (t' := 24) (#[.string (strOf A), .string (strOf B), .int .u64 (N : Int), .string (strOf C), .string (strOf T)]) _ Tryz.underlying24 ?hs ?hg ?_); (case hd => rfl); (case hw => kernel_rfl); (case ho => rfl); (case hx => kernel_rfl); (case hs => exact IX.out); (case hg => exact (BX.out.under KP2.out)); simp only [Act.put, List.setIfInBounds_toArray, List.set_cons_succ, List.set_cons_zero]))
  refine (CF.out _).mono ?_
  rintro e w3 ⟨rfl, q3⟩
  have KP3 : Kept (Below w0.heap.size w0 w3) := ⟨KP2.out.trans (q3.mono KP2.out.size)⟩
  clear q3 KP2
  go_wp2_with (first | ((with_reducible refine wv_elem (d := 36) ?hd ?hw 9 ag_str (.tmp 35) ?ho (⟨gx, 0, none⟩) ?hx (.string (strOf A)) ?hc ?_); (case hd => rfl); (case hw => kernel_rfl); (case ho => rfl); (case hx => kernel_rfl); (case hc => exact KX.out _ (KP3.out) 0 _ rfl); simp only [Act.put, List.setIfInBounds_toArray, List.set_cons_succ, List.set_cons_zero]))
  refine (CKA.out _).mono ?_
  rintro e w4 ⟨rfl, q4⟩
  have pp := KP3.out
  have KP4 : Kept (Below w0.heap.size w0 w4) := ⟨pp.trans (q4.mono pp.size)⟩
  clear pp q4  KP3 
  go_wp2_with (first | (refine wl_store rfl 30 (.tmp 6) (.tmp 38) rfl w4.heap.size (ints .u8 kA) rfl rfl _ (blk_new _ _ _) IA.out.1 (by rw [IA.out.2]; rfl) (ints_one _ _) ?_; intro w5 hB5 hp5; simp only [Act.put, List.setIfInBounds_toArray, List.set_cons_succ, List.set_cons_zero]) | ((with_reducible refine wv_elem (d := 42) ?hd ?hw 9 ag_str (.tmp 41) ?ho (⟨gx, 1, none⟩) ?hx (.string (strOf B)) ?hc ?_); (case hd => rfl); (case hw => kernel_rfl); (case ho => rfl); (case hx => kernel_rfl); (case hc => exact KX.out _ (((KP4.out.alloc KP4.out.size _).trans (hp5.below KP4.out.size))) 1 _ rfl); simp only [Act.put, List.setIfInBounds_toArray, List.set_cons_succ, List.set_cons_zero]))
  refine (CKB.out _).mono ?_
  rintro e w6 ⟨rfl, q6⟩
  have pp := ((KP4.out.alloc KP4.out.size _).trans (hp5.below KP4.out.size))
  have bA := hB5
  have KA6 : Kept _ := ⟨bA.under q6⟩
  have KP6 : Kept (Below w0.heap.size w0 w6) := ⟨pp.trans (q6.mono pp.size)⟩
  clear pp q6 bA hB5 hp5 KP4 
  go_wp2_with (first | (refine wl_store rfl 30 (.tmp 8) (.tmp 44) rfl w6.heap.size (ints .u8 kB) rfl rfl _ (blk_new _ _ _) IB.out.1 (by rw [IB.out.2]; rfl) (ints_one _ _) ?_; intro w7 hB7 hp7; simp only [Act.put, List.setIfInBounds_toArray, List.set_cons_succ, List.set_cons_zero]) | ((with_reducible refine wv_row (d := 47) ?hd ?hw 30 (.tmp 6) ?ho (w4.heap.size) ?hx (t' := 30) (ints .u8 kA) _ _ Tryz.underlying30 ?hs ?hg ?_); (case hd => rfl); (case hw => kernel_rfl); (case ho => rfl); (case hx => kernel_rfl); (case hs => exact IA.out.1); (case hg => exact (blk_grown hp7.grown (KA6.out.under ((Below.refl _ _).alloc (Nat.le_refl _) _)) (by have := KA6.out.lt; simp; omega))); simp only [Act.put, List.setIfInBounds_toArray, List.set_cons_succ, List.set_cons_zero]))
  refine (CPb.out _ ((KP6.out.alloc KP6.out.size _).trans (hp7.below KP6.out.size))).mono ?_
  rintro e w8 ⟨rfl, q8⟩
  have pp := ((KP6.out.alloc KP6.out.size _).trans (hp7.below KP6.out.size))
  have bA := (blk_grown hp7.grown (KA6.out.under ((Below.refl _ _).alloc (Nat.le_refl _) _)) (by have := KA6.out.lt; simp; omega))
  have bB := hB7
  have KA8 : Kept _ := ⟨bA.under q8⟩
  have KB8 : Kept _ := ⟨bB.under q8⟩
  have KP8 : Kept (Below w0.heap.size w0 w8) := ⟨pp.trans (q8.mono pp.size)⟩
  clear pp q8 bA bB hB7 hp7 KP6 KA6
  go_wp2_with (first | (refine wl_store rfl 30 (.tmp 11) (.tmp 48) rfl w8.heap.size (ints .u8 Y) rfl rfl _ (blk_new _ _ _) IY.out.1 (by rw [IY.out.2]; rfl) (ints_one _ _) ?_; intro w9 hB9 hp9; simp only [Act.put, List.setIfInBounds_toArray, List.set_cons_succ, List.set_cons_zero]) | ((with_reducible refine wv_str (d := 50) ?hd ?hw (.tmp 49) ?ho (.slice (some ⟨w8.heap.size, 0, none⟩) 32 32) ?hx (Y) ?hl ?_); (case hd => rfl); (case hw => kernel_rfl); (case ho => rfl); (case hx => kernel_rfl); (case hl => exact blk_bytes hB9 LY.out); simp only [Act.put, List.setIfInBounds_toArray, List.set_cons_succ, List.set_cons_zero]) | ((with_reducible refine wv_elem (d := 53) ?hd ?hw 9 ag_str (.tmp 52) ?ho (⟨gx, 0, none⟩) ?hx (.string (strOf A)) ?hc ?_); (case hd => rfl); (case hw => kernel_rfl); (case ho => rfl); (case hx => kernel_rfl); (case hc => exact KX.out _ (((KP8.out.alloc KP8.out.size _).trans (hp9.below KP8.out.size))) 0 _ rfl); simp only [Act.put, List.setIfInBounds_toArray, List.set_cons_succ, List.set_cons_zero]))
  refine (CPr.out _ ((KP8.out.alloc KP8.out.size _).trans (hp9.below KP8.out.size))).mono ?_
  rintro e wa ⟨rfl, qa⟩
  have pp := ((KP8.out.alloc KP8.out.size _).trans (hp9.below KP8.out.size))
  have bA := (blk_grown hp9.grown (KA8.out.under ((Below.refl _ _).alloc (Nat.le_refl _) _)) (by have := KA8.out.lt; simp; omega))
  have bB := (blk_grown hp9.grown (KB8.out.under ((Below.refl _ _).alloc (Nat.le_refl _) _)) (by have := KB8.out.lt; simp; omega))
  have KAa : Kept _ := ⟨bA.under qa⟩
  have KBa : Kept _ := ⟨bB.under qa⟩
  have KPa : Kept (Below w0.heap.size w0 wa) := ⟨pp.trans (qa.mono pp.size)⟩
  clear pp qa bA bB hB9 hp9 KP8 KA8 KB8
  go_wp2_with (first | ((with_reducible refine wv_val (d := 56) ?hd ?hw (.bool false) ?hr ?_); (case hd => rfl); (case hw => kernel_rfl); (case hr => intro w; exact run_sneq (l := Y) (m := Y) rfl (by kernel_rfl) (by kernel_rfl) YPW.out YPW.out (by simp) w); simp only [Act.put, List.setIfInBounds_toArray, List.set_cons_succ, List.set_cons_zero]) | ((with_reducible refine wv_elem (d := 73) ?hd ?hw 9 ag_str (.tmp 72) ?ho (⟨gx, 0, none⟩) ?hx (.string (strOf A)) ?hc ?_); (case hd => rfl); (case hw => kernel_rfl); (case ho => rfl); (case hx => kernel_rfl); (case hc => exact KX.out _ (KPa.out) 0 _ rfl); simp only [Act.put, List.setIfInBounds_toArray, List.set_cons_succ, List.set_cons_zero]) | ((with_reducible refine wv_elem (d := 75) ?hd ?hw 9 ag_str (.tmp 74) ?ho (⟨gx, 1, none⟩) ?hx (.string (strOf B)) ?hc ?_); (case hd => rfl); (case hw => kernel_rfl); (case ho => rfl); (case hx => kernel_rfl); (case hc => exact KX.out _ (KPa.out) 1 _ rfl); simp only [Act.put, List.setIfInBounds_toArray, List.set_cons_succ, List.set_cons_zero]))
  refine (CDr.out _ KPa.out).mono ?_
  rintro e wc ⟨rfl, qc⟩
  have pp := KPa.out
  have bA := KAa.out
  have bB := KBa.out
  have KAc : Kept _ := ⟨bA.under qc⟩
  have KBc : Kept _ := ⟨bB.under qc⟩
  have KPc : Kept (Below w0.heap.size w0 wc) := ⟨pp.trans (qc.mono pp.size)⟩
  clear pp qc bA bB KPa KAa KBa
  go_wp2_with (first | ((with_reducible refine wv_val (d := 81) ?hd ?hw (.bool false) ?hr ?_); (case hd => rfl); (case hw => kernel_rfl); (case hr => intro w; exact run_sneq (l := []) (m := []) rfl (by kernel_rfl) (by kernel_rfl) KNil.out KNil.out (by simp) w); simp only [Act.put, List.setIfInBounds_toArray, List.set_cons_succ, List.set_cons_zero]) | ((with_reducible refine wv_row (d := 88) ?hd ?hw 30 (.tmp 6) ?ho (w4.heap.size) ?hx (t' := 30) (ints .u8 kA) _ _ Tryz.underlying30 ?hs ?hg ?_); (case hd => rfl); (case hw => kernel_rfl); (case ho => rfl); (case hx => kernel_rfl); (case hs => exact IA.out.1); (case hg => exact KAc.out); simp only [Act.put, List.setIfInBounds_toArray, List.set_cons_succ, List.set_cons_zero]) | ((with_reducible refine wv_elem (d := 90) ?hd ?hw 9 ag_str (.tmp 89) ?ho (⟨gx, 4, none⟩) ?hx (.string (strOf T)) ?hc ?_); (case hd => rfl); (case hw => kernel_rfl); (case ho => rfl); (case hx => kernel_rfl); (case hc => exact KX.out _ (KPc.out) 4 _ rfl); simp only [Act.put, List.setIfInBounds_toArray, List.set_cons_succ, List.set_cons_zero]) | (refine wl_csb rfl (.tmp 90) rfl T (by kernel_rfl) YT.out ?_; intro g1 c1 v1 hg hr1 hc1 hb1; clear hg; simp only [Act.put, List.setIfInBounds_toArray, List.set_cons_succ, List.set_cons_zero]))
  have pc1 := KPc.out.trans (hb1.mono KPc.out.size)
  refine (CMk.out _ _ pc1 (hr1.bytes hc1)).mono ?_
  rintro e wd ⟨v, rfl, hv, qd⟩
  obtain ⟨p8, c8, e8, _, hg8⟩ := hv
  rw [Lk.out.1] at e8
  obtain ⟨g8, cur, rfl, hB8, hcur⟩ := hg8 (by intro e; have h8 := Lk.out.1; have h9 := Kn.out.1; rw [e] at h8; simp at h8; omega)
  subst e8
  have K8d : Kept _ := ⟨hB8⟩
  have P8 : Kept _ := ⟨hcur⟩
  clear hB8 hcur hg8 pc1
  have pp := KPc.out
  have bA := KAc.out
  have bB := KBc.out
  have pp := pp.trans (hb1.mono pp.size)
  have bA := bA.under hb1
  have bB := bB.under hb1
  have KAd : Kept _ := ⟨bA.under qd⟩
  have KBd : Kept _ := ⟨bB.under qd⟩
  have KPd : Kept (Below w0.heap.size w0 wd) := ⟨pp.trans (qd.mono pp.size)⟩
  clear pp qd bA bB hb1 hr1 hc1 KPc KAc KBc
  go_wp2_with (first | ((with_reducible refine wv_elem (d := 98) ?hd ?hw 9 ag_str (.tmp 97) ?ho (⟨gx, 0, none⟩) ?hx (.string (strOf A)) ?hc ?_); (case hd => rfl); (case hw => kernel_rfl); (case ho => rfl); (case hx => kernel_rfl); (case hc => exact KX.out _ (KPd.out) 0 _ rfl); simp only [Act.put, List.setIfInBounds_toArray, List.set_cons_succ, List.set_cons_zero]) | ((with_reducible refine wv_elem (d := 100) ?hd ?hw 9 ag_str (.tmp 99) ?ho (⟨gx, 4, none⟩) ?hx (.string (strOf T)) ?hc ?_); (case hd => rfl); (case hw => kernel_rfl); (case ho => rfl); (case hx => kernel_rfl); (case hc => exact KX.out _ (KPd.out) 4 _ rfl); simp only [Act.put, List.setIfInBounds_toArray, List.set_cons_succ, List.set_cons_zero]))
  refine (CKk.out _ KPd.out).mono ?_
  rintro e we ⟨V, rfl, hV, qe⟩
  obtain ⟨pk, ck, rfl, _⟩ := vals_form (vrow_vals hV) (show (strs kl).length = n by rw [strs_len]; exact Lk.out.1)
  have KVe : Kept _ := ⟨vrow_vals hV⟩
  clear hV
  have pp := KPd.out
  have b8 := K8d.out
  have K8e : Kept _ := ⟨b8.under qe⟩
  have KPe : Kept (Below w0.heap.size w0 we) := ⟨pp.trans (qe.mono pp.size)⟩
  clear pp qe b8 KPd K8d
  go_wp2_with (first | ((with_reducible refine wv_val (d := 113) ?hd ?hw (.bool false) ?hr ?_); (case hd => rfl); (case hw => kernel_rfl); (case hr => intro w; exact run_neI (m := (n : Int)) (n := (n : Int)) rfl (by kernel_rfl) (by kernel_rfl) (by simp) w); simp only [Act.put, List.setIfInBounds_toArray, List.set_cons_succ, List.set_cons_zero]))
  go_loopg [116] n (fun g s116 wr => ∃ i : Nat, i + g = n ∧ s116 = .int .i64 (i : Int) ∧ Below we.heap.size we wr)
  case atStart => exact ⟨0, by omega, rfl, Below.refl _ _⟩
  case round =>
    rename World => wz
    obtain ⟨i, hik, rfl, hbz⟩ := hrel
    by_cases hk0 : gk = 0
    case neg =>
      have hin : i < n := by omega
      have hin' : (i : Int) < (n : Int) := by omega
      have hi1 : (i : Int) + 1 ≤ 9223372036854775807 := by have := Kn.out.2; omega
      obtain ⟨K, hK⟩ : ∃ K, kl[i]? = some K := ⟨_, List.getElem?_eq_getElem (by rw [Lk.out.1]; exact hin)⟩
      have KK : Kept (K.length = 32 ∧ Bytes K) := ⟨Lk.out.2 K (List.mem_of_getElem? hK)⟩
      have PK : Kept _ := ⟨P8.out i K hK⟩
      have K8z : Kept _ := ⟨K8e.out.under hbz⟩
      obtain ⟨Ak, rfl, hAk, hck⟩ := vals_at (KVe.out.under hbz) (strs_get hK)
      have KVz : Kept ((Ak.add i).block < wz.heap.size ∧ wz.cell? (Ak.add i) = some (.string (strOf K))) := ⟨⟨by rw [add_block]; exact hAk, hck⟩⟩
      have Kbz : Kept _ := ⟨hbz⟩
      clear hK hbz hAk hck
      go_wp2_with fail
      refine region_ownL wz 10 [(119, .slice (some Ak) n ck), (120, .int .i64 (i : Int)), (121, .pointer (some (Ak.add i))), (122, .string (strOf K)), (123, .slice (some ⟨g8, 0, none⟩) n c8), (124, .int .i64 (i : Int)), (125, .pointer (some ⟨g8, i * 32, none⟩)), (126, .slice (some ⟨g8, i * 32, none⟩) 32 32), (127, .string (strOf K)), (128, .bool false)] [] [] [] rfl (by kernel_rfl) (by kernel_rfl) (by kernel_rfl) (by kernel_rfl) (by kernel_rfl) (by kernel_rfl) (by kernel_rfl) (by kernel_rfl) (by kernel_rfl) (by kernel_rfl) (by kernel_rfl) ?hst1 ?hst2 (Below.refl _ _) (fun hA => ⟨ow_val hA (wants_none rfl) 119 (.slice (some Ak) n ck) (by kernel_rfl) rfl rfl rfl rfl (by kernel_rfl) (fun w => by kernel_rfl), ow_val hA (wants_none rfl) 120 (.int .i64 (i : Int)) (by kernel_rfl) rfl rfl rfl rfl (by kernel_rfl) (fun w => by kernel_rfl), ow_val hA (wants_none rfl) 121 (.pointer (some (Ak.add i))) (by kernel_rfl) rfl rfl rfl rfl (by kernel_rfl) (fun w => run_idxS (A := Ak) (i := i) (l := n) (c := ck) rfl (by kernel_rfl) (by kernel_rfl) Tryz.underlying43 hin Tryz.sizeOf9 w), ow_elem hA (wants_none rfl) 122 (.string (strOf K)) (by kernel_rfl) rfl rfl rfl rfl (by kernel_rfl) 9 ag_str (.tmp 121) rfl (Ak.add i) (by kernel_rfl) (fun w1 hb => (hb.cell KVz.out.1).trans KVz.out.2), ow_val hA (wants_none rfl) 123 (.slice (some ⟨g8, 0, none⟩) n c8) (by kernel_rfl) rfl rfl rfl rfl (by kernel_rfl) (fun w => by kernel_rfl), ow_val hA (wants_none rfl) 124 (.int .i64 (i : Int)) (by kernel_rfl) rfl rfl rfl rfl (by kernel_rfl) (fun w => by kernel_rfl), ow_val hA (wants_none rfl) 125 (.pointer (some ⟨g8, i * 32, none⟩)) (by kernel_rfl) rfl rfl rfl rfl (by kernel_rfl) (fun w => run_idxK (i := i) (l := n) (c := c8) rfl (by kernel_rfl) (by kernel_rfl) hin w), ow_val hA (wants_none rfl) 126 (.slice (some ⟨g8, i * 32, none⟩) 32 32) (by kernel_rfl) rfl rfl rfl rfl (by kernel_rfl) (fun w => arr_all_run (g := g8) (off := i * 32) rfl (by kernel_rfl) Tryz.underlying30 Tryz.sizeOf5 (by decide) w), ow_str hA (wants_none rfl) 127 (.string (strOf K)) (by kernel_rfl) rfl rfl rfl rfl (by kernel_rfl) (.tmp 126) rfl (.slice (some ⟨g8, i * 32, none⟩) 32 32) (by kernel_rfl) K (fun w1 hb => part_bytes (K8z.out.under hb) KK.out.1 PK.out) rfl, ow_val hA (wants_none rfl) 128 (.bool false) (by kernel_rfl) rfl rfl rfl rfl (by kernel_rfl) (fun w => run_sneq rfl (by kernel_rfl) (by kernel_rfl) KK.out.2 KK.out.2 (by simp) w), trivial⟩) ?_
      case hst1 => intro q hq; cases hq
      case hst2 => intro q hq; cases hq
      intro fv w20 hf hD hb20
      simp only [putR, List.foldl_cons, List.foldl_nil, List.map_cons, List.map_nil, Act.put, List.setIfInBounds_toArray, List.set_cons_succ, List.set_cons_zero]
      refine wpList_nil ?_
      have Kb20 : Kept _ := ⟨Kbz.out.trans (hb20.mono Kbz.out.size)⟩
      clear hf hD hb20
      go_wp2_with fail
      go_roundg (gk - 1)
      case measure => omega
      case rel => exact ⟨i + 1, by omega, by simp, Kb20.out⟩
    case pos =>
      obtain rfl : n = i := by omega
      have KPf : Kept (Below w0.heap.size w0 wz) := ⟨KPe.out.trans (hbz.mono KPe.out.size)⟩
      clear hbz
      go_wp2_with (first | ((with_reducible refine wv_elem (d := 131) ?hd ?hw 9 ag_str (.tmp 130) ?ho (⟨gx, 0, none⟩) ?hx (.string (strOf A)) ?hc ?_); (case hd => rfl); (case hw => kernel_rfl); (case ho => rfl); (case hx => kernel_rfl); (case hc => exact KX.out _ (KPf.out) 0 _ rfl); simp only [Act.put, List.setIfInBounds_toArray, List.set_cons_succ, List.set_cons_zero]) | ((with_reducible refine wv_elem (d := 133) ?hd ?hw 9 ag_str (.tmp 132) ?ho (⟨gx, 1, none⟩) ?hx (.string (strOf B)) ?hc ?_); (case hd => rfl); (case hw => kernel_rfl); (case ho => rfl); (case hx => kernel_rfl); (case hc => exact KX.out _ (KPf.out) 1 _ rfl); simp only [Act.put, List.setIfInBounds_toArray, List.set_cons_succ, List.set_cons_zero]) | ((with_reducible refine wv_val (d := 134) ?hd ?hw (.string (strOf AB)) ?hr ?_); (case hd => rfl); (case hw => kernel_rfl); (case hr => intro w; exact run_scat rfl (by kernel_rfl) (by kernel_rfl) KAB.out.1 KAB.out.2 w); simp only [Act.put, List.setIfInBounds_toArray, List.set_cons_succ, List.set_cons_zero]) | (refine wl_csb rfl (.tmp 134) rfl AB (by kernel_rfl) YAB.out ?_; intro g9 c9 v9 hg hr9 hc9 hb9; clear hg; simp only [Act.put, List.setIfInBounds_toArray, List.set_cons_succ, List.set_cons_zero]))
      have pf9 := KPf.out.trans (hb9.mono KPf.out.size)
      refine (CHs.out _ _ pf9 (hr9.bytes hc9)).mono ?_
      rintro e wh ⟨rfl, qh⟩
      have KPh : Kept (Below w0.heap.size w0 wh) := ⟨pf9.trans (qh.mono pf9.size)⟩
      clear pf9 hb9 hr9 hc9 qh KPf
      go_wp2_with (first | (refine wl_store rfl 30 (.tmp 21) (.tmp 136) rfl wh.heap.size (ints .u8 H) rfl rfl _ (blk_new _ _ _) IH.out.1 (by rw [IH.out.2]; rfl) (ints_one _ _) ?_; intro wt hBt hpt; simp only [Act.put, List.setIfInBounds_toArray, List.set_cons_succ, List.set_cons_zero]))
      obtain ⟨gH, hgH⟩ : ∃ g, g = wh.heap.size := ⟨_, rfl⟩
      rw [← hgH] at hBt ⊢
      have KHt : Kept _ := ⟨hBt⟩
      have KPt : Kept (Below w0.heap.size w0 wt) := ⟨(KPh.out.alloc KPh.out.size _).trans (hpt.below KPh.out.size)⟩
      clear hBt hpt hgH KPh
      refine region_ownL wt 10 [(137, .iface 64 (.agg #[])), (138, .pointer (some ⟨gx, 0, none⟩)), (139, .string (strOf A)), (140, .pointer (some ⟨gx, 1, none⟩)), (141, .string (strOf B)), (142, .string (strOf H)), (143, .slice (some ⟨gH, 0, none⟩) 32 32), (144, .string (strOf H)), (145, .bool true), (4, .bool true)] [] [] [] rfl (by kernel_rfl) (by kernel_rfl) (by kernel_rfl) (by kernel_rfl) (by kernel_rfl) (by kernel_rfl) (by kernel_rfl) (by kernel_rfl) (by kernel_rfl) (by kernel_rfl) (by kernel_rfl) ?hst1 ?hst2 (Below.refl _ _) (fun hA => ⟨ow_val hA (wants_none rfl) 137 (.iface 64 (.agg #[])) (by kernel_rfl) rfl rfl rfl rfl (by kernel_rfl) (fun w => by kernel_rfl), ow_val hA (wants_none rfl) 138 (.pointer (some ⟨gx, 0, none⟩)) (by kernel_rfl) rfl rfl rfl rfl (by kernel_rfl) (fun w => by kernel_rfl), ow_elem hA (wants_none rfl) 139 (.string (strOf A)) (by kernel_rfl) rfl rfl rfl rfl (by kernel_rfl) 9 ag_str (.tmp 138) rfl (⟨gx, 0, none⟩) (by kernel_rfl) (fun w1 hb => KX.out _ (KPt.out.trans (hb.mono KPt.out.size)) 0 _ rfl), ow_val hA (wants_none rfl) 140 (.pointer (some ⟨gx, 1, none⟩)) (by kernel_rfl) rfl rfl rfl rfl (by kernel_rfl) (fun w => by kernel_rfl), ow_elem hA (wants_none rfl) 141 (.string (strOf B)) (by kernel_rfl) rfl rfl rfl rfl (by kernel_rfl) 9 ag_str (.tmp 140) rfl (⟨gx, 1, none⟩) (by kernel_rfl) (fun w1 hb => KX.out _ (KPt.out.trans (hb.mono KPt.out.size)) 1 _ rfl), ow_invoke hA (wants_none rfl) 142 (.string (strOf H)) (by kernel_rfl) rfl rfl rfl rfl (by kernel_rfl) (.tmp 137) "Hash" [.tmp 139, .tmp 141] _ 64 (.agg #[]) 167 (.agg #[]) Tryz.f167 _ [.string (strOf A), .string (strOf B)] rfl (by kernel_rfl) (by kernel_rfl) (fun w => by kernel_rfl) Tryz.func167 (by kernel_rfl) rfl (fun w2 hb => CHr.out w2 (KPt.out.trans (hb.mono KPt.out.size))), ow_val hA (wants_none rfl) 143 (.slice (some ⟨gH, 0, none⟩) 32 32) (by kernel_rfl) rfl rfl rfl rfl (by kernel_rfl) (fun w => arr_all_run rfl (by kernel_rfl) Tryz.underlying30 Tryz.sizeOf5 (by decide) w), ow_str hA (wants_none rfl) 144 (.string (strOf H)) (by kernel_rfl) rfl rfl rfl rfl (by kernel_rfl) (.tmp 143) rfl (.slice (some ⟨gH, 0, none⟩) 32 32) (by kernel_rfl) H (fun w1 hb => blk_bytes (KHt.out.under hb) LH.out) rfl, ow_val hA (wants_none rfl) 145 (.bool true) (by kernel_rfl) rfl rfl rfl rfl (by kernel_rfl) (fun w => run_seq rfl (by kernel_rfl) (by kernel_rfl) YH.out YH.out (by simp) w), ow_val hA (wants_none rfl) 4 (.bool true) (by kernel_rfl) rfl rfl rfl rfl (by kernel_rfl) (fun w => by kernel_rfl), trivial⟩) ?_
      case hst1 => intro q hq; cases hq
      case hst2 => intro q hq; cases hq
      intro fv w30 hf hD hb30
      simp only [putR, List.foldl_cons, List.foldl_nil, List.map_cons, List.map_nil, Act.put, List.setIfInBounds_toArray, List.set_cons_succ, List.set_cons_zero]
      refine wpList_nil ?_
      have KP30 : Kept (Below w0.heap.size w0 w30) := ⟨KPt.out.trans (hb30.mono KPt.out.size)⟩
      clear hf hD hb30
      go_wp2_with fail
      go_ret
      exact ⟨rfl, Q0.out.trans (KP30.out.mono Q0.out.size)⟩

set_option maxRecDepth 100000 in
set_option maxHeartbeats 8000000 in
theorem real_bb {A B C T : List Nat} {N : Nat} {w : World} (hA : Bytes A) (hB : Bytes B) (hC : Bytes C) (hT : Bytes T) (hN : N < 18446744073709551616) (hr : RootsAt w) (hp : PrimeAt w) {z : Int} (hf : decide (Few A B C T) = true) (h1 : A.length = 32) (h2 : B.length ≠ 32) (hz : z < 1 ∨ 3 < z) : Calls Tryz.prog 3 #[.agg #[.string (strOf A), .string (strOf B), .int .u64 (N : Int), .string (strOf C), .string (strOf T)], .int .i64 z] w fun e w' => e = .returned (.bool true) ∧ Below w.heap.size w w' := by
  have KF : Kept (Few A B C T) := ⟨of_decide_eq_true hf⟩
  obtain ⟨kA, hkA⟩ : ∃ k, k = keyZ A := ⟨_, rfl⟩
  obtain ⟨kB, hkB⟩ : ∃ k, k = keyZ B := ⟨_, rfl⟩
  have IA : Kept ((Tryz.prog.info? 30).map (·.size) = some (ints .u8 kA).size ∧ (ints .u8 kA).size = 32) := ⟨by rw [ints_size, hkA, keyZ_len]; exact ⟨t32_info, rfl⟩⟩
  have IB : Kept ((Tryz.prog.info? 30).map (·.size) = some (ints .u8 kB).size ∧ (ints .u8 kB).size = 32) := ⟨by rw [ints_size, hkB, keyZ_len]; exact ⟨t32_info, rfl⟩⟩
  have YT : Kept _ := ⟨hT⟩
  obtain ⟨AB, hAB⟩ : ∃ z, z = A ++ B := ⟨_, rfl⟩
  obtain ⟨H, hH⟩ : ∃ z, z = sumL AB := ⟨_, rfl⟩
  have KAB : Kept (A.length + B.length < 4611686018427387904 ∧ AB = A ++ B) := ⟨⟨by have := KF.out.1; have := KF.out.2.1; omega, hAB⟩⟩
  have YAB : Kept (Bytes AB) := ⟨by rw [hAB]; exact hA.append hB⟩
  have LH : Kept (H.length = 32) := ⟨by rw [hH]; exact sumL_len _⟩
  have YH : Kept (Bytes H) := ⟨by rw [hH]; exact sumL_bytes _⟩
  have IH : Kept ((Tryz.prog.info? 30).map (·.size) = some (ints .u8 H).size ∧ (ints .u8 H).size = 32) := ⟨by rw [ints_size, LH.out]; exact ⟨t32_info, rfl⟩⟩
  obtain ⟨w0, hw0⟩ : ∃ v, v = w.alloc (.cells #[.string (strOf A), .string (strOf B), .int .u64 (N : Int), .string (strOf C), .string (strOf T)] 24) := ⟨_, rfl⟩
  have qww : Below w.heap.size w w0 := by rw [hw0]; exact (Below.refl _ _).alloc (Nat.le_refl _) _
  have hrw : RootsAt w0 := hr.under qww
  have hpw : PrimeAt w0 := PrimeAt.below hp qww
  have CHs : Kept (∀ v w', Below w0.heap.size w0 w' → BytesV v w' AB → Calls Tryz.prog 15 [v].toArray w' fun e w2 => e = .returned (.agg (ints .u8 H)) ∧ Below w'.heap.size w' w2) := ⟨fun v w' hb hv => by rw [hH]; exact cSum YAB.out (by rw [hAB, List.length_append]; have := KF.out.1; have := KF.out.2.1; omega) (hrw.under hb) hv⟩
  have CHr : Kept (∀ w', Below w0.heap.size w0 w' → Calls Tryz.prog 167 (.agg #[] :: [.string (strOf A), .string (strOf B)]).toArray w' fun e w2 => e = .returned (.string (strOf H)) ∧ Below w'.heap.size w' w2) := ⟨fun w' hb => by
    have h9 := HashR (w := w') hA hB (by have := KF.out.1; have := KF.out.2.1; omega) (hrw.under hb)
    rw [← hAB, ← hH] at h9
    exact h9⟩
  have KNil : Kept (Bytes []) := ⟨fun i x h => by simp at h⟩
  have CKA : Kept (∀ w, Calls Tryz.prog 11 #[.string (strOf A)] w fun e w' => e = .returned (.tuple #[.agg (ints .u8 kA), .bool true]) ∧ Below w.heap.size w w') := ⟨fun w => by
    have h9 := key11 (w := w) hA
    rw [← hkA, decide_eq_true h1] at h9
    exact h9⟩
  have CKB : Kept (∀ w, Calls Tryz.prog 11 #[.string (strOf B)] w fun e w' => e = .returned (.tuple #[.agg (ints .u8 kB), .bool false]) ∧ Below w.heap.size w w') := ⟨fun w => by
    have h9 := key11 (w := w) hB
    rw [← hkB, decide_eq_false h2] at h9
    exact h9⟩
  have eA : kA = A := by rw [hkA, keyZ_key h1]
  obtain ⟨PW, hPW⟩ : ∃ y, y = pubB A := ⟨_, rfl⟩
  obtain ⟨Y, hY⟩ : ∃ y, y = PW := ⟨_, rfl⟩
  subst hY
  have LY : Kept (Y.length = 32) := ⟨by rw [hPW]; exact digs_len _ _⟩
  have YPW : Kept (Bytes Y) := ⟨by rw [hPW]; exact digs_bytes _ _⟩
  have IY : Kept ((Tryz.prog.info? 30).map (·.size) = some (ints .u8 Y).size ∧ (ints .u8 Y).size = 32) := ⟨by rw [ints_size, LY.out]; exact ⟨t32_info, rfl⟩⟩
  have CPb : Kept (∀ w', Below w0.heap.size w0 w' → Calls Tryz.prog 12 [.agg (ints .u8 kA)].toArray w' fun e w2 => e = .returned (.agg (ints .u8 Y)) ∧ Below w'.heap.size w' w2) := ⟨fun w' hb => by rw [hPW, eA]; exact cPub h1 hA (PrimeAt.below hpw hb)⟩
  have CPr : Kept (∀ w', Below w0.heap.size w0 w' → Calls Tryz.prog 170 #[.agg #[], .string (strOf A)] w' fun e w2 => e = .returned (.string (strOf Y)) ∧ Below w'.heap.size w' w2) := ⟨fun w' hb => by rw [hPW]; exact PubR hA h1 (PrimeAt.below hpw hb)⟩
  have hd : ¬ (A.length = 32 ∧ B.length = 32) := fun h => h2 h.2
  have CDr : Kept (∀ w', Below w0.heap.size w0 w' → Calls Tryz.prog 166 #[.agg #[], .string (strOf A), .string (strOf B)] w' fun e w2 => e = .returned (.tuple #[.string ⟨#[]⟩, .bool false]) ∧ Below w'.heap.size w' w2) := ⟨fun w' hb => Dh_no hA hB hd⟩
  have CMk : Kept (∀ va w', Calls Tryz.prog 14 [.agg (ints .u8 kA), va, .int .i64 z].toArray w' fun e w2 => e = .returned (.tuple #[.slice none 0 0, .int .i64 2]) ∧ Below w'.heap.size w' w2) := ⟨fun va w' => Keys_bad _ z va w' hz⟩
  have CKk : Kept (∀ w', Calls Tryz.prog 168 #[.agg #[], .string (strOf A), .string (strOf T), .int .i64 z] w' fun e w2 => e = .returned (.slice none 0 0) ∧ Below w'.heap.size w' w2) := ⟨fun w' => Keys_err hA h1 hT hz⟩
  clear hA hB hC hT hN hp hAB hH hkA hkB hrw hpw qww h1 eA hPW hd h2 hz
  obtain ⟨gx, hgx⟩ : ∃ g, g = w.heap.size := ⟨_, rfl⟩
  have BX : Kept (Blk w0 gx 24 #[.string (strOf A), .string (strOf B), .int .u64 (N : Int), .string (strOf C), .string (strOf T)]) := ⟨by rw [hw0, hgx]; exact blk_new w _ _⟩
  have Q0 : Kept (Below w.heap.size w w0) := ⟨by rw [hw0]; exact (Below.refl _ _).alloc (Nat.le_refl _) _⟩
  have KX : Kept (∀ w', Below w0.heap.size w0 w' → ∀ (k : Nat) (v : Value), (#[.string (strOf A), .string (strOf B), .int .u64 (N : Int), .string (strOf C), .string (strOf T)] : Array Value)[k]? = some v → w'.cell? ⟨gx, k, none⟩ = some v) := ⟨fun w' hb k v hk => (BX.out.under hb).cell hk⟩
  have IX : Kept ((Tryz.prog.info? 24).map (·.size) = some (#[.string (strOf A), .string (strOf B), .int .u64 (N : Int), .string (strOf C), .string (strOf T)] : Array Value).size) := ⟨by kernel_rfl⟩
  have KR : Kept (RootsAt w0) := ⟨hr.under Q0.out⟩
  have CF : Kept (∀ w, Calls Tryz.prog 10 #[.agg #[.string (strOf A), .string (strOf B), .int .u64 (N : Int), .string (strOf C), .string (strOf T)]] w fun e w' => e = .returned (.bool true) ∧ Below w.heap.size w w') := ⟨fun w => by
    have h9 := few11 (A := A) (B := B) (C := C) (T := T) (N := N) (w := w)
    rw [show decide (Few A B C T) = true from hf] at h9
    exact h9⟩
  have Kw0 : Kept _ := ⟨hw0⟩
  have Kgx : Kept _ := ⟨hgx⟩
  clear hw0 hgx hr hf
  go_enter Tryz.func3, Tryz.ntmps3
  go_wp2_with fail
  rw [← Kw0.out, ← Kgx.out]
  refine (alive11 KR.out).mono ?_
  rintro e w1 ⟨rfl, q1⟩
  have KP1 : Kept _ := ⟨q1⟩
  clear q1
  go_wp2_with fail
  refine RealD.mono ?_
  rintro e w2 ⟨rfl, q2⟩
  have KP2 : Kept _ := ⟨KP1.out.trans (q2.mono KP1.out.size)⟩
  clear q2 KP1
  go_wp2_with (first | ((with_reducible refine wv_rowS (d := 28) ?hd ?hw 24 (.tmp 2) ?ho (gx) ?hx (t' := 24) (#[.string (strOf A), .string (strOf B), .int .u64 (N : Int), .string (strOf C), .string (strOf T)]) _ Tryz.underlying24 ?hs ?hg ?_); (case hd => rfl); (case hw => kernel_rfl); (case ho => rfl); (case hx => kernel_rfl); (case hs => exact IX.out); (case hg => exact (BX.out.under KP2.out)); simp only [Act.put, List.setIfInBounds_toArray, List.set_cons_succ, List.set_cons_zero]))
  refine (CF.out _).mono ?_
  rintro e w3 ⟨rfl, q3⟩
  have KP3 : Kept (Below w0.heap.size w0 w3) := ⟨KP2.out.trans (q3.mono KP2.out.size)⟩
  clear q3 KP2
  go_wp2_with (first | ((with_reducible refine wv_elem (d := 36) ?hd ?hw 9 ag_str (.tmp 35) ?ho (⟨gx, 0, none⟩) ?hx (.string (strOf A)) ?hc ?_); (case hd => rfl); (case hw => kernel_rfl); (case ho => rfl); (case hx => kernel_rfl); (case hc => exact KX.out _ (KP3.out) 0 _ rfl); simp only [Act.put, List.setIfInBounds_toArray, List.set_cons_succ, List.set_cons_zero]))
  refine (CKA.out _).mono ?_
  rintro e w4 ⟨rfl, q4⟩
  have pp := KP3.out
  have KP4 : Kept (Below w0.heap.size w0 w4) := ⟨pp.trans (q4.mono pp.size)⟩
  clear pp q4  KP3 
  go_wp2_with (first | (refine wl_store rfl 30 (.tmp 6) (.tmp 38) rfl w4.heap.size (ints .u8 kA) rfl rfl _ (blk_new _ _ _) IA.out.1 (by rw [IA.out.2]; rfl) (ints_one _ _) ?_; intro w5 hB5 hp5; simp only [Act.put, List.setIfInBounds_toArray, List.set_cons_succ, List.set_cons_zero]) | ((with_reducible refine wv_elem (d := 42) ?hd ?hw 9 ag_str (.tmp 41) ?ho (⟨gx, 1, none⟩) ?hx (.string (strOf B)) ?hc ?_); (case hd => rfl); (case hw => kernel_rfl); (case ho => rfl); (case hx => kernel_rfl); (case hc => exact KX.out _ (((KP4.out.alloc KP4.out.size _).trans (hp5.below KP4.out.size))) 1 _ rfl); simp only [Act.put, List.setIfInBounds_toArray, List.set_cons_succ, List.set_cons_zero]))
  refine (CKB.out _).mono ?_
  rintro e w6 ⟨rfl, q6⟩
  have pp := ((KP4.out.alloc KP4.out.size _).trans (hp5.below KP4.out.size))
  have bA := hB5
  have KA6 : Kept _ := ⟨bA.under q6⟩
  have KP6 : Kept (Below w0.heap.size w0 w6) := ⟨pp.trans (q6.mono pp.size)⟩
  clear pp q6 bA hB5 hp5 KP4 
  go_wp2_with (first | (refine wl_store rfl 30 (.tmp 8) (.tmp 44) rfl w6.heap.size (ints .u8 kB) rfl rfl _ (blk_new _ _ _) IB.out.1 (by rw [IB.out.2]; rfl) (ints_one _ _) ?_; intro w7 hB7 hp7; simp only [Act.put, List.setIfInBounds_toArray, List.set_cons_succ, List.set_cons_zero]) | ((with_reducible refine wv_row (d := 47) ?hd ?hw 30 (.tmp 6) ?ho (w4.heap.size) ?hx (t' := 30) (ints .u8 kA) _ _ Tryz.underlying30 ?hs ?hg ?_); (case hd => rfl); (case hw => kernel_rfl); (case ho => rfl); (case hx => kernel_rfl); (case hs => exact IA.out.1); (case hg => exact (blk_grown hp7.grown (KA6.out.under ((Below.refl _ _).alloc (Nat.le_refl _) _)) (by have := KA6.out.lt; simp; omega))); simp only [Act.put, List.setIfInBounds_toArray, List.set_cons_succ, List.set_cons_zero]))
  refine (CPb.out _ ((KP6.out.alloc KP6.out.size _).trans (hp7.below KP6.out.size))).mono ?_
  rintro e w8 ⟨rfl, q8⟩
  have pp := ((KP6.out.alloc KP6.out.size _).trans (hp7.below KP6.out.size))
  have bA := (blk_grown hp7.grown (KA6.out.under ((Below.refl _ _).alloc (Nat.le_refl _) _)) (by have := KA6.out.lt; simp; omega))
  have bB := hB7
  have KA8 : Kept _ := ⟨bA.under q8⟩
  have KB8 : Kept _ := ⟨bB.under q8⟩
  have KP8 : Kept (Below w0.heap.size w0 w8) := ⟨pp.trans (q8.mono pp.size)⟩
  clear pp q8 bA bB hB7 hp7 KP6 KA6
  go_wp2_with (first | (refine wl_store rfl 30 (.tmp 11) (.tmp 48) rfl w8.heap.size (ints .u8 Y) rfl rfl _ (blk_new _ _ _) IY.out.1 (by rw [IY.out.2]; rfl) (ints_one _ _) ?_; intro w9 hB9 hp9; simp only [Act.put, List.setIfInBounds_toArray, List.set_cons_succ, List.set_cons_zero]) | ((with_reducible refine wv_str (d := 50) ?hd ?hw (.tmp 49) ?ho (.slice (some ⟨w8.heap.size, 0, none⟩) 32 32) ?hx (Y) ?hl ?_); (case hd => rfl); (case hw => kernel_rfl); (case ho => rfl); (case hx => kernel_rfl); (case hl => exact blk_bytes hB9 LY.out); simp only [Act.put, List.setIfInBounds_toArray, List.set_cons_succ, List.set_cons_zero]) | ((with_reducible refine wv_elem (d := 53) ?hd ?hw 9 ag_str (.tmp 52) ?ho (⟨gx, 0, none⟩) ?hx (.string (strOf A)) ?hc ?_); (case hd => rfl); (case hw => kernel_rfl); (case ho => rfl); (case hx => kernel_rfl); (case hc => exact KX.out _ (((KP8.out.alloc KP8.out.size _).trans (hp9.below KP8.out.size))) 0 _ rfl); simp only [Act.put, List.setIfInBounds_toArray, List.set_cons_succ, List.set_cons_zero]))
  refine (CPr.out _ ((KP8.out.alloc KP8.out.size _).trans (hp9.below KP8.out.size))).mono ?_
  rintro e wa ⟨rfl, qa⟩
  have pp := ((KP8.out.alloc KP8.out.size _).trans (hp9.below KP8.out.size))
  have bA := (blk_grown hp9.grown (KA8.out.under ((Below.refl _ _).alloc (Nat.le_refl _) _)) (by have := KA8.out.lt; simp; omega))
  have bB := (blk_grown hp9.grown (KB8.out.under ((Below.refl _ _).alloc (Nat.le_refl _) _)) (by have := KB8.out.lt; simp; omega))
  have KAa : Kept _ := ⟨bA.under qa⟩
  have KBa : Kept _ := ⟨bB.under qa⟩
  have KPa : Kept (Below w0.heap.size w0 wa) := ⟨pp.trans (qa.mono pp.size)⟩
  clear pp qa bA bB hB9 hp9 KP8 KA8 KB8
  go_wp2_with (first | ((with_reducible refine wv_val (d := 56) ?hd ?hw (.bool false) ?hr ?_); (case hd => rfl); (case hw => kernel_rfl); (case hr => intro w; exact run_sneq (l := Y) (m := Y) rfl (by kernel_rfl) (by kernel_rfl) YPW.out YPW.out (by simp) w); simp only [Act.put, List.setIfInBounds_toArray, List.set_cons_succ, List.set_cons_zero]) | ((with_reducible refine wv_elem (d := 73) ?hd ?hw 9 ag_str (.tmp 72) ?ho (⟨gx, 0, none⟩) ?hx (.string (strOf A)) ?hc ?_); (case hd => rfl); (case hw => kernel_rfl); (case ho => rfl); (case hx => kernel_rfl); (case hc => exact KX.out _ (KPa.out) 0 _ rfl); simp only [Act.put, List.setIfInBounds_toArray, List.set_cons_succ, List.set_cons_zero]) | ((with_reducible refine wv_elem (d := 75) ?hd ?hw 9 ag_str (.tmp 74) ?ho (⟨gx, 1, none⟩) ?hx (.string (strOf B)) ?hc ?_); (case hd => rfl); (case hw => kernel_rfl); (case ho => rfl); (case hx => kernel_rfl); (case hc => exact KX.out _ (KPa.out) 1 _ rfl); simp only [Act.put, List.setIfInBounds_toArray, List.set_cons_succ, List.set_cons_zero]))
  refine (CDr.out _ KPa.out).mono ?_
  rintro e wc ⟨rfl, qc⟩
  have pp := KPa.out
  have bA := KAa.out
  have bB := KBa.out
  have KAc : Kept _ := ⟨bA.under qc⟩
  have KBc : Kept _ := ⟨bB.under qc⟩
  have KPc : Kept (Below w0.heap.size w0 wc) := ⟨pp.trans (qc.mono pp.size)⟩
  clear pp qc bA bB KPa KAa KBa
  go_wp2_with (first | ((with_reducible refine wv_val (d := 81) ?hd ?hw (.bool false) ?hr ?_); (case hd => rfl); (case hw => kernel_rfl); (case hr => intro w; exact run_sneq (l := []) (m := []) rfl (by kernel_rfl) (by kernel_rfl) KNil.out KNil.out (by simp) w); simp only [Act.put, List.setIfInBounds_toArray, List.set_cons_succ, List.set_cons_zero]) | ((with_reducible refine wv_row (d := 88) ?hd ?hw 30 (.tmp 6) ?ho (w4.heap.size) ?hx (t' := 30) (ints .u8 kA) _ _ Tryz.underlying30 ?hs ?hg ?_); (case hd => rfl); (case hw => kernel_rfl); (case ho => rfl); (case hx => kernel_rfl); (case hs => exact IA.out.1); (case hg => exact KAc.out); simp only [Act.put, List.setIfInBounds_toArray, List.set_cons_succ, List.set_cons_zero]) | ((with_reducible refine wv_elem (d := 90) ?hd ?hw 9 ag_str (.tmp 89) ?ho (⟨gx, 4, none⟩) ?hx (.string (strOf T)) ?hc ?_); (case hd => rfl); (case hw => kernel_rfl); (case ho => rfl); (case hx => kernel_rfl); (case hc => exact KX.out _ (KPc.out) 4 _ rfl); simp only [Act.put, List.setIfInBounds_toArray, List.set_cons_succ, List.set_cons_zero]) | (refine wl_csb rfl (.tmp 90) rfl T (by kernel_rfl) YT.out ?_; intro g1 c1 v1 hg hr1 hc1 hb1; clear hg; simp only [Act.put, List.setIfInBounds_toArray, List.set_cons_succ, List.set_cons_zero]))
  refine (CMk.out _ _).mono ?_
  rintro e wd ⟨rfl, qd⟩
  have pp := KPc.out
  have bA := KAc.out
  have bB := KBc.out
  have pp := pp.trans (hb1.mono pp.size)
  have bA := bA.under hb1
  have bB := bB.under hb1
  have KAd : Kept _ := ⟨bA.under qd⟩
  have KBd : Kept _ := ⟨bB.under qd⟩
  have KPd : Kept (Below w0.heap.size w0 wd) := ⟨pp.trans (qd.mono pp.size)⟩
  clear pp qd bA bB hb1 hr1 hc1 KPc KAc KBc
  go_wp2_with (first | ((with_reducible refine wv_elem (d := 98) ?hd ?hw 9 ag_str (.tmp 97) ?ho (⟨gx, 0, none⟩) ?hx (.string (strOf A)) ?hc ?_); (case hd => rfl); (case hw => kernel_rfl); (case ho => rfl); (case hx => kernel_rfl); (case hc => exact KX.out _ (KPd.out) 0 _ rfl); simp only [Act.put, List.setIfInBounds_toArray, List.set_cons_succ, List.set_cons_zero]) | ((with_reducible refine wv_elem (d := 100) ?hd ?hw 9 ag_str (.tmp 99) ?ho (⟨gx, 4, none⟩) ?hx (.string (strOf T)) ?hc ?_); (case hd => rfl); (case hw => kernel_rfl); (case ho => rfl); (case hx => kernel_rfl); (case hc => exact KX.out _ (KPd.out) 4 _ rfl); simp only [Act.put, List.setIfInBounds_toArray, List.set_cons_succ, List.set_cons_zero]))
  refine (CKk.out _).mono ?_
  rintro e we ⟨rfl, qe⟩
  have pp := KPd.out
  have KPe : Kept (Below w0.heap.size w0 we) := ⟨pp.trans (qe.mono pp.size)⟩
  clear pp qe  KPd 
  go_wp2_with fail
  refine wp_loop_rounds 2 ?_
  rw [rounds_succ]
  have KPf : Kept (Below w0.heap.size w0 we) := KPe
  clear KPe
  go_wp2_with (first | ((with_reducible refine wv_elem (d := 131) ?hd ?hw 9 ag_str (.tmp 130) ?ho (⟨gx, 0, none⟩) ?hx (.string (strOf A)) ?hc ?_); (case hd => rfl); (case hw => kernel_rfl); (case ho => rfl); (case hx => kernel_rfl); (case hc => exact KX.out _ (KPf.out) 0 _ rfl); simp only [Act.put, List.setIfInBounds_toArray, List.set_cons_succ, List.set_cons_zero]) | ((with_reducible refine wv_elem (d := 133) ?hd ?hw 9 ag_str (.tmp 132) ?ho (⟨gx, 1, none⟩) ?hx (.string (strOf B)) ?hc ?_); (case hd => rfl); (case hw => kernel_rfl); (case ho => rfl); (case hx => kernel_rfl); (case hc => exact KX.out _ (KPf.out) 1 _ rfl); simp only [Act.put, List.setIfInBounds_toArray, List.set_cons_succ, List.set_cons_zero]) | ((with_reducible refine wv_val (d := 134) ?hd ?hw (.string (strOf AB)) ?hr ?_); (case hd => rfl); (case hw => kernel_rfl); (case hr => intro w; exact run_scat rfl (by kernel_rfl) (by kernel_rfl) KAB.out.1 KAB.out.2 w); simp only [Act.put, List.setIfInBounds_toArray, List.set_cons_succ, List.set_cons_zero]) | (refine wl_csb rfl (.tmp 134) rfl AB (by kernel_rfl) YAB.out ?_; intro g9 c9 v9 hg hr9 hc9 hb9; clear hg; simp only [Act.put, List.setIfInBounds_toArray, List.set_cons_succ, List.set_cons_zero]))
  have pf9 := KPf.out.trans (hb9.mono KPf.out.size)
  refine (CHs.out _ _ pf9 (hr9.bytes hc9)).mono ?_
  rintro e wh ⟨rfl, qh⟩
  have KPh : Kept (Below w0.heap.size w0 wh) := ⟨pf9.trans (qh.mono pf9.size)⟩
  clear pf9 hb9 hr9 hc9 qh KPf
  go_wp2_with (first | (refine wl_store rfl 30 (.tmp 21) (.tmp 136) rfl wh.heap.size (ints .u8 H) rfl rfl _ (blk_new _ _ _) IH.out.1 (by rw [IH.out.2]; rfl) (ints_one _ _) ?_; intro wt hBt hpt; simp only [Act.put, List.setIfInBounds_toArray, List.set_cons_succ, List.set_cons_zero]))
  obtain ⟨gH, hgH⟩ : ∃ g, g = wh.heap.size := ⟨_, rfl⟩
  rw [← hgH] at hBt ⊢
  have KHt : Kept _ := ⟨hBt⟩
  have KPt : Kept (Below w0.heap.size w0 wt) := ⟨(KPh.out.alloc KPh.out.size _).trans (hpt.below KPh.out.size)⟩
  clear hBt hpt hgH KPh
  refine region_ownL wt 10 [(137, .iface 64 (.agg #[])), (138, .pointer (some ⟨gx, 0, none⟩)), (139, .string (strOf A)), (140, .pointer (some ⟨gx, 1, none⟩)), (141, .string (strOf B)), (142, .string (strOf H)), (143, .slice (some ⟨gH, 0, none⟩) 32 32), (144, .string (strOf H)), (145, .bool true), (4, .bool true)] [] [] [] rfl (by kernel_rfl) (by kernel_rfl) (by kernel_rfl) (by kernel_rfl) (by kernel_rfl) (by kernel_rfl) (by kernel_rfl) (by kernel_rfl) (by kernel_rfl) (by kernel_rfl) (by kernel_rfl) ?hst1 ?hst2 (Below.refl _ _) (fun hA => ⟨ow_val hA (wants_none rfl) 137 (.iface 64 (.agg #[])) (by kernel_rfl) rfl rfl rfl rfl (by kernel_rfl) (fun w => by kernel_rfl), ow_val hA (wants_none rfl) 138 (.pointer (some ⟨gx, 0, none⟩)) (by kernel_rfl) rfl rfl rfl rfl (by kernel_rfl) (fun w => by kernel_rfl), ow_elem hA (wants_none rfl) 139 (.string (strOf A)) (by kernel_rfl) rfl rfl rfl rfl (by kernel_rfl) 9 ag_str (.tmp 138) rfl (⟨gx, 0, none⟩) (by kernel_rfl) (fun w1 hb => KX.out _ (KPt.out.trans (hb.mono KPt.out.size)) 0 _ rfl), ow_val hA (wants_none rfl) 140 (.pointer (some ⟨gx, 1, none⟩)) (by kernel_rfl) rfl rfl rfl rfl (by kernel_rfl) (fun w => by kernel_rfl), ow_elem hA (wants_none rfl) 141 (.string (strOf B)) (by kernel_rfl) rfl rfl rfl rfl (by kernel_rfl) 9 ag_str (.tmp 140) rfl (⟨gx, 1, none⟩) (by kernel_rfl) (fun w1 hb => KX.out _ (KPt.out.trans (hb.mono KPt.out.size)) 1 _ rfl), ow_invoke hA (wants_none rfl) 142 (.string (strOf H)) (by kernel_rfl) rfl rfl rfl rfl (by kernel_rfl) (.tmp 137) "Hash" [.tmp 139, .tmp 141] _ 64 (.agg #[]) 167 (.agg #[]) Tryz.f167 _ [.string (strOf A), .string (strOf B)] rfl (by kernel_rfl) (by kernel_rfl) (fun w => by kernel_rfl) Tryz.func167 (by kernel_rfl) rfl (fun w2 hb => CHr.out w2 (KPt.out.trans (hb.mono KPt.out.size))), ow_val hA (wants_none rfl) 143 (.slice (some ⟨gH, 0, none⟩) 32 32) (by kernel_rfl) rfl rfl rfl rfl (by kernel_rfl) (fun w => arr_all_run rfl (by kernel_rfl) Tryz.underlying30 Tryz.sizeOf5 (by decide) w), ow_str hA (wants_none rfl) 144 (.string (strOf H)) (by kernel_rfl) rfl rfl rfl rfl (by kernel_rfl) (.tmp 143) rfl (.slice (some ⟨gH, 0, none⟩) 32 32) (by kernel_rfl) H (fun w1 hb => blk_bytes (KHt.out.under hb) LH.out) rfl, ow_val hA (wants_none rfl) 145 (.bool true) (by kernel_rfl) rfl rfl rfl rfl (by kernel_rfl) (fun w => run_seq rfl (by kernel_rfl) (by kernel_rfl) YH.out YH.out (by simp) w), ow_val hA (wants_none rfl) 4 (.bool true) (by kernel_rfl) rfl rfl rfl rfl (by kernel_rfl) (fun w => by kernel_rfl), trivial⟩) ?_
  case hst1 => intro q hq; cases hq
  case hst2 => intro q hq; cases hq
  intro fv w30 hf hD hb30
  simp only [putR, List.foldl_cons, List.foldl_nil, List.map_cons, List.map_nil, Act.put, List.setIfInBounds_toArray, List.set_cons_succ, List.set_cons_zero]
  refine wpList_nil ?_
  have KP30 : Kept (Below w0.heap.size w0 w30) := ⟨KPt.out.trans (hb30.mono KPt.out.size)⟩
  clear hf hD hb30
  go_wp2_with fail
  go_ret
  exact ⟨rfl, Q0.out.trans (KP30.out.mono Q0.out.size)⟩

end Go.Proofs.YtjkdonjcngmjeaaGreatDoor.sh
