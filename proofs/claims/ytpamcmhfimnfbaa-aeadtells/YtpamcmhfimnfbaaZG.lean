/-
  The reference of layer 7: bytes filled up, the tag of both.
-/
import Derived.Test.YtpamcmhfimnfbaaZF
import Derived.Test.YtpamcmhfimnfbaaYS
namespace Go.Proofs.Ytpamcmhfimnfbaa.sh
open Go Go.RowKit
set_option linter.unusedVariables false
set_option linter.unusedSimpArgs false

theorem alloc_64 {o : Oper} {a : Act} (ho : o.op = .alloc 50) (w : World) : (execOp a.eval o).run Try.prog w = .ok (.value (.pointer (some ⟨w.heap.size, 0, none⟩))) (w.alloc (.cells #[.int .u8 0, .int .u8 0, .int .u8 0, .int .u8 0, .int .u8 0, .int .u8 0, .int .u8 0, .int .u8 0, .int .u8 0, .int .u8 0, .int .u8 0, .int .u8 0, .int .u8 0, .int .u8 0, .int .u8 0, .int .u8 0, .int .u8 0, .int .u8 0, .int .u8 0, .int .u8 0, .int .u8 0, .int .u8 0, .int .u8 0, .int .u8 0, .int .u8 0, .int .u8 0, .int .u8 0, .int .u8 0, .int .u8 0, .int .u8 0, .int .u8 0, .int .u8 0, .int .u8 0, .int .u8 0, .int .u8 0, .int .u8 0, .int .u8 0, .int .u8 0, .int .u8 0, .int .u8 0, .int .u8 0, .int .u8 0, .int .u8 0, .int .u8 0, .int .u8 0, .int .u8 0, .int .u8 0, .int .u8 0, .int .u8 0, .int .u8 0, .int .u8 0, .int .u8 0, .int .u8 0, .int .u8 0, .int .u8 0, .int .u8 0, .int .u8 0, .int .u8 0, .int .u8 0, .int .u8 0, .int .u8 0, .int .u8 0, .int .u8 0, .int .u8 0] 50)) := by
  have h1 : ∀ w, (Instr.alloc 50 true (.tuple #[])).run Try.prog w = .ok (.pointer (some ⟨w.heap.size, 0, none⟩)) (w.alloc (.cells #[.int .u8 0, .int .u8 0, .int .u8 0, .int .u8 0, .int .u8 0, .int .u8 0, .int .u8 0, .int .u8 0, .int .u8 0, .int .u8 0, .int .u8 0, .int .u8 0, .int .u8 0, .int .u8 0, .int .u8 0, .int .u8 0, .int .u8 0, .int .u8 0, .int .u8 0, .int .u8 0, .int .u8 0, .int .u8 0, .int .u8 0, .int .u8 0, .int .u8 0, .int .u8 0, .int .u8 0, .int .u8 0, .int .u8 0, .int .u8 0, .int .u8 0, .int .u8 0, .int .u8 0, .int .u8 0, .int .u8 0, .int .u8 0, .int .u8 0, .int .u8 0, .int .u8 0, .int .u8 0, .int .u8 0, .int .u8 0, .int .u8 0, .int .u8 0, .int .u8 0, .int .u8 0, .int .u8 0, .int .u8 0, .int .u8 0, .int .u8 0, .int .u8 0, .int .u8 0, .int .u8 0, .int .u8 0, .int .u8 0, .int .u8 0, .int .u8 0, .int .u8 0, .int .u8 0, .int .u8 0, .int .u8 0, .int .u8 0, .int .u8 0, .int .u8 0] 50)) := fun w => by kernel_rfl
  unfold execOp
  simp only [ho]
  simp [h1]

set_option maxRecDepth 100000 in
set_option maxHeartbeats 1000000 in
theorem rfilledD (b : List Nat) (v : Value) (w : World) (hv : BytesV v w b) (hl : b.length ≤ 100000) :
    Calls Try.prog 28 #[v] w fun e w' => ∃ v', e = .returned v' ∧ Row w.heap.size 5 .u8 (padF b) v' w' ∧ Below w.heap.size w w' := by
  have KV : Kept _ := ⟨hv⟩
  obtain ⟨n, hn⟩ : ∃ n, n = b.length := ⟨_, rfl⟩
  obtain ⟨p, c, rfl⟩ := slice_form hv hn.symm
  obtain ⟨N, hN⟩ : ∃ N, N = (n + 15) / 16 * 16 - n := ⟨_, rfl⟩
  have EN : Kept _ := ⟨hn⟩
  have ENN : Kept _ := ⟨hN⟩
  have EP : Kept (padF b = b ++ List.replicate N 0) := ⟨by unfold padF; rw [← hn, ← hN]⟩
  have nB : n ≤ 100000 := by omega
  have N16 : N < 16 := by omega
  have RE : Kept (Row w.heap.size 5 .u8 [] (.slice (some ⟨w.heap.size, 0, none⟩) 0 0) (w.alloc (.cells #[] 5))) := ⟨row_emp8 w (Nat.le_refl _)⟩
  have QE : Below w.heap.size w (w.alloc (.cells #[] 5)) := (Below.refl _ _).alloc (Nat.le_refl _) _
  have VE : Kept _ := ⟨KV.out.under QE⟩
  have SN : Kept (([] : List Nat).length + b.length ≤ 8796093022208) := ⟨by rw [← hn]; simp; omega⟩
  have SB := QE.size
  clear hv hl hn hN
  go_enter Try.func28, Try.ntmps28
  go_wp2_with (first | (refine wl_app (by kernel_rfl) (.tmp 4) (.tmp 5) 24 5 .u8 1 rfl Try.underlying24 inf_u8 (by decide) w.heap.size [] b _ _ rfl rfl RE.out VE.out SN.out SB ?_))
  intro v1 w1 r1 g1 _
  have Q1 := app_below QE SB RE.out g1
  have r1 : Row w.heap.size 5 .u8 b v1 w1 := r1
  obtain ⟨p1, c1, rfl⟩ := slice_form (row_bytes r1) EN.out.symm
  have R1 : Kept (Row w.heap.size 5 .u8 (b ++ List.replicate 0 0) (.slice p1 n c1) w1) := ⟨by rw [List.replicate_zero, List.append_nil]; exact r1⟩
  clear RE QE VE SN SB g1 r1
  go_wp2_with fail
  go_loopg [3] N (fun k s3 wr => ∃ (j m : Nat) (q : Option Addr) (d : Nat), j + k = N ∧ Kept (m = n + j) ∧ s3 = .slice q m d ∧ Below w.heap.size w wr ∧ Kept (Row w.heap.size 5 .u8 (b ++ List.replicate j 0) (.slice q m d) wr))
  case atStart => exact ⟨0, n, p1, c1, by omega, ⟨rfl⟩, rfl, Q1, R1⟩
  case round =>
    obtain ⟨j, m, q, d, hjk, Em, rfl, HB, RO⟩ := hrel
    clear Q1 R1
    obtain ⟨r, hr⟩ : ∃ r, r = m % 16 := ⟨_, rfl⟩
    have Er : Kept _ := ⟨hr⟩
    by_cases hj : j < N
    case neg =>
      obtain rfl : j = N := by omega
      have r0 : ¬ (0 : Int) < (r : Int) := by have h1 := Em.out; have h2 := ENN.out; omega
      have RF : Kept (Row w.heap.size 5 .u8 (padF b) (.slice q m d) wr) := ⟨by rw [EP.out]; exact RO.out⟩
      clear hr RO
      go_wp2_with (first | ((with_reducible refine wv_val (d := 9) ?hd ?hw (.int .i64 (r : Int)) ?hr ?_); (case hd => rfl); (case hw => kernel_rfl); (case hr => intro w; exact run_remK 16 (by decide) rfl (by kernel_rfl) Er.out w); simp only [Act.put, List.setIfInBounds_toArray, List.set_cons_succ, List.set_cons_zero]))
      go_ret
      exact ⟨_, rfl, RF.out, HB⟩
    case pos =>
      have r0 : (0 : Int) < (r : Int) := by have h1 := Em.out; have h2 := ENN.out; omega
      have SN : Kept ((b ++ List.replicate j 0).length + [0].length ≤ 8796093022208) := ⟨by rw [List.length_append, ← EN.out, List.length_replicate]; simp; omega⟩
      have SB : w.heap.size ≤ (wr.alloc (.cells #[.int .u8 0] 5)).heap.size := Nat.le_trans HB.size (by simp)
      have V0 : Kept (IntsV .u8 (.slice (some ⟨wr.heap.size, 0, none⟩) 1 1) (wr.alloc (.cells #[.int .u8 0] 5)) [0]) := ⟨one_byte wr 0⟩
      clear hr
      go_wp2_with (first | ((with_reducible refine wv_val (d := 9) ?hd ?hw (.int .i64 (r : Int)) ?hr ?_); (case hd => rfl); (case hw => kernel_rfl); (case hr => intro w; exact run_remK 16 (by decide) rfl (by kernel_rfl) Er.out w); simp only [Act.put, List.setIfInBounds_toArray, List.set_cons_succ, List.set_cons_zero]) | (refine wl_app (by kernel_rfl) (.tmp 11) (.tmp 12) 24 5 .u8 1 rfl Try.underlying24 inf_u8 (by decide) w.heap.size (b ++ List.replicate j 0) [0] _ _ rfl rfl (RO.out.alloc _) V0.out SN.out SB ?_))
      intro v4 w4 r4 g4 _
      have HB4 : Below w.heap.size w w4 := app_below (HB.alloc HB.size _) SB (RO.out.alloc _) g4
      have r4 : Row w.heap.size 5 .u8 (b ++ List.replicate (j + 1) 0) v4 w4 := by
        rw [List.replicate_succ']; first | exact r4 | (rw [← List.append_assoc]; exact r4)
      have Em2 : Kept (m + 1 = n + (j + 1)) := ⟨by have := Em.out; omega⟩
      obtain ⟨q4, d4, rfl⟩ := slice_form (n := m + 1) (row_bytes r4) (by rw [Em2.out, List.length_append, ← EN.out, List.length_replicate])
      have RO4 : Kept _ := ⟨r4⟩
      clear r4 g4 RO HB SB SN V0 Er Em
      go_wp2_with fail
      go_roundg (gk - 1)
      case measure => omega
      case rel => exact ⟨j + 1, m + 1, q4, d4, by omega, Em2, rfl, HB4, RO4⟩

set_option maxRecDepth 100000 in
set_option maxHeartbeats 4000000 in
theorem rtagD (key : List Nat) (n : Nat) (a c : List Nat) (va vc : Value) (w : World) (hk : key.length = 32) (hy : Bytes key) (hn : n < 18446744073709551616) (hva : BytesV va w a) (hvc : BytesV vc w c) (ha : Bytes a) (hc : Bytes c) (la : a.length ≤ 1000) (lc : c.length ≤ 1000) :
    Calls Try.prog 18 #[.agg (ints .u8 key), .int .u64 (n : Int), va, vc] w fun e w' => ∃ v, e = .returned v ∧ BytesV v w' (markL key n a c) ∧ Below w.heap.size w w' := by
  obtain ⟨NN, hNN⟩ : ∃ l, l = nonceL n := ⟨_, rfl⟩
  obtain ⟨BK, hBK⟩ : ∃ l, l = blockL key NN 0 := ⟨_, rfl⟩
  obtain ⟨KL, hKL⟩ : ∃ l, l = BK.take 32 := ⟨_, rfl⟩
  obtain ⟨LD, hLD⟩ : ∃ l, l = laidL a c := ⟨_, rfl⟩
  obtain ⟨T, hT⟩ : ∃ l, l = markL key n a c := ⟨_, rfl⟩
  obtain ⟨DA, hDA⟩ : ∃ l, l = digs a.length 8 := ⟨_, rfl⟩
  obtain ⟨DC, hDC⟩ : ∃ l, l = digs c.length 8 := ⟨_, rfl⟩
  obtain ⟨PA, hPA⟩ : ∃ l, l = padF a := ⟨_, rfl⟩
  obtain ⟨PC, hPC⟩ : ∃ l, l = padF c := ⟨_, rfl⟩
  have ET : T = tagL KL LD := by rw [hT, hKL, hBK, hNN, hLD]; rfl
  have LN : Kept (NN.length = 12) := ⟨by rw [hNN]; exact nonceL_len n⟩
  have LKY : Kept _ := ⟨hk⟩
  have LB : Kept (BK.length = 64) := ⟨by rw [hBK]; exact blockL_len _ _ _⟩
  have LK : Kept (KL.length = 32) := ⟨by rw [hKL, List.length_take, LB.out]; rfl⟩
  have LT : Kept (T.length = 16) := ⟨by rw [hT]; exact markL_len _ _ _ _⟩
  have LPA : Kept (PA.length ≤ 1100) := ⟨by rw [hPA, padF_len]; omega⟩
  have LPC : Kept (PC.length ≤ 1100) := ⟨by rw [hPC, padF_len]; omega⟩
  have LDA : Kept (DA.length = 8) := ⟨by rw [hDA]; exact digs_len _ _⟩
  have LDC : Kept (DC.length = 8) := ⟨by rw [hDC]; exact digs_len _ _⟩
  have ELD : Kept (PA ++ PC ++ DA ++ DC = LD) := ⟨by rw [hLD, hPA, hPC, hDA, hDC]; rfl⟩
  have YK : Bytes KL := by rw [hKL, hBK]; exact (blockL_bytes _ _ _).take 32
  have CNO : Kept (∀ w', Below (w.alloc (.cells (ints .u8 key) 22)).heap.size (w.alloc (.cells (ints .u8 key) 22)) w' → Calls Try.prog 17 [.int .u64 (n : Int)].toArray w' fun e w2 => e = .returned (.agg (ints .u8 NN)) ∧ Below w'.heap.size w' w2) := ⟨fun w' _ => by rw [hNN]; exact rnonceD n w' hn⟩
  have CBK : Kept (∀ w', Below (w.alloc (.cells (ints .u8 key) 22)).heap.size (w.alloc (.cells (ints .u8 key) 22)) w' → Calls Try.prog 26 [.agg (ints .u8 key), .agg (ints .u8 NN), .int .u32 0].toArray w' fun e w2 => e = .returned (.agg (ints .u8 BK)) ∧ Below w'.heap.size w' w2) := ⟨fun w' _ => by
    rw [hBK]
    exact rBlock_any key NN 0 w' hk hy LN.out (by rw [hNN]; exact nonceL_bytes n) (by decide)⟩
  have GK : Kept (∀ i x : Nat, KL[i]? = some x → BK[i]? = some x) := ⟨fun i x h => by
    rw [hKL] at h
    have hi : i < 32 := by have := (List.getElem?_eq_some_iff.1 h).1; rw [List.length_take] at this; omega
    rwa [List.getElem?_take_of_lt hi] at h⟩
  have CT : Kept (∀ (v : Value) (w' : World), BytesV v w' LD → Calls Try.prog 29 #[.agg (ints .u8 KL), v] w' fun e w2 => e = .returned (.agg (ints .u8 T)) ∧ Below w'.heap.size w' w2) := ⟨fun v w' h => by
    rw [ET]
    exact rSum6 KL LD v w' LK.out YK (by rw [hLD]; exact laidL_bytes ha hc) h (by rw [← ELD.out]; have h1 := LPA.out; have h2 := LPC.out; have h3 := LDA.out; have h4 := LDC.out; simp only [List.length_append]; omega)⟩
  have KA : Kept _ := ⟨hva⟩
  have KC : Kept _ := ⟨hvc⟩
  obtain ⟨na, hna⟩ : ∃ n, n = a.length := ⟨_, rfl⟩
  obtain ⟨nc, hnc⟩ : ∃ n, n = c.length := ⟨_, rfl⟩
  obtain ⟨pa, ca, rfl⟩ := slice_form hva hna.symm
  obtain ⟨pc, cc, rfl⟩ := slice_form hvc hnc.symm
  have CFA : Kept (∀ w', Below w.heap.size w w' → Calls Try.prog 28 #[.slice pa na ca] w' fun e w2 => ∃ v, e = .returned v ∧ Row w'.heap.size 5 .u8 PA v w2 ∧ Below w'.heap.size w' w2) := ⟨fun w' hb => by rw [hPA]; exact rfilledD a _ w' (KA.out.under hb) (by omega)⟩
  have CFC : Kept (∀ w', Below w.heap.size w w' → Calls Try.prog 28 #[.slice pc nc cc] w' fun e w2 => ∃ v, e = .returned v ∧ Row w'.heap.size 5 .u8 PC v w2 ∧ Below w'.heap.size w' w2) := ⟨fun w' hb => by rw [hPC]; exact rfilledD c _ w' (KC.out.under hb) (by omega)⟩
  have CLA : Kept (∀ w', Calls Try.prog 27 #[.int .u64 (na : Int)] w' fun e w2 => ∃ v, e = .returned v ∧ Row w'.heap.size 5 .u8 DA v w2 ∧ Below w'.heap.size w' w2) := ⟨fun w' => by rw [hDA, ← hna]; exact rlowD na w' (by omega)⟩
  have CLC : Kept (∀ w', Calls Try.prog 27 #[.int .u64 (nc : Int)] w' fun e w2 => ∃ v, e = .returned v ∧ Row w'.heap.size 5 .u8 DC v w2 ∧ Below w'.heap.size w' w2) := ⟨fun w' => by rw [hDC, ← hnc]; exact rlowD nc w' (by omega)⟩
  have na62 : na < 4611686018427387904 := by omega
  have nc62 : nc < 4611686018427387904 := by omega
  rw [← hT]
  obtain ⟨Z32, hZ32⟩ : ∃ Z, Z = List.replicate 32 0 := ⟨_, rfl⟩
  have LZ : Kept (Z32.length = 32) := ⟨by rw [hZ32]; rfl⟩
  have HLZ : Kept (KL.length = Z32.length) := ⟨by rw [LK.out, LZ.out]⟩
  have EI : Kept ((#[.int .u8 0, .int .u8 0, .int .u8 0, .int .u8 0, .int .u8 0, .int .u8 0, .int .u8 0, .int .u8 0, .int .u8 0, .int .u8 0, .int .u8 0, .int .u8 0, .int .u8 0, .int .u8 0, .int .u8 0, .int .u8 0, .int .u8 0, .int .u8 0, .int .u8 0, .int .u8 0, .int .u8 0, .int .u8 0, .int .u8 0, .int .u8 0, .int .u8 0, .int .u8 0, .int .u8 0, .int .u8 0, .int .u8 0, .int .u8 0, .int .u8 0, .int .u8 0] : Array Value) = ints .u8 Z32) := ⟨by rw [hZ32]; exact z32b_eq⟩
  have A0 : Blk (w.alloc (.cells (ints .u8 key) 22)) w.heap.size 22 (ints .u8 key) := blk_new _ _ _
  have Q0 : Below w.heap.size w (w.alloc (.cells (ints .u8 key) 22)) := (Below.refl _ _).alloc (Nat.le_refl _) _
  clear hk hy hn hNN hBK hKL hLD hT hDA hDC hPA hPC ET YK ha hc la lc hna hnc hZ32 KA KC hva hvc
  go_enter Try.func18, Try.ntmps18
  go_wp2_with fail
  generalize hW : w.alloc (.cells (ints .u8 key) 22) = w0 at *
  have sz0 : w0.heap.size = w.heap.size + 1 := by rw [← hW]; simp
  clear hW
  refine region_ownL w0 5 [(14, .agg (ints .u8 key)), (15, .int .u64 (n : Int)), (16, .agg (ints .u8 NN)), (17, .agg (ints .u8 BK))] [(9, PtrSz 50 64)] [9] [] rfl (by kernel_rfl) (by kernel_rfl) (by kernel_rfl) (by kernel_rfl) (by kernel_rfl) (by kernel_rfl) (by kernel_rfl) (by kernel_rfl) (by kernel_rfl) (by kernel_rfl) (by kernel_rfl) ?hst1 ?hst2 (Below.refl _ _) (fun hA => ⟨ow_row hA (wants_none rfl) 14 (.agg (ints .u8 key)) (by kernel_rfl) rfl rfl rfl rfl (by kernel_rfl) 22 (.tmp 4) rfl (w.heap.size) (by kernel_rfl) 22 (ints .u8 key) 32 5 Try.underlying22 ((by rw [ints_size, LKY.out]; exact t32_info)) (fun w1 hb => A0.under hb) rfl, ow_val hA (wants_none rfl) 15 (.int .u64 (n : Int)) (by kernel_rfl) rfl rfl rfl rfl (by kernel_rfl) (fun w => by kernel_rfl), ow_calld hA (wants_none rfl) 16 (.agg (ints .u8 NN)) (by kernel_rfl) rfl rfl rfl rfl (by kernel_rfl) 17 Try.f17 _ [.tmp 15] _ [.int .u64 (n : Int)] rfl (by kernel_rfl) Try.func17 (by kernel_rfl) rfl (CNO.out), ow_calld hA (wants_none rfl) 17 (.agg (ints .u8 BK)) (by kernel_rfl) rfl rfl rfl rfl (by kernel_rfl) 26 Try.f26 _ [.tmp 14, .tmp 16, .const (.int .u32 0)] _ [.agg (ints .u8 key), .agg (ints .u8 NN), .int .u32 0] rfl (by kernel_rfl) Try.func26 (by kernel_rfl) rfl (CBK.out), ow_new (wants_none rfl) 9 rfl (PtrSz 50 64) rfl (fun a w _ => ⟨_, _, alloc_64 rfl w, ⟨w.heap.size, _, rfl, rfl, heap_new w _⟩, (Below.refl _ _).alloc (Nat.le_refl _) _, fun b hb => by cases hb; exact ⟨Nat.le_refl _, by simp⟩⟩), trivial⟩) ?_
  case hst1 =>
    intro q hq hO
    simp only [List.mem_cons, List.not_mem_nil, or_false] at hq
    subst hq
    cases hO
  case hst2 =>
    intro q hq hO v w3 w4 row h1 h2 h3 h4
    simp only [List.mem_cons, List.not_mem_nil, or_false] at hq
    subst hq
    exact PtrSz.keeps h1 h2 h3
  intro fv w1 hf hD hb1
  have h9 := hf 9 _ rfl rfl
  simp only [putR, List.foldl_cons, List.foldl_nil, List.map_cons, List.map_nil, Act.put, List.setIfInBounds_toArray, List.set_cons_succ, List.set_cons_zero]
  obtain ⟨⟨g9, C9, e9, hC9, hB9⟩, h9r⟩ := h9
  rw [e9]
  have hg9 : w0.heap.size ≤ g9 ∧ g9 < w1.heap.size := h9r rfl g9 (by rw [e9]; rfl)
  have B0 := A0.under hb1
  have Q1 := Q0.trans (hb1.mono Q0.size)
  have L9 : Kept _ := ⟨hC9⟩
  clear hf hD A0 Q0 hb1 CNO CBK h9r e9 hC9
  refine wl_store rfl 50 (.tmp 9) (.tmp 17) rfl g9 (ints .u8 BK) (by kernel_rfl) (by kernel_rfl) _ hB9 (by rw [ints_size, LB.out]; exact i64_inf2) (by rw [ints_size, L9.out, LB.out]) (ints_one _ _) ?_
  intro w2 A9 P2
  have Q2 := Q1.trans (P2.below (by omega))
  have hl2 : g9 < w2.heap.size := A9.lt
  clear B0 Q1 P2 hB9 L9
  go_wp2_with fail
  have A9' := A9.alloc (.cells #[.int .u8 0, .int .u8 0, .int .u8 0, .int .u8 0, .int .u8 0, .int .u8 0, .int .u8 0, .int .u8 0, .int .u8 0, .int .u8 0, .int .u8 0, .int .u8 0, .int .u8 0, .int .u8 0, .int .u8 0, .int .u8 0, .int .u8 0, .int .u8 0, .int .u8 0, .int .u8 0, .int .u8 0, .int .u8 0, .int .u8 0, .int .u8 0, .int .u8 0, .int .u8 0, .int .u8 0, .int .u8 0, .int .u8 0, .int .u8 0, .int .u8 0, .int .u8 0] 22)
  have A10 : Blk (w2.alloc (.cells #[.int .u8 0, .int .u8 0, .int .u8 0, .int .u8 0, .int .u8 0, .int .u8 0, .int .u8 0, .int .u8 0, .int .u8 0, .int .u8 0, .int .u8 0, .int .u8 0, .int .u8 0, .int .u8 0, .int .u8 0, .int .u8 0, .int .u8 0, .int .u8 0, .int .u8 0, .int .u8 0, .int .u8 0, .int .u8 0, .int .u8 0, .int .u8 0, .int .u8 0, .int .u8 0, .int .u8 0, .int .u8 0, .int .u8 0, .int .u8 0, .int .u8 0, .int .u8 0] 22)) w2.heap.size 22 (ints .u8 (mix KL Z32 0)) := by rw [mix_zero, ← EI.out]; exact blk_new w2 _ _
  have Q3 := Q2.alloc Q2.size (.cells #[.int .u8 0, .int .u8 0, .int .u8 0, .int .u8 0, .int .u8 0, .int .u8 0, .int .u8 0, .int .u8 0, .int .u8 0, .int .u8 0, .int .u8 0, .int .u8 0, .int .u8 0, .int .u8 0, .int .u8 0, .int .u8 0, .int .u8 0, .int .u8 0, .int .u8 0, .int .u8 0, .int .u8 0, .int .u8 0, .int .u8 0, .int .u8 0, .int .u8 0, .int .u8 0, .int .u8 0, .int .u8 0, .int .u8 0, .int .u8 0, .int .u8 0, .int .u8 0] 22)
  have szw : w.heap.size ≤ w2.heap.size := Q2.size
  generalize hW : w2.alloc (.cells #[.int .u8 0, .int .u8 0, .int .u8 0, .int .u8 0, .int .u8 0, .int .u8 0, .int .u8 0, .int .u8 0, .int .u8 0, .int .u8 0, .int .u8 0, .int .u8 0, .int .u8 0, .int .u8 0, .int .u8 0, .int .u8 0, .int .u8 0, .int .u8 0, .int .u8 0, .int .u8 0, .int .u8 0, .int .u8 0, .int .u8 0, .int .u8 0, .int .u8 0, .int .u8 0, .int .u8 0, .int .u8 0, .int .u8 0, .int .u8 0, .int .u8 0, .int .u8 0] 22) = w3 at *
  generalize hg10 : w2.heap.size = g10 at *
  clear hW hg10 Q2 A9 EI
  go_loopg [11] 32 (fun k s11 wr => ∃ i : Nat, i + k = 32 ∧ s11 = .int .i64 (i : Int) ∧ Below w.heap.size w wr ∧ Blk wr g9 50 (ints .u8 BK) ∧ Blk wr g10 22 (ints .u8 (mix KL Z32 i)))
  case atStart => exact ⟨0, by omega, rfl, Q3, A9', A10⟩
  case round =>
    clear Q3 A9' A10
    obtain ⟨i, hik, rfl, HB, D9, D10⟩ := hrel
    by_cases hi : i < 32
    case pos =>
      have hi' : (i : Int) < 32 := by omega
      have hi64 : i < 64 := by omega
      obtain ⟨z, hz⟩ : ∃ z, KL[i]? = some z := ⟨_, List.getElem?_eq_getElem (by rw [LK.out]; exact hi)⟩
      have gz : Kept _ := ⟨hz⟩
      have gb : Kept ((ints .u8 BK)[i]? = some (.int .u8 (z : Int))) := ⟨ints_get (GK.out i z hz)⟩
      have l2 : i < (ints .u8 (mix KL Z32 i)).size := by rw [ints_size, mix_len KL _ i HLZ.out, LZ.out]; exact hi
      clear hz
      go_wp2_with (first | ((with_reducible refine wv_val (d := 24) ?hd ?hw (.pointer (some ⟨g9, i, none⟩)) ?hr ?_); (case hd => rfl); (case hw => kernel_rfl); (case hr => intro w; exact run_idx rfl (by kernel_rfl) (by kernel_rfl) Try.underlying50 hi64 sz_u8 w); simp only [Act.put, List.setIfInBounds_toArray, List.set_cons_succ, List.set_cons_zero]) | ((with_reducible refine wv_elem (d := 25) ?hd ?hw 5 ag_u8 (.tmp 24) ?ho (⟨g9, i, none⟩) ?hx (.int .u8 (z : Int)) ?hc ?_); (case hd => rfl); (case hw => kernel_rfl); (case ho => rfl); (case hx => kernel_rfl); (case hc => exact D9.cell gb.out); simp only [Act.put, List.setIfInBounds_toArray, List.set_cons_succ, List.set_cons_zero]) | ((with_reducible refine wv_val (d := 26) ?hd ?hw (.pointer (some ⟨g10, i, none⟩)) ?hr ?_); (case hd => rfl); (case hw => kernel_rfl); (case hr => intro w; exact run_idx rfl (by kernel_rfl) (by kernel_rfl) Try.underlying22 hi sz_u8 w); simp only [Act.put, List.setIfInBounds_toArray, List.set_cons_succ, List.set_cons_zero]) | (refine wl_setElem rfl 5 sz_u8 (.tmp 26) (.tmp 25) rfl g10 i .u8 (z : Int) rfl rfl _ D10 l2 ?_))
      intro w4 E10 P4
      rw [ints_set, mix_set KL _ i z HLZ.out gz.out] at E10
      have E9 := P4.blk D9 (by omega)
      have HB4 := HB.trans (P4.below (by omega))
      clear D9 D10 HB P4 gz gb l2
      go_wp2_with fail
      go_roundg (gk - 1)
      case measure => omega
      case rel => exact ⟨i + 1, by omega, by simp, HB4, E9, E10⟩
    case neg =>
      have hi' : ¬ (i : Int) < 32 := by omega
      obtain rfl : i = 32 := by omega
      have e : mix KL Z32 32 = KL := by rw [← LZ.out]; exact mix_all KL Z32 HLZ.out
      rw [e] at D10
      have C1 := CFA.out wr HB
      clear e D9 CFA
      go_wp2_with fail
      refine C1.mono ?_
      rintro e w4 ⟨v4, rfl, r4, hb4⟩
      have R4 : Kept _ := ⟨r4⟩
      have C2 := CFC.out w4 (HB.trans (hb4.mono HB.size))
      clear C1 r4 CFC
      go_wp2_with fail
      refine C2.mono ?_
      rintro e w5 ⟨v5, rfl, r5, hb5⟩
      have Q5 := hb4.trans (hb5.mono hb4.size)
      have R5 : Kept _ := ⟨R4.out.under hb5⟩
      have V5 : Kept _ := ⟨row_bytes r5⟩
      have SN : Kept (PA.length + PC.length ≤ 8796093022208) := ⟨by have h1 := LPA.out; have h2 := LPC.out; omega⟩
      have SB := Q5.size
      clear C2 hb4 R4 hb5 r5
      go_wp2_with (first | (refine wl_app (by kernel_rfl) (.tmp 28) (.tmp 30) 24 5 .u8 1 rfl Try.underlying24 inf_u8 (by decide) wr.heap.size PA PC _ _ rfl rfl R5.out V5.out SN.out SB ?_))
      intro v6 w6 r6 g6 _
      have Q6 := app_below Q5 SB R5.out g6
      have R6 : Kept _ := ⟨r6⟩
      clear Q5 R5 V5 SN SB r6 g6
      go_wp2_with (first | ((with_reducible refine wv_val (d := 35) ?hd ?hw (.int .u64 (na : Int)) ?hr ?_); (case hd => rfl); (case hw => kernel_rfl); (case hr => intro w; exact run_c364 rfl (by kernel_rfl) na62 w); simp only [Act.put, List.setIfInBounds_toArray, List.set_cons_succ, List.set_cons_zero]))
      refine (CLA.out w6).mono ?_
      rintro e w7 ⟨v7, rfl, r7, hb7⟩
      have Q7 := Q6.trans (hb7.mono Q6.size)
      have R7 : Kept _ := ⟨R6.out.under hb7⟩
      have V7 : Kept _ := ⟨row_bytes r7⟩
      have SN : Kept ((PA ++ PC).length + DA.length ≤ 8796093022208) := ⟨by have h1 := LPA.out; have h2 := LPC.out; have h3 := LDA.out; rw [List.length_append]; omega⟩
      have SB := Q7.size
      clear Q6 R6 hb7 r7 CLA
      go_wp2_with (first | (refine wl_app (by kernel_rfl) (.tmp 32) (.tmp 36) 24 5 .u8 1 rfl Try.underlying24 inf_u8 (by decide) wr.heap.size (PA ++ PC) DA _ _ rfl rfl R7.out V7.out SN.out SB ?_))
      intro v8 w8 r8 g8 _
      have Q8 := app_below Q7 SB R7.out g8
      have R8 : Kept (Row wr.heap.size 5 .u8 (PA ++ PC ++ DA) v8 w8) := ⟨by first | exact r8 | (rw [List.append_assoc]; exact r8)⟩
      clear Q7 R7 V7 SN SB r8 g8
      go_wp2_with (first | ((with_reducible refine wv_val (d := 41) ?hd ?hw (.int .u64 (nc : Int)) ?hr ?_); (case hd => rfl); (case hw => kernel_rfl); (case hr => intro w; exact run_c364 rfl (by kernel_rfl) nc62 w); simp only [Act.put, List.setIfInBounds_toArray, List.set_cons_succ, List.set_cons_zero]))
      refine (CLC.out w8).mono ?_
      rintro e w9 ⟨v9, rfl, r9, hb9⟩
      have Q9 := Q8.trans (hb9.mono Q8.size)
      have R9 : Kept _ := ⟨R8.out.under hb9⟩
      have V9 : Kept _ := ⟨row_bytes r9⟩
      have SN : Kept ((PA ++ PC ++ DA).length + DC.length ≤ 8796093022208) := ⟨by have h1 := LPA.out; have h2 := LPC.out; have h3 := LDA.out; have h4 := LDC.out; simp only [List.length_append]; omega⟩
      have SB := Q9.size
      clear Q8 R8 hb9 r9 CLC
      go_wp2_with (first | (refine wl_app (by kernel_rfl) (.tmp 38) (.tmp 42) 24 5 .u8 1 rfl Try.underlying24 inf_u8 (by decide) wr.heap.size (PA ++ PC ++ DA) DC _ _ rfl rfl R9.out V9.out SN.out SB ?_))
      intro va wa ra ga _
      have QA := app_below Q9 SB R9.out ga
      have VA : Kept (BytesV va wa LD) := ⟨by rw [← ELD.out]; first | exact row_bytes ra | (have h := row_bytes ra; simp only [List.append_assoc] at h ⊢; exact h)⟩
      have F10 := D10.under QA
      have C3 := CT.out va wa VA.out
      have QB := HB.trans (QA.mono HB.size)
      clear Q9 R9 V9 SN SB ra ga D10 QA HB
      go_wp2_with (first | ((with_reducible refine wv_row (d := 44) ?hd ?hw 22 (.tmp 10) ?ho (g10) ?hx (t' := 22) (ints .u8 KL) _ _ Try.underlying22 ?hs ?hg ?_); (case hd => rfl); (case hw => kernel_rfl); (case ho => rfl); (case hx => kernel_rfl); (case hs => rw [ints_size, LK.out]; exact t32_info); (case hg => exact F10); simp only [Act.put, List.setIfInBounds_toArray, List.set_cons_succ, List.set_cons_zero]))
      refine C3.mono ?_
      rintro e wb ⟨rfl, hbb⟩
      have QC := QB.trans (hbb.mono QB.size)
      clear QB hbb C3 VA F10
      go_wp2_with (first | (refine wl_store rfl 43 (.tmp 13) (.tmp 46) rfl wb.heap.size (ints .u8 T) rfl rfl _ (blk_new wb _ _) (by rw [ints_size, LT.out]; exact a16_info) (by rw [ints_size, LT.out]; rfl) (ints_one _ _) ?_))
      intro wc A13 PD
      have QD := (QC.alloc QC.size _).trans (PD.below QC.size)
      have V13 : Kept (BytesV (.slice (some ⟨wb.heap.size, 0, none⟩) 16 16) wc T) := ⟨arr_bytes A13 LT.out⟩
      generalize hg13 : wb.heap.size = g13 at *
      clear PD QC A13 hg13
      have RE : Kept (Row wc.heap.size 5 .u8 [] (.slice (some ⟨wc.heap.size, 0, none⟩) 0 0) (wc.alloc (.cells #[] 5))) := ⟨row_emp8 wc (Nat.le_refl _)⟩
      have QE : Below wc.heap.size wc (wc.alloc (.cells #[] 5)) := (Below.refl _ _).alloc (Nat.le_refl _) _
      have VE : Kept _ := ⟨V13.out.under QE⟩
      have SN : Kept (([] : List Nat).length + T.length ≤ 8796093022208) := ⟨by rw [LT.out]; decide⟩
      have SB := QE.size
      clear V13
      go_wp2_with (first | ((with_reducible refine wv_val (d := 48) ?hd ?hw (.slice (some ⟨g13, 0, none⟩) 16 16) ?hr ?_); (case hd => rfl); (case hw => kernel_rfl); (case hr => intro w; exact arr_all_run rfl (by kernel_rfl) Try.underlying43 sz_u8 (by decide) w); simp only [Act.put, List.setIfInBounds_toArray, List.set_cons_succ, List.set_cons_zero]) | (refine wl_app (by kernel_rfl) (.tmp 47) (.tmp 48) 24 5 .u8 1 rfl Try.underlying24 inf_u8 (by decide) wc.heap.size [] T _ _ rfl rfl RE.out VE.out SN.out SB ?_))
      intro vd wd rd gd _
      have QF := app_below QE SB RE.out gd
      have QG := QD.trans (QF.mono QD.size)
      have VZ : Kept (BytesV vd wd T) := ⟨row_bytes rd⟩
      clear RE QE VE SN SB rd gd QF QD
      go_wp2_with fail
      go_ret
      exact ⟨_, rfl, VZ.out, QG⟩
end Go.Proofs.Ytpamcmhfimnfbaa.sh
