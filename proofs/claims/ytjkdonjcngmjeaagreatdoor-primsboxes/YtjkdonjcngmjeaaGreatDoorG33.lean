/-
  General pieces, joined: ZB.
-/
import Derived.Test.YtjkdonjcngmjeaaGreatDoorG32
/-
  What is tagged, and the tag: package aead.
-/
namespace Go.Proofs.YtjkdonjcngmjeaaGreatDoor.sh
open Go Go.RowKit
set_option linter.unusedVariables false
set_option linter.unusedSimpArgs false

/-- What the tag is made of. -/
def laidL (a c : List Nat) : List Nat := padF a ++ padF c ++ digs a.length 8 ++ digs c.length 8
theorem laidL_bytes {a c : List Nat} (ha : Bytes a) (hc : Bytes c) : Bytes (laidL a c) := (((padF_bytes ha).append (padF_bytes hc)).append (digs_bytes _ _)).append (digs_bytes _ _)
def lensL (a c : List Nat) : Nat → List Nat
  | 0 => []
  | i + 1 => lensL a c i ++ digs (if i = 0 then a.length else c.length) 8
theorem run_buildP {o : Oper} {a : Act} {x y : Operand} {p q : Option Addr} {l c m d : Nat} (ho : o.op = .build 152 #[(0, x), (1, y)]) (hx : a.eval x = .slice p l c) (hy : a.eval y = .slice q m d) (w : World) : (execOp a.eval o).run Tryz.prog w = .ok (.value (.agg #[.slice p l c, .slice q m d])) w := by
  have hb : (Instr.build 152 #[(0, .slice p l c), (1, .slice q m d)]).run Tryz.prog w = .ok (.agg #[.slice p l c, .slice q m d]) w := by kernel_rfl
  unfold execOp
  simp only [ho, List.map_toArray, List.map_cons, List.map_nil, hx, hy]
  simp [hb]
theorem run_idxP {o : Oper} {a : Act} {x y : Operand} {vs : Array Value} {i : Nat} {u : Value} (ho : o.op = .index 152 x y) (hx : a.eval x = .agg vs) (hy : a.eval y = .int .i64 (i : Int)) (hi : i < 2) (hu : vs[i]? = some u) (w : World) : (execOp a.eval o).run Tryz.prog w = .ok (.value u) w := by
  have h1 : ((i : Int) < 2) := by omega
  unfold execOp
  simp only [ho, hx, hy]
  simp [asIntOf, run_underlying Tryz.underlying152, h1, sz_bytes, ag_bytes, go_sem, Instr.index, hi, hu]

set_option maxRecDepth 100000 in
set_option maxHeartbeats 1000000 in
theorem laidD (a c : List Nat) (va vc : Value) (w : World) (hva : BytesV va w a) (hvc : BytesV vc w c) (la : a.length ≤ 100000) (lc : c.length ≤ 100000) :
    Calls Tryz.prog 63 #[va, vc] w fun e w' => ∃ v, e = .returned v ∧ BytesV v w' (laidL a c) ∧ Below w.heap.size w w' := by
  have KA : Kept _ := ⟨hva⟩
  have KC : Kept _ := ⟨hvc⟩
  obtain ⟨pa, ca, rfl, _, _⟩ := hva
  obtain ⟨pc, cc, rfl, _, _⟩ := hvc
  obtain ⟨na, hna⟩ : ∃ n, n = a.length := ⟨_, rfl⟩
  obtain ⟨nc, hnc⟩ : ∃ n, n = c.length := ⟨_, rfl⟩
  have ENA : Kept _ := ⟨hna⟩
  have ENC : Kept _ := ⟨hnc⟩
  rw [← hna] at KA la ⊢
  rw [← hnc] at KC lc ⊢
  obtain ⟨FA, hFA⟩ : ∃ n, n = (na + 15) / 16 * 16 := ⟨_, rfl⟩
  obtain ⟨FC, hFC⟩ : ∃ n, n = (nc + 15) / 16 * 16 := ⟨_, rfl⟩
  obtain ⟨s1, hs1⟩ : ∃ n, n = FA + FC := ⟨_, rfl⟩
  obtain ⟨s2, hs2⟩ : ∃ n, n = s1 + 16 := ⟨_, rfl⟩
  have CA : Kept (Calls Tryz.prog 95 #[.int .i64 (na : Int)] w fun e w' => e = .returned (.int .i64 (FA : Int)) ∧ w' = w) := ⟨filledSizeD na FA w (by omega) hFA⟩
  have CC : Kept (Calls Tryz.prog 95 #[.int .i64 (nc : Int)] w fun e w' => e = .returned (.int .i64 (FC : Int)) ∧ w' = w) := ⟨filledSizeD nc FC w (by omega) hFC⟩
  have E1 : Kept _ := ⟨hs1⟩
  have E2 : Kept _ := ⟨hs2⟩
  have hs1b : s1 < 4611686018427387904 := by omega
  have hs2b : s2 < 4611686018427387904 := by omega
  have hs2m : s2 < 1000000 := by omega
  obtain ⟨H, hH⟩ : ∃ l, l = padF a ++ padF c := ⟨_, rfl⟩
  have EH : Kept _ := ⟨hH⟩
  have LH : Kept (H.length ≤ 300000) := ⟨by rw [hH, List.length_append, padF_len, padF_len, ← hna, ← hnc]; omega⟩
  have CFI : Kept (∀ (l : List Nat) (v : Value) (w' : World), Row w.heap.size 5 .u8 l v w' → l.length < 900000 → w.heap.size ≤ w'.heap.size → Calls Tryz.prog 96 #[v] w' fun e w2 => ∃ v', e = .returned v' ∧ Row w.heap.size 5 .u8 (padF l) v' w2 ∧ w'.grownBy w2 (blkOf v)) := ⟨fun l v w' h1 h2 h3 => filledD _ l v w' h1 h2 h3⟩
  clear hna hnc hFA hFC hs1 hs2 hH
  go_enter Tryz.func63, Tryz.ntmps63
  go_wp2_with fail
  refine CA.out.mono ?_
  rintro e w' ⟨rfl, hw'⟩
  obtain rfl := hw'.symm
  go_wp2_with fail
  refine CC.out.mono ?_
  rintro e w' ⟨rfl, hw'⟩
  obtain rfl := hw'.symm
  go_wp2_with (first | ((with_reducible refine wv_val (d := 15) ?hd ?hw (.int .i64 (s1 : Int)) ?hr ?_); (case hd => rfl); (case hw => kernel_rfl); (case hr => intro w; exact run_addN rfl (by kernel_rfl) (by kernel_rfl) E1.out hs1b w); simp only [Act.put, List.setIfInBounds_toArray, List.set_cons_succ, List.set_cons_zero]) | ((with_reducible refine wv_val (d := 16) ?hd ?hw (.int .i64 (s2 : Int)) ?hr ?_); (case hd => rfl); (case hw => kernel_rfl); (case hr => intro w; exact run_addZ 16 rfl (by kernel_rfl) E2.out hs2b w); simp only [Act.put, List.setIfInBounds_toArray, List.set_cons_succ, List.set_cons_zero]) | (refine wl_make0 rfl (.tmp 16) rfl s2 rfl hs2m ?_))
  intro v0 w0 r0 Q0
  have R0 : Kept _ := ⟨r0⟩
  clear r0 CA CC E1 E2
  have SN : Kept (([] : List Nat).length + a.length ≤ 8796093022208) := ⟨by rw [← ENA.out]; simp; omega⟩
  have VA0 : Kept _ := ⟨KA.out.under Q0⟩
  have B0 : w.heap.size ≤ w0.heap.size := Q0.size
  go_wp2_with (first | (refine wl_app (by kernel_rfl) (.tmp 18) (.tmp 19) 34 5 .u8 1 rfl Tryz.underlying34 inf_u8 (by decide) w.heap.size [] a _ _ rfl rfl R0.out VA0.out SN.out B0 ?_))
  intro v1 w1 r1 g1 _
  have Q1 := app_below Q0 B0 R0.out g1
  have r1 : Row w.heap.size 5 .u8 a v1 w1 := r1
  have C1 := CFI.out a v1 w1 r1 (by rw [← ENA.out]; omega) Q1.size
  have R1 : Kept _ := ⟨r1⟩
  clear R0 Q0 g1 SN VA0 B0 r1
  go_wp2_with fail
  refine C1.mono ?_
  rintro e w2 ⟨v2, rfl, r2, g2⟩
  have Q2 := app_below Q1 Q1.size R1.out g2
  have R2 : Kept _ := ⟨r2⟩
  clear C1 Q1 R1 g2 r2
  have SN : Kept ((padF a).length + c.length ≤ 8796093022208) := ⟨by rw [padF_len, ← ENA.out, ← ENC.out]; omega⟩
  have VC0 : Kept _ := ⟨KC.out.under Q2⟩
  have B2 := Q2.size
  go_wp2_with (first | (refine wl_app (by kernel_rfl) (.tmp 22) (.tmp 23) 34 5 .u8 1 rfl Tryz.underlying34 inf_u8 (by decide) w.heap.size (padF a) c _ _ rfl rfl R2.out VC0.out SN.out B2 ?_))
  intro v3 w3 r3 g3 _
  have Q3 := app_below Q2 B2 R2.out g3
  have C3 := CFI.out (padF a ++ c) v3 w3 r3 (by rw [List.length_append, padF_len, ← ENA.out, ← ENC.out]; omega) Q3.size
  rw [padF_behind _ _ (by rw [padF_len]; omega), ← EH.out] at C3
  have R3 : Kept _ := ⟨r3⟩
  clear R2 Q2 g3 SN VC0 B2 r3 CFI
  go_wp2_with fail
  refine C3.mono ?_
  rintro e w4 ⟨v4, rfl, r4, g4⟩
  have Q4 := app_below Q3 Q3.size R3.out g4
  have R4 : Kept (Row w.heap.size 5 .u8 (H ++ lensL a c 0) v4 w4) := ⟨by rw [show lensL a c 0 = [] from rfl, List.append_nil]; exact r4⟩
  clear C3 Q3 R3 g4 r4
  obtain ⟨vs, hvs⟩ : ∃ vs : Array Value, vs = #[.slice pa na ca, .slice pc nc cc] := ⟨_, rfl⟩
  have EV : Kept _ := ⟨hvs⟩
  have HB : Kept (∀ {o : Oper} {a : Act} {x y : Operand}, o.op = .build 152 #[(0, x), (1, y)] → a.eval x = .slice pa na ca → a.eval y = .slice pc nc cc → ∀ w, (execOp a.eval o).run Tryz.prog w = .ok (.value (.agg vs)) w) := ⟨fun ho hx hy w => by rw [hvs]; exact run_buildP ho hx hy w⟩
  clear hvs
  go_wp2_with (first | ((with_reducible refine wv_val (d := 28) ?hd ?hw (.agg vs) ?hr ?_); (case hd => rfl); (case hw => kernel_rfl); (case hr => intro w; exact HB.out rfl (by kernel_rfl) (by kernel_rfl) w); simp only [Act.put, List.setIfInBounds_toArray, List.set_cons_succ, List.set_cons_zero]))
  go_loopg [5, 29] 2 (fun k s5 s29 wr => ∃ i : Nat, i + k = 2 ∧ s29 = .int .i64 (i : Int) ∧ Below w.heap.size w wr ∧ Kept (Row w.heap.size 5 .u8 (H ++ lensL a c i) s5 wr))
  case atStart => exact ⟨0, by omega, rfl, Q4, R4⟩
  case round =>
    obtain ⟨i, hik, rfl, HW, RR⟩ := hrel
    clear Q4 R4
    by_cases hi : i < 2
    case neg =>
      obtain rfl : i = 2 := by omega
      have RB : Kept (BytesV u5 wr (laidL a c)) := ⟨by
        have h := row_bytes RR.out
        rw [EH.out] at h
        have e : padF a ++ padF c ++ lensL a c 2 = laidL a c := by
          show padF a ++ padF c ++ ([] ++ digs a.length 8 ++ digs c.length 8) = _
          rw [List.nil_append, ← List.append_assoc]; rfl
        rw [e] at h
        exact h⟩
      go_wp2_with fail
      go_ret
      exact ⟨_, rfl, RB.out, HW⟩
    case pos =>
      have hi' : (i : Int) < 2 := by omega
      obtain ⟨px, nx, cx, hx, hnx, hnx2⟩ : ∃ (px : Option Addr) (nx cx : Nat), vs[i]? = some (.slice px nx cx) ∧ nx = (if i = 0 then a.length else c.length) ∧ nx ≤ 100000 := by
        rw [EV.out]
        by_cases h0 : i = 0
        · subst h0; exact ⟨pa, na, ca, rfl, by rw [if_pos rfl]; exact ENA.out, la⟩
        · obtain rfl : i = 1 := by omega
          exact ⟨pc, nc, cc, rfl, by rw [if_neg (by decide)]; exact ENC.out, lc⟩
      obtain ⟨D, hD⟩ : ∃ D, D = digs nx 8 := ⟨_, rfl⟩
      have LD : Kept (D.length = 8) := ⟨by rw [hD]; exact digs_len _ _⟩
      have ED : Kept (lensL a c (i + 1) = lensL a c i ++ D) := ⟨by show _ ++ digs (if i = 0 then a.length else c.length) 8 = _; rw [← hnx, ← hD]⟩
      have CB : Kept (∀ w', Calls Tryz.prog 58 #[.int .u64 (nx : Int)] w' fun e w2 => e = .returned (.agg (ints .u8 D)) ∧ Below w'.heap.size w' w2) := ⟨fun w' => by rw [hD]; exact bytesOfD nx w' (by omega)⟩
      have Ex : Kept _ := ⟨hx⟩
      have nx62 : nx < 4611686018427387904 := by omega
      have LL : Kept ((H ++ lensL a c i).length + D.length ≤ 8796093022208) := ⟨by
        have h1 := LH.out
        have h2 := LD.out
        have h3 : (lensL a c i).length ≤ 16 := by
          rcases (by omega : i = 0 ∨ i = 1) with rfl | rfl
          · exact Nat.zero_le _
          · show ([] ++ digs _ 8).length ≤ 16; rw [List.nil_append, digs_len]; decide
        rw [List.length_append]; omega⟩
      clear hx hnx hD
      go_wp2_with (first | ((with_reducible refine wv_val (d := 31) ?hd ?hw (.slice px nx cx) ?hr ?_); (case hd => rfl); (case hw => kernel_rfl); (case hr => intro w; exact run_idxP rfl (by kernel_rfl) (by kernel_rfl) hi Ex.out w); simp only [Act.put, List.setIfInBounds_toArray, List.set_cons_succ, List.set_cons_zero]) | ((with_reducible refine wv_val (d := 34) ?hd ?hw (.int .u64 (nx : Int)) ?hr ?_); (case hd => rfl); (case hw => kernel_rfl); (case hr => intro w; exact run_c364 rfl (by kernel_rfl) nx62 w); simp only [Act.put, List.setIfInBounds_toArray, List.set_cons_succ, List.set_cons_zero]))
      refine (CB.out _).mono ?_
      rintro e w5 ⟨rfl, hb5⟩
      have HW5 := HW.trans (hb5.mono HW.size)
      have R5 : Kept _ := ⟨RR.out.under hb5⟩
      clear RR HW hb5 CB
      go_wp2_with (first | (refine wl_store rfl 95 (.tmp 8) (.tmp 35) rfl w5.heap.size (ints .u8 D) rfl rfl _ (blk_new w5 _ _) (by rw [ints_size, LD.out]; exact a8_info) (by rw [ints_size, LD.out]; rfl) (ints_one _ _) ?_))
      intro w6 A8 P6
      have HQ : Below w5.heap.size w5 w6 := ((Below.refl _ _).alloc (Nat.le_refl _) _).trans (P6.below (Nat.le_refl _))
      have HW6 := HW5.trans (HQ.mono HW5.size)
      have R6 : Kept _ := ⟨R5.out.under HQ⟩
      have V8 : Kept (BytesV (.slice (some ⟨w5.heap.size, 0, none⟩) 8 8) w6 D) := ⟨arr_bytes A8 LD.out⟩
      have B6 := HW6.size
      generalize hg8 : w5.heap.size = g8 at *
      clear R5 HW5 HQ P6 A8 hg8
      go_wp2_with (first | ((with_reducible refine wv_val (d := 37) ?hd ?hw (.slice (some ⟨g8, 0, none⟩) 8 8) ?hr ?_); (case hd => rfl); (case hw => kernel_rfl); (case hr => intro w; exact arr_all_run rfl (by kernel_rfl) Tryz.underlying95 sz_u8 (by decide) w); simp only [Act.put, List.setIfInBounds_toArray, List.set_cons_succ, List.set_cons_zero]) | (refine wl_app (by kernel_rfl) (.tmp 36) (.tmp 37) 34 5 .u8 1 rfl Tryz.underlying34 inf_u8 (by decide) w.heap.size (H ++ lensL a c i) D _ _ rfl rfl R6.out V8.out LL.out B6 ?_))
      intro v7 w7 r7 g7 _
      have HW7 := app_below HW6 B6 R6.out g7
      have R7 : Kept (Row w.heap.size 5 .u8 (H ++ lensL a c (i + 1)) v7 w7) := ⟨by rw [ED.out]; first | exact r7 | (rw [← List.append_assoc]; exact r7)⟩
      clear R6 HW6 r7 g7 V8 B6 LL ED
      go_wp2_with fail
      go_roundg (gk - 1)
      case measure => omega
      case rel => exact ⟨i + 1, by omega, by simp, HW7, R7⟩

/-- The tag of what is bound and of what is sealed. -/
def markL (key : List Nat) (n : Nat) (a c : List Nat) : List Nat := tagL ((blockL key (nonceL n) 0).take 32) (laidL a c)
theorem markL_len (key : List Nat) (n : Nat) (a c : List Nat) : (markL key n a c).length = 16 := tagL_len _ _
theorem markL_bytes (key : List Nat) (n : Nat) (a c : List Nat) : Bytes (markL key n a c) := tagL_bytes _ _
theorem run_arrAtZ {o : Oper} {a : Act} {x : Operand} {p : Option Addr} {l c n : Nat} {t e : TypeId} (ho : o.op = .sliceToArrayPointer t x) (hx : a.eval x = .slice p l c) (ht : Tryz.prog.underlying t = some (.array n e)) (hl : n ≤ l) (w : World) : (execOp a.eval o).run Tryz.prog w = .ok (.value (.pointer p)) w := by
  have h : ¬ (l < n) := by omega
  unfold execOp
  simp only [ho, hx]
  simp [Instr.arrayAt, run_underlying ht, h]
  try omega

set_option maxRecDepth 100000 in
set_option maxHeartbeats 1000000 in
theorem markOfD (key : List Nat) (n : Nat) (a c : List Nat) (va vc : Value) (w : World) (hk : key.length = 32) (hy : Bytes key) (hva : BytesV va w a) (hvc : BytesV vc w c) (ha : Bytes a) (hc : Bytes c) (la : a.length ≤ 100000) (lc : c.length ≤ 100000) :
    Calls Tryz.prog 35 #[.agg (ints .u8 key), .agg (ints .u8 (nonceL n)), va, vc] w fun e w' => e = .returned (.agg (ints .u8 (markL key n a c))) ∧ Below w.heap.size w w' := by
  obtain ⟨NN, hNN⟩ : ∃ l, l = nonceL n := ⟨_, rfl⟩
  obtain ⟨BK, hBK⟩ : ∃ l, l = blockL key NN 0 := ⟨_, rfl⟩
  obtain ⟨KL, hKL⟩ : ∃ l, l = BK.take 32 := ⟨_, rfl⟩
  obtain ⟨LD, hLD⟩ : ∃ l, l = laidL a c := ⟨_, rfl⟩
  obtain ⟨T, hT⟩ : ∃ l, l = markL key n a c := ⟨_, rfl⟩
  have ET : T = tagL KL LD := by rw [hT, hKL, hBK, hNN, hLD]; rfl
  have LN : Kept (NN.length = 12) := ⟨by rw [hNN]; exact nonceL_len n⟩
  have LKY : Kept _ := ⟨hk⟩
  have LB : Kept (BK.length = 64) := ⟨by rw [hBK]; exact blockL_len _ _ _⟩
  have LK : Kept (KL.length = 32) := ⟨by rw [hKL, List.length_take, LB.out]; rfl⟩
  have LT : Kept (T.length = 16) := ⟨by rw [hT]; exact markL_len _ _ _ _⟩
  have YK : Bytes KL := by rw [hKL, hBK]; exact (blockL_bytes _ _ _).take 32
  have CBK : Kept (∀ w', Calls Tryz.prog 61 #[.agg (ints .u8 key), .agg (ints .u8 NN), .int .u32 0] w' fun e w2 => e = .returned (.agg (ints .u8 BK)) ∧ Below w'.heap.size w' w2) := ⟨fun w' => by
    rw [hBK]
    exact Block_any key NN 0 w' hk hy LN.out (by rw [hNN]; exact nonceL_bytes n) (by decide)⟩
  have PP : Kept (∀ (j : Nat) (v : Value), (ints .u8 KL)[j]? = some v → (ints .u8 BK)[0 + j]? = some v) := ⟨fun j v hj => by
    have e : ints .u8 BK = ints .u8 KL ++ ints .u8 (BK.drop 32) := by rw [hKL]; simp [ints, ← List.map_append, List.take_append_drop]
    rw [e]
    exact part_first _ _ j v hj⟩
  have CT : Kept (∀ (v : Value) (w' : World), BytesS LD v w' → Calls Tryz.prog 62 [.agg (ints .u8 KL), v].toArray w' fun e w2 => e = .returned (.agg (ints .u8 T)) ∧ Below w'.heap.size w' w2) := ⟨fun v w' h => by
    rw [ET]
    exact SumD KL LD v w' LK.out YK (by rw [hLD]; exact laidL_bytes ha hc) h⟩
  have KA : Kept _ := ⟨hva⟩
  have KC : Kept _ := ⟨hvc⟩
  have CLQ : Kept (∀ w', Below w.heap.size w w' → Calls Tryz.prog 63 #[va, vc] w' fun e w2 => ∃ v, e = .returned v ∧ BytesV v w2 LD ∧ Below w'.heap.size w' w2) := ⟨fun w' hb => by
    rw [hLD]
    exact laidD a c va vc w' (KA.out.under hb) (KC.out.under hb) la lc⟩
  obtain ⟨pa, ca, rfl, _, _⟩ := hva
  obtain ⟨pc, cc, rfl, _, _⟩ := hvc
  obtain ⟨na, hna⟩ : ∃ n, n = a.length := ⟨_, rfl⟩
  obtain ⟨nc, hnc⟩ : ∃ n, n = c.length := ⟨_, rfl⟩
  rw [← hna] at CLQ ⊢
  rw [← hnc] at CLQ ⊢
  rw [← hT, ← hNN]
  obtain ⟨Z0, hZ0⟩ : ∃ Z, Z = List.replicate 16 0 := ⟨_, rfl⟩
  have LZ : Kept (Z0.length = 16) := ⟨by rw [hZ0]; rfl⟩
  have EI : Kept ((#[.int .u8 0, .int .u8 0, .int .u8 0, .int .u8 0, .int .u8 0, .int .u8 0, .int .u8 0, .int .u8 0, .int .u8 0, .int .u8 0, .int .u8 0, .int .u8 0, .int .u8 0, .int .u8 0, .int .u8 0, .int .u8 0] : Array Value) = ints .u8 Z0) := ⟨by rw [hZ0]; exact z16b_eq⟩
  have A0 : Blk (((w.alloc (.cells (ints .u8 key) 30)).alloc (.cells (ints .u8 NN) 80)).alloc (.cells #[.int .u8 0, .int .u8 0, .int .u8 0, .int .u8 0, .int .u8 0, .int .u8 0, .int .u8 0, .int .u8 0, .int .u8 0, .int .u8 0, .int .u8 0, .int .u8 0, .int .u8 0, .int .u8 0, .int .u8 0, .int .u8 0] 83)) w.heap.size 30 (ints .u8 key) := ((blk_new w _ _).alloc _).alloc _
  have A1 : Blk (((w.alloc (.cells (ints .u8 key) 30)).alloc (.cells (ints .u8 NN) 80)).alloc (.cells #[.int .u8 0, .int .u8 0, .int .u8 0, .int .u8 0, .int .u8 0, .int .u8 0, .int .u8 0, .int .u8 0, .int .u8 0, .int .u8 0, .int .u8 0, .int .u8 0, .int .u8 0, .int .u8 0, .int .u8 0, .int .u8 0] 83)) (w.heap.size + 1) 80 (ints .u8 NN) := (blk_top _ _ _ _ (by simp)).alloc _
  have A2 : Blk (((w.alloc (.cells (ints .u8 key) 30)).alloc (.cells (ints .u8 NN) 80)).alloc (.cells #[.int .u8 0, .int .u8 0, .int .u8 0, .int .u8 0, .int .u8 0, .int .u8 0, .int .u8 0, .int .u8 0, .int .u8 0, .int .u8 0, .int .u8 0, .int .u8 0, .int .u8 0, .int .u8 0, .int .u8 0, .int .u8 0] 83)) (w.heap.size + 2) 83 (ints .u8 Z0) := by rw [← EI.out]; exact blk_top _ _ _ _ (by simp)
  have Q0 : Below w.heap.size w (((w.alloc (.cells (ints .u8 key) 30)).alloc (.cells (ints .u8 NN) 80)).alloc (.cells #[.int .u8 0, .int .u8 0, .int .u8 0, .int .u8 0, .int .u8 0, .int .u8 0, .int .u8 0, .int .u8 0, .int .u8 0, .int .u8 0, .int .u8 0, .int .u8 0, .int .u8 0, .int .u8 0, .int .u8 0, .int .u8 0] 83)) := (((Below.refl _ _).alloc (Nat.le_refl _) _).alloc (by simp) _).alloc (by simp; omega) _
  clear hk hy hNN hBK hKL hLD hT ET YK ha hc la lc hna hnc hZ0 EI KA KC
  go_enter Tryz.func35, Tryz.ntmps35
  go_wp2_with (first | ((with_reducible refine wv_row (d := 10) ?hd ?hw 30 (.tmp 4) ?ho (w.heap.size) ?hx (t' := 30) (ints .u8 key) _ _ Tryz.underlying30 ?hs ?hg ?_); (case hd => rfl); (case hw => kernel_rfl); (case ho => rfl); (case hx => kernel_rfl); (case hs => rw [ints_size, LKY.out]; exact t32_info); (case hg => exact A0); simp only [Act.put, List.setIfInBounds_toArray, List.set_cons_succ, List.set_cons_zero]) | ((with_reducible refine wv_row (d := 11) ?hd ?hw 80 (.tmp 5) ?ho (w.heap.size + 1) ?hx (t' := 80) (ints .u8 NN) _ _ Tryz.underlying80 ?hs ?hg ?_); (case hd => rfl); (case hw => kernel_rfl); (case ho => rfl); (case hx => kernel_rfl); (case hs => rw [ints_size, LN.out]; exact i12_info); (case hg => exact A1); simp only [Act.put, List.setIfInBounds_toArray, List.set_cons_succ, List.set_cons_zero]))
  refine (CBK.out _).mono ?_
  rintro e w1 ⟨rfl, hb1⟩
  have B2 := A2.under hb1
  have Q1 := Q0.trans (hb1.mono Q0.size)
  have hl1 : w.heap.size + 2 < w1.heap.size := B2.lt
  clear A0 A1 A2 Q0 hb1 CBK
  go_wp2_with (first | (refine wl_store rfl 75 (.tmp 9) (.tmp 12) rfl w1.heap.size (ints .u8 BK) rfl rfl _ (blk_new w1 _ _) (by rw [ints_size, LB.out]; exact i64_inf2) (by rw [ints_size, LB.out]; rfl) (ints_one _ _) ?_))
  intro w3 A9 P3
  have C2 := P3.blk (B2.alloc _) (by omega)
  have Q3 := (Q1.alloc Q1.size _).trans (P3.below (by omega))
  generalize hg9 : w1.heap.size = g9 at *
  clear B2 Q1 P3 hg9
  have CLD : Kept (∀ w', Below w3.heap.size w3 w' → Calls Tryz.prog 63 [.slice pa na ca, .slice pc nc cc].toArray w' fun e w2 => ∃ v, e = .returned v ∧ BytesV v w2 LD ∧ Below w'.heap.size w' w2) := ⟨fun w' hb => CLQ.out w' (Q3.trans (hb.mono Q3.size))⟩
  clear CLQ
  go_wp2_with fail
  refine region_ownNL w3 7 [(13, .slice (some ⟨g9, 0, none⟩) 32 64), (14, .pointer (some ⟨g9, 0, none⟩)), (15, .agg (ints .u8 KL)), (16, .slice pa na ca), (17, .slice pc nc cc)] [(18, BytesS LD), (19, (fun v _ => v = .agg (ints .u8 T)))] [] [] rfl (by kernel_rfl) (by kernel_rfl) (by kernel_rfl) (by kernel_rfl) (by kernel_rfl) (by kernel_rfl) (by kernel_rfl) (by kernel_rfl) (by kernel_rfl) (by kernel_rfl) (by kernel_rfl) ?hst1 ?hst2 (Below.refl _ _) (fun hA => ⟨ow_val hA (wants_none rfl) 13 (.slice (some ⟨g9, 0, none⟩) 32 64) (by kernel_rfl) rfl rfl rfl rfl (by kernel_rfl) (fun w => arr_to_run 32 rfl (by kernel_rfl) Tryz.underlying75 sz_u8 (by decide) (by decide) w), ow_val hA (wants_none rfl) 14 (.pointer (some ⟨g9, 0, none⟩)) (by kernel_rfl) rfl rfl rfl rfl (by kernel_rfl) (fun w => run_arrAtZ (l := 32) (c := 64) rfl (by kernel_rfl) Tryz.underlying30 (Nat.le_refl _) w), ow_partA hA (wants_none rfl) 15 (.agg (ints .u8 KL)) (by kernel_rfl) rfl rfl rfl rfl (by kernel_rfl) 30 (.tmp 14) rfl (g9) 0 (by kernel_rfl) 75 (ints .u8 BK) (ints .u8 KL) 32 5 Tryz.underlying30 (by rw [ints_size, LK.out]; exact t32_info) (fun w1 hb => A9.under hb) (PP.out) rfl, ow_val hA (wants_none rfl) 16 (.slice pa na ca) (by kernel_rfl) rfl rfl rfl rfl (by kernel_rfl) (fun w => by kernel_rfl), ow_val hA (wants_none rfl) 17 (.slice pc nc cc) (by kernel_rfl) rfl rfl rfl rfl (by kernel_rfl) (fun w => by kernel_rfl), ow_call (wants_none rfl) 18 63 Tryz.f63 _ [.tmp 16, .tmp 17] _ rfl rfl Tryz.func63 (by kernel_rfl) rfl (fun a w1 hF hb hgot => by rw [List.map_cons, List.map_cons, List.map_nil, gotE_det (v := .slice pa na ca) hA hgot (by kernel_rfl) rfl rfl (by kernel_rfl), gotE_det (v := .slice pc nc cc) hA hgot (by kernel_rfl) rfl rfl (by kernel_rfl)]; exact (CLD.out w1 hb).mono fun e w2 hh => by obtain ⟨u, h1, h2, h3⟩ := hh; exact ⟨_, h1, rel_spec _ rfl h2, h3, fun h => by cases h⟩), ow_call (wants_none rfl) 19 62 Tryz.f62 _ [.tmp 15, .tmp 18] _ rfl rfl Tryz.func62 (by kernel_rfl) rfl (fun a w1 hF hb hgot => by rw [List.map_cons, List.map_cons, List.map_nil, gotE_det (v := .agg (ints .u8 KL)) hA hgot (by kernel_rfl) rfl rfl (by kernel_rfl)]; exact (CT.out _ w1 (gotE_spec hgot (BytesS LD) (by kernel_rfl) rfl rfl).1).mono fun e w2 hh => by obtain ⟨h1, h3⟩ := hh; exact ⟨_, h1, rel_spec _ rfl rfl, h3, fun h => by cases h⟩), trivial⟩) ?_
  case hst1 =>
    intro q hq hO v w3 w4 h1 h2 h3 h4
    simp only [List.mem_cons, List.not_mem_nil, or_false] at hq
    rcases hq with rfl | rfl
    · exact BytesV.under h1 (h4 rfl)
    · exact h1
  case hst2 => intro q hq hO; cases hO
  intro fv w4 hf hD hb4
  have h19 := (hf 19 _ rfl rfl).1
  simp only [putR, List.foldl_cons, List.foldl_nil, List.map_cons, List.map_nil, Act.put, List.setIfInBounds_toArray, List.set_cons_succ, List.set_cons_zero]
  generalize fv 18 = f18 at *
  rw [h19]
  have D2 := C2.under hb4
  have Q4 := Q3.trans (hb4.mono Q3.size)
  clear hf hD CLD CT A9 C2 Q3 hb4 h19
  refine wl_store rfl 83 (.tmp 8) (.tmp 19) rfl (w.heap.size + 2) (ints .u8 T) (by kernel_rfl) (by kernel_rfl) _ D2 (by rw [ints_size, LT.out]; exact a16_info) (by rw [ints_size, ints_size, LT.out, LZ.out]) (ints_one _ _) ?_
  intro w5 A5 P5
  go_wp2
  exact bodyPost_ret (v := .agg (ints .u8 T)) (results_cell_row Tryz.results35 _ _ _ 83 (ints .u8 T) (0, 0) _ rfl A5 Tryz.underlying83 rfl (by rw [ints_size, LT.out]; exact a16_info)) rfl ⟨rfl, Q4.trans (P5.below (by omega))⟩
end Go.Proofs.YtjkdonjcngmjeaaGreatDoor.sh
