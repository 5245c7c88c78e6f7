/-
  General pieces, joined: ZC ZD.
-/
import Derived.Test.YtjkdonjcngmjeaaGreatDoorG33
/-
  Seal and Open, by the program.
-/
namespace Go.Proofs.YtjkdonjcngmjeaaGreatDoor.sh
open Go Go.RowKit
set_option linter.unusedVariables false
set_option linter.unusedSimpArgs false

/-- A box. -/
def sealL (key : List Nat) (n : Nat) (a b : List Nat) : List Nat := encL key (nonceL n) 1 b ++ markL key n a (encL key (nonceL n) 1 b)
theorem sealL_len (key : List Nat) (n : Nat) (a b : List Nat) : (sealL key n a b).length = b.length + 16 := by rw [sealL, List.length_append, encL_len, markL_len]
theorem sealL_bytes (key : List Nat) (n : Nat) (a : List Nat) {b : List Nat} (h : Bytes b) : Bytes (sealL key n a b) := (encL_bytes _ _ _ h).append (markL_bytes _ _ _ _)

set_option maxRecDepth 100000 in
set_option maxHeartbeats 1000000 in
theorem Seal_big (key : List Nat) (n : Nat) (a b : List Nat) (va vb : Value) (w : World) (hva : BytesV va w a) (hvb : BytesV vb w b) (h : 60000 < a.length ∨ 60000 < b.length) :
    Calls Tryz.prog 16 #[.agg (ints .u8 key), .int .u64 (n : Int), va, vb] w fun e w' => e = .returned (.tuple #[.slice none 0 0, .int .i64 3]) ∧ Below w.heap.size w w' := by
  obtain ⟨pa, ca, rfl, _, _⟩ := hva
  obtain ⟨pb, cb, rfl, _, _⟩ := hvb
  obtain ⟨na, hna⟩ : ∃ n, n = a.length := ⟨_, rfl⟩
  obtain ⟨nb, hnb⟩ : ∃ n, n = b.length := ⟨_, rfl⟩
  rw [← hna, ← hnb] at h ⊢
  have Q0 : Below w.heap.size w (w.alloc (.cells (ints .u8 key) 30)) := (Below.refl _ _).alloc (Nat.le_refl _) _
  clear hna hnb
  by_cases h1 : 60000 < na
  case pos =>
    have h1' : (60000 : Int) < (na : Int) := by omega
    go_enter Tryz.func16, Tryz.ntmps16
    go_wp2_with fail
    go_ret2
    exact ⟨rfl, Q0⟩
  case neg =>
    have h1' : ¬ (60000 : Int) < (na : Int) := by omega
    have h2 : 60000 < nb := by omega
    have h2' : (60000 : Int) < (nb : Int) := by omega
    go_enter Tryz.func16, Tryz.ntmps16
    go_wp2_with fail
    go_ret2
    exact ⟨rfl, Q0⟩


set_option maxRecDepth 100000 in
set_option maxHeartbeats 1000000 in
theorem Open_big (key : List Nat) (n : Nat) (a b : List Nat) (va vb : Value) (w : World) (hva : BytesV va w a) (hvb : BytesV vb w b) (h : 60000 < a.length ∨ 60016 < b.length) :
    Calls Tryz.prog 17 #[.agg (ints .u8 key), .int .u64 (n : Int), va, vb] w fun e w' => e = .returned (.tuple #[.slice none 0 0, .int .i64 3]) ∧ Below w.heap.size w w' := by
  obtain ⟨pa, ca, rfl, _, _⟩ := hva
  obtain ⟨pb, cb, rfl, _, _⟩ := hvb
  obtain ⟨na, hna⟩ : ∃ n, n = a.length := ⟨_, rfl⟩
  obtain ⟨nb, hnb⟩ : ∃ n, n = b.length := ⟨_, rfl⟩
  rw [← hna, ← hnb] at h ⊢
  have Q0 : Below w.heap.size w (w.alloc (.cells (ints .u8 key) 30)) := (Below.refl _ _).alloc (Nat.le_refl _) _
  clear hna hnb
  by_cases h1 : 60000 < na
  case pos =>
    have h1' : (60000 : Int) < (na : Int) := by omega
    go_enter Tryz.func17, Tryz.ntmps17
    go_wp2_with fail
    go_ret2
    exact ⟨rfl, Q0⟩
  case neg =>
    have h1' : ¬ (60000 : Int) < (na : Int) := by omega
    have h2 : 60016 < nb := by omega
    have h2' : (60016 : Int) < (nb : Int) := by omega
    go_enter Tryz.func17, Tryz.ntmps17
    go_wp2_with fail
    go_ret2
    exact ⟨rfl, Q0⟩

set_option maxRecDepth 100000 in
set_option maxHeartbeats 1000000 in
theorem Seal_ok (key : List Nat) (n : Nat) (a b : List Nat) (va vb : Value) (w : World) (hk : key.length = 32) (hy : Bytes key) (hn : n < 18446744073709551616) (hva : BytesV va w a) (hvb : BytesV vb w b) (hya : Bytes a) (hyb : Bytes b) (la : a.length ≤ 60000) (lb : b.length ≤ 60000) :
    Calls Tryz.prog 16 #[.agg (ints .u8 key), .int .u64 (n : Int), va, vb] w fun e w' => ∃ v, e = .returned (.tuple #[v, .int .i64 0]) ∧ Row w.heap.size 5 .u8 (sealL key n a b) v w' ∧ Below w.heap.size w w' := by
  have KA : Kept _ := ⟨hva⟩
  have KB : Kept _ := ⟨hvb⟩
  obtain ⟨pa, ca, rfl, _, _⟩ := hva
  obtain ⟨pb, cb, rfl, hcb, _⟩ := hvb
  obtain ⟨na, hna⟩ : ∃ n, n = a.length := ⟨_, rfl⟩
  obtain ⟨nb, hnb⟩ : ∃ n, n = b.length := ⟨_, rfl⟩
  have ENA : Kept _ := ⟨hna⟩
  have ENB : Kept _ := ⟨hnb⟩
  rw [← hna] at KA la ⊢
  rw [← hnb] at KB lb hcb ⊢
  obtain ⟨NN, hNN⟩ : ∃ l, l = nonceL n := ⟨_, rfl⟩
  have LN : Kept (NN.length = 12) := ⟨by rw [hNN]; exact nonceL_len n⟩
  have YN : Kept (Bytes NN) := ⟨by rw [hNN]; exact nonceL_bytes n⟩
  have LKY : Kept _ := ⟨hk⟩
  have KYK : Kept _ := ⟨hy⟩
  have KYA : Kept _ := ⟨hya⟩
  have KYB : Kept _ := ⟨hyb⟩
  have CNO : Kept (∀ w', Calls Tryz.prog 33 #[.int .u64 (n : Int)] w' fun e w2 => e = .returned (.agg (ints .u8 NN)) ∧ Below w'.heap.size w' w2) := ⟨fun w' => by rw [hNN]; exact nonceOfD n w' hn⟩
  have CMK : Kept (∀ (c : List Nat) (vc : Value) (w' : World), Below w.heap.size w w' → BytesV vc w' c → Bytes c → c.length ≤ 100000 → Calls Tryz.prog 35 #[.agg (ints .u8 key), .agg (ints .u8 NN), .slice pa na ca, vc] w' fun e w2 => e = .returned (.agg (ints .u8 (markL key n a c))) ∧ Below w'.heap.size w' w2) := ⟨fun c vc w' hb hv hc hl => by
    rw [hNN]
    exact markOfD key n a c _ vc w' hk hy (KA.out.under hb) hv hya hc (by rw [← ENA.out]; omega) hl⟩
  have CX : Kept (∀ (l : List Nat) (v : Value) (w' : World), BytesV v w' l → Bytes l → l.length ≤ 65536 → Calls Tryz.prog 34 #[.agg (ints .u8 key), .agg (ints .u8 NN), .int .u32 1, v] w' fun e w2 => ∃ v, e = .returned (.tuple #[v, .int .i64 0]) ∧ Row w'.heap.size 5 .u8 (encL key NN 1 l) v w2 ∧ Below w'.heap.size w' w2) := ⟨fun l v w' h1 h2 h3 => Xor_ok key NN l 1 v w' hk hy LN.out YN.out h2 h1 (by decide) h3 (by omega)⟩
  have A0 : Blk (w.alloc (.cells (ints .u8 key) 30)) w.heap.size 30 (ints .u8 key) := blk_new w _ _
  have Q0 : Below w.heap.size w (w.alloc (.cells (ints .u8 key) 30)) := (Below.refl _ _).alloc (Nat.le_refl _) _

  obtain ⟨E, hE⟩ : ∃ l, l = encL key NN 1 b := ⟨_, rfl⟩
  obtain ⟨T, hT⟩ : ∃ l, l = markL key n a E := ⟨_, rfl⟩
  have ES : Kept (sealL key n a b = E ++ T) := ⟨by rw [hT, hE, hNN]; rfl⟩
  have LE : Kept (E.length = nb) := ⟨by rw [hE, encL_len, ← hnb]⟩
  have YE : Kept (Bytes E) := ⟨by rw [hE]; exact encL_bytes _ _ _ hyb⟩
  have LT : Kept (T.length = 16) := ⟨by rw [hT]; exact markL_len _ _ _ _⟩
  have EE : Kept _ := ⟨hE⟩
  have ET : Kept _ := ⟨hT⟩
  have h1' : ¬ (60000 : Int) < (na : Int) := by omega
  have h2' : ¬ (60000 : Int) < (nb : Int) := by omega
  clear hk hy hya hyb hna hnb hNN hE hT hcb
  go_enter Tryz.func16, Tryz.ntmps16
  go_wp2_with fail
  refine (CNO.out _).mono ?_
  rintro e w1 ⟨rfl, hb1⟩
  have B0 := A0.under hb1
  have Q1 := Q0.trans (hb1.mono Q0.size)
  have hl1 : w.heap.size < w1.heap.size := B0.lt
  clear A0 Q0 hb1 CNO
  go_wp2_with (first | (refine wl_store rfl 80 (.tmp 10) (.tmp 23) rfl w1.heap.size (ints .u8 NN) rfl rfl _ (blk_new w1 _ _) (by rw [ints_size, LN.out]; exact i12_info) (by rw [ints_size, LN.out]; rfl) (ints_one _ _) ?_))
  intro w2 A10 P2
  have C0 := P2.blk (B0.alloc _) (by omega)
  have Q2 := (Q1.alloc Q1.size _).trans (P2.below (by omega))
  generalize hg10 : w1.heap.size = g10 at *
  have hl2 : g10 < w2.heap.size := A10.lt
  clear B0 Q1 P2 hg10
  go_wp2_with (first | ((with_reducible refine wv_row (d := 25) ?hd ?hw 30 (.tmp 4) ?ho (w.heap.size) ?hx (t' := 30) (ints .u8 key) _ _ Tryz.underlying30 ?hs ?hg ?_); (case hd => rfl); (case hw => kernel_rfl); (case ho => rfl); (case hx => kernel_rfl); (case hs => rw [ints_size, LKY.out]; exact t32_info); (case hg => exact C0); simp only [Act.put, List.setIfInBounds_toArray, List.set_cons_succ, List.set_cons_zero]) | ((with_reducible refine wv_row (d := 26) ?hd ?hw 80 (.tmp 10) ?ho (g10) ?hx (t' := 80) (ints .u8 NN) _ _ Tryz.underlying80 ?hs ?hg ?_); (case hd => rfl); (case hw => kernel_rfl); (case ho => rfl); (case hx => kernel_rfl); (case hs => rw [ints_size, LN.out]; exact i12_info); (case hg => exact A10); simp only [Act.put, List.setIfInBounds_toArray, List.set_cons_succ, List.set_cons_zero]))
  refine (CX.out b _ w2 (KB.out.under Q2) KYB.out (by rw [← ENB.out]; omega)).mono ?_
  rintro e w3 ⟨vx, rfl, r3, hb3⟩
  rw [← EE.out] at r3
  have D0 := C0.under hb3
  have D10 := A10.under hb3
  have Q3 := Q2.trans (hb3.mono Q2.size)
  have R3 : Kept _ := ⟨r3.mono Q2.size⟩
  clear C0 A10 hb3 CX r3 Q2
  obtain ⟨px, cx, rfl, _, _⟩ := row_cells R3.out
  rw [LE.out] at R3 ⊢
  have V3 : Kept _ := ⟨row_bytes R3.out⟩
  go_wp2_with (first | ((with_reducible refine wv_row (d := 34) ?hd ?hw 30 (.tmp 4) ?ho (w.heap.size) ?hx (t' := 30) (ints .u8 key) _ _ Tryz.underlying30 ?hs ?hg ?_); (case hd => rfl); (case hw => kernel_rfl); (case ho => rfl); (case hx => kernel_rfl); (case hs => rw [ints_size, LKY.out]; exact t32_info); (case hg => exact D0); simp only [Act.put, List.setIfInBounds_toArray, List.set_cons_succ, List.set_cons_zero]) | ((with_reducible refine wv_row (d := 35) ?hd ?hw 80 (.tmp 10) ?ho (g10) ?hx (t' := 80) (ints .u8 NN) _ _ Tryz.underlying80 ?hs ?hg ?_); (case hd => rfl); (case hw => kernel_rfl); (case ho => rfl); (case hx => kernel_rfl); (case hs => rw [ints_size, LN.out]; exact i12_info); (case hg => exact D10); simp only [Act.put, List.setIfInBounds_toArray, List.set_cons_succ, List.set_cons_zero]))
  refine (CMK.out E _ w3 Q3 V3.out YE.out (by rw [LE.out]; omega)).mono ?_
  rintro e w4 ⟨rfl, hb4⟩
  rw [← ET.out]
  have Q4 := Q3.trans (hb4.mono Q3.size)
  have R4 : Kept _ := ⟨R3.out.under hb4⟩
  clear D0 D10 Q3 R3 V3 hb4 CMK
  go_wp2_with (first | (refine wl_store rfl 83 (.tmp 13) (.tmp 38) rfl w4.heap.size (ints .u8 T) rfl rfl _ (blk_new w4 _ _) (by rw [ints_size, LT.out]; exact a16_info) (by rw [ints_size, LT.out]; rfl) (ints_one _ _) ?_))
  intro w5 A13 P5
  have HQ : Below w4.heap.size w4 w5 := ((Below.refl _ _).alloc (Nat.le_refl _) _).trans (P5.below (Nat.le_refl _))
  have Q5 := Q4.trans (HQ.mono Q4.size)
  have R5 : Kept _ := ⟨R4.out.under HQ⟩
  have V13 : Kept (BytesV (.slice (some ⟨w4.heap.size, 0, none⟩) 16 16) w5 T) := ⟨arr_bytes A13 LT.out⟩
  have SN : Kept (E.length + T.length ≤ 8796093022208) := ⟨by rw [LE.out, LT.out]; omega⟩
  have B5 := Q5.size
  generalize hg13 : w4.heap.size = g13 at *
  clear Q4 R4 HQ P5 A13 hg13
  go_wp2_with (first | ((with_reducible refine wv_val (d := 40) ?hd ?hw (.slice (some ⟨g13, 0, none⟩) 16 16) ?hr ?_); (case hd => rfl); (case hw => kernel_rfl); (case hr => intro w; exact arr_all_run rfl (by kernel_rfl) Tryz.underlying83 sz_u8 (by decide) w); simp only [Act.put, List.setIfInBounds_toArray, List.set_cons_succ, List.set_cons_zero]) | (refine wl_app (by kernel_rfl) (.tmp 39) (.tmp 40) 34 5 .u8 1 rfl Tryz.underlying34 inf_u8 (by decide) w.heap.size E T _ _ rfl rfl R5.out V13.out SN.out B5 ?_))
  intro v6 w6 r6 g6 _
  have Q6 := app_below Q5 B5 R5.out g6
  have R6 : Kept (Row w.heap.size 5 .u8 (sealL key n a b) v6 w6) := ⟨by rw [ES.out]; exact r6⟩
  clear r6 g6 R5 Q5 V13 SN B5
  go_wp2_with fail
  go_ret2
  exact ⟨_, rfl, R6.out, Q6⟩

set_option maxRecDepth 100000 in
set_option maxHeartbeats 400000 in
theorem Open_short (key : List Nat) (n : Nat) (a b : List Nat) (va vb : Value) (w : World) (hva : BytesV va w a) (hvb : BytesV vb w b) (la : a.length ≤ 60000) (lb : b.length < 16) :
    Calls Tryz.prog 17 #[.agg (ints .u8 key), .int .u64 (n : Int), va, vb] w fun e w' => e = .returned (.tuple #[.slice none 0 0, .int .i64 4]) ∧ Below w.heap.size w w' := by
  obtain ⟨pa, ca, rfl, _, _⟩ := hva
  obtain ⟨pb, cb, rfl, _, _⟩ := hvb
  obtain ⟨na, hna⟩ : ∃ n, n = a.length := ⟨_, rfl⟩
  obtain ⟨nb, hnb⟩ : ∃ n, n = b.length := ⟨_, rfl⟩
  rw [← hna] at la ⊢
  rw [← hnb] at lb ⊢
  have Q0 : Below w.heap.size w (w.alloc (.cells (ints .u8 key) 30)) := (Below.refl _ _).alloc (Nat.le_refl _) _
  have h1' : ¬ (60000 : Int) < (na : Int) := by omega
  have h2' : ¬ (60016 : Int) < (nb : Int) := by omega
  have h3' : (nb : Int) < 16 := by omega
  clear hna hnb
  go_enter Tryz.func17, Tryz.ntmps17
  go_wp2_with fail
  go_ret2
  exact ⟨rfl, Q0⟩

set_option maxRecDepth 100000 in
set_option maxHeartbeats 1000000 in
theorem Open_any (key : List Nat) (n : Nat) (a b : List Nat) (va vb : Value) (w : World) (hk : key.length = 32) (hy : Bytes key) (hn : n < 18446744073709551616) (hva : BytesV va w a) (hvb : BytesV vb w b) (hya : Bytes a) (hyb : Bytes b) (la : a.length ≤ 60000) (lb : b.length ≤ 60016) (l16 : 16 ≤ b.length) :
    Calls Tryz.prog 17 #[.agg (ints .u8 key), .int .u64 (n : Int), va, vb] w fun e w' => Below w.heap.size w w' ∧ ∃ v, (markL key n a (b.take (b.length - 16)) = b.drop (b.length - 16) ∧ e = .returned (.tuple #[v, .int .i64 0]) ∧ BytesV v w' (encL key (nonceL n) 1 (b.take (b.length - 16)))) ∨ (markL key n a (b.take (b.length - 16)) ≠ b.drop (b.length - 16) ∧ e = .returned (.tuple #[v, .int .i64 5]) ∧ v = .slice none 0 0) := by
  have KA : Kept _ := ⟨hva⟩
  have KB : Kept _ := ⟨hvb⟩
  obtain ⟨pa, ca, rfl, _, _⟩ := hva
  obtain ⟨pb, cb, rfl, hcb, _⟩ := hvb
  obtain ⟨na, hna⟩ : ∃ n, n = a.length := ⟨_, rfl⟩
  obtain ⟨nb, hnb⟩ : ∃ n, n = b.length := ⟨_, rfl⟩
  have ENA : Kept _ := ⟨hna⟩
  have ENB : Kept _ := ⟨hnb⟩
  rw [← hna] at KA la ⊢
  rw [← hnb] at KB lb hcb l16 ⊢
  obtain ⟨NN, hNN⟩ : ∃ l, l = nonceL n := ⟨_, rfl⟩
  have LN : Kept (NN.length = 12) := ⟨by rw [hNN]; exact nonceL_len n⟩
  have YN : Kept (Bytes NN) := ⟨by rw [hNN]; exact nonceL_bytes n⟩
  have LKY : Kept _ := ⟨hk⟩
  have KYK : Kept _ := ⟨hy⟩
  have KYA : Kept _ := ⟨hya⟩
  have KYB : Kept _ := ⟨hyb⟩
  have CNO : Kept (∀ w', Calls Tryz.prog 33 #[.int .u64 (n : Int)] w' fun e w2 => e = .returned (.agg (ints .u8 NN)) ∧ Below w'.heap.size w' w2) := ⟨fun w' => by rw [hNN]; exact nonceOfD n w' hn⟩
  have CMK : Kept (∀ (c : List Nat) (vc : Value) (w' : World), Below w.heap.size w w' → BytesV vc w' c → Bytes c → c.length ≤ 100000 → Calls Tryz.prog 35 #[.agg (ints .u8 key), .agg (ints .u8 NN), .slice pa na ca, vc] w' fun e w2 => e = .returned (.agg (ints .u8 (markL key n a c))) ∧ Below w'.heap.size w' w2) := ⟨fun c vc w' hb hv hc hl => by
    rw [hNN]
    exact markOfD key n a c _ vc w' hk hy (KA.out.under hb) hv hya hc (by rw [← ENA.out]; omega) hl⟩
  have CX : Kept (∀ (l : List Nat) (v : Value) (w' : World), BytesV v w' l → Bytes l → l.length ≤ 65536 → Calls Tryz.prog 34 #[.agg (ints .u8 key), .agg (ints .u8 NN), .int .u32 1, v] w' fun e w2 => ∃ v, e = .returned (.tuple #[v, .int .i64 0]) ∧ Row w'.heap.size 5 .u8 (encL key NN 1 l) v w2 ∧ Below w'.heap.size w' w2) := ⟨fun l v w' h1 h2 h3 => Xor_ok key NN l 1 v w' hk hy LN.out YN.out h2 h1 (by decide) h3 (by omega)⟩
  have A0 : Blk (w.alloc (.cells (ints .u8 key) 30)) w.heap.size 30 (ints .u8 key) := blk_new w _ _
  have Q0 : Below w.heap.size w (w.alloc (.cells (ints .u8 key) 30)) := (Below.refl _ _).alloc (Nat.le_refl _) _

  rw [← hNN]
  obtain ⟨m, hm⟩ : ∃ m, m = nb - 16 := ⟨_, rfl⟩
  rw [← hm]
  obtain ⟨C, hC⟩ : ∃ l, l = b.take m := ⟨_, rfl⟩
  obtain ⟨D, hD⟩ : ∃ l, l = b.drop m := ⟨_, rfl⟩
  rw [← hC, ← hD]
  obtain ⟨T, hT⟩ : ∃ l, l = markL key n a C := ⟨_, rfl⟩
  rw [← hT]
  obtain ⟨pf, hpf⟩ : ∃ q, q = if cb = m then pb else pb.map (·.add m) := ⟨_, rfl⟩
  obtain ⟨cf, hcf⟩ : ∃ q, q = cb - m := ⟨_, rfl⟩
  have VC : Kept (BytesV (.slice pb m cb) w C) := ⟨by rw [hC]; exact (bytesV_ints KB.out).take (by rw [← hnb]; omega)⟩
  have VD : Kept (BytesV (.slice pf 16 cf) w D) := ⟨by
    have h1 := KB.out
    rw [hnb] at h1
    have h2 := h1.cut (k := m) (by rw [← hnb]; omega)
    rw [← hnb, show nb - m = 16 by omega, ← hpf, ← hcf, ← hD] at h2
    exact h2⟩
  have LC : Kept (C.length = m) := ⟨by rw [hC, List.length_take, ← hnb]; omega⟩
  have YC : Kept (Bytes C) := ⟨by rw [hC]; exact hyb.take m⟩
  have YD : Kept (Bytes D) := ⟨by rw [hD]; exact hyb.drop m⟩
  have YT : Kept (Bytes T) := ⟨by rw [hT]; exact markL_bytes _ _ _ _⟩
  have LT : Kept (T.length = 16) := ⟨by rw [hT]; exact markL_len _ _ _ _⟩
  have ET : Kept _ := ⟨hT⟩
  have Em : Kept (nb = m + 16) := ⟨by omega⟩
  have Epf : Kept _ := ⟨hpf⟩
  have Ecf : Kept _ := ⟨hcf⟩
  have E16 : Kept ((16 : Nat) = nb - m) := ⟨by omega⟩
  have hmc : m ≤ cb := by omega
  have hmn : m ≤ nb := by omega
  have nb62 : nb < 4611686018427387904 := by omega
  have m60 : m ≤ 60000 := by omega
  have h1' : ¬ (60000 : Int) < (na : Int) := by omega
  have h2' : ¬ (60016 : Int) < (nb : Int) := by omega
  have h3' : ¬ (nb : Int) < 16 := by omega
  clear hk hy hya hyb hna hnb hNN hm hC hD hT hpf hcf hcb
  go_enter Tryz.func17, Tryz.ntmps17
  go_wp2_with fail
  refine (CNO.out _).mono ?_
  rintro e w1 ⟨rfl, hb1⟩
  have B0 := A0.under hb1
  have Q1 := Q0.trans (hb1.mono Q0.size)
  have hl1 : w.heap.size < w1.heap.size := B0.lt
  clear A0 Q0 hb1 CNO
  go_wp2_with (first | (refine wl_store rfl 80 (.tmp 10) (.tmp 26) rfl w1.heap.size (ints .u8 NN) rfl rfl _ (blk_new w1 _ _) (by rw [ints_size, LN.out]; exact i12_info) (by rw [ints_size, LN.out]; rfl) (ints_one _ _) ?_))
  intro w2 A10 P2
  have C0 := P2.blk (B0.alloc _) (by omega)
  have Q2 := (Q1.alloc Q1.size _).trans (P2.below (by omega))
  generalize hg10 : w1.heap.size = g10 at *
  have hl2 : g10 < w2.heap.size := A10.lt
  clear B0 Q1 P2 hg10
  go_wp2_with fail
  refine region_ownL w2 11 [(27, .slice pb nb cb), (28, .slice pb nb cb), (29, .int .i64 (nb : Int)), (30, .int .i64 (m : Int)), (31, .slice pb m cb), (32, .slice pb nb cb), (33, .slice pb nb cb), (34, .int .i64 (nb : Int)), (35, .int .i64 (m : Int)), (36, .slice pf 16 cf), (11, .slice pb m cb)] [] [] [] rfl (by kernel_rfl) (by kernel_rfl) (by kernel_rfl) (by kernel_rfl) (by kernel_rfl) (by kernel_rfl) (by kernel_rfl) (by kernel_rfl) (by kernel_rfl) (by kernel_rfl) (by kernel_rfl) ?hst1 ?hst2 (Below.refl _ _) (fun hA => ⟨ow_val hA (wants_none rfl) 27 (.slice pb nb cb) (by kernel_rfl) rfl rfl rfl rfl (by kernel_rfl) (fun w => by kernel_rfl), ow_val hA (wants_none rfl) 28 (.slice pb nb cb) (by kernel_rfl) rfl rfl rfl rfl (by kernel_rfl) (fun w => by kernel_rfl), ow_val hA (wants_none rfl) 29 (.int .i64 (nb : Int)) (by kernel_rfl) rfl rfl rfl rfl (by kernel_rfl) (fun w => by kernel_rfl), ow_val hA (wants_none rfl) 30 (.int .i64 (m : Int)) (by kernel_rfl) rfl rfl rfl rfl (by kernel_rfl) (fun w => run_subZ 16 rfl (by kernel_rfl) Em.out nb62 w), ow_val hA (wants_none rfl) 31 (.slice pb m cb) (by kernel_rfl) rfl rfl rfl rfl (by kernel_rfl) (fun w => cutTo_run (p := pb) (l := nb) (c := cb) (m := m) rfl (by kernel_rfl) (by kernel_rfl) Tryz.underlying34 sz_u8 hmc w), ow_val hA (wants_none rfl) 32 (.slice pb nb cb) (by kernel_rfl) rfl rfl rfl rfl (by kernel_rfl) (fun w => by kernel_rfl), ow_val hA (wants_none rfl) 33 (.slice pb nb cb) (by kernel_rfl) rfl rfl rfl rfl (by kernel_rfl) (fun w => by kernel_rfl), ow_val hA (wants_none rfl) 34 (.int .i64 (nb : Int)) (by kernel_rfl) rfl rfl rfl rfl (by kernel_rfl) (fun w => by kernel_rfl), ow_val hA (wants_none rfl) 35 (.int .i64 (m : Int)) (by kernel_rfl) rfl rfl rfl rfl (by kernel_rfl) (fun w => run_subZ 16 rfl (by kernel_rfl) Em.out nb62 w), ow_val hA (wants_none rfl) 36 (.slice pf 16 cf) (by kernel_rfl) rfl rfl rfl rfl (by kernel_rfl) (fun w => cut_fr (p := pb) (l := nb) (c := cb) (k := m) rfl (by kernel_rfl) (by kernel_rfl) Tryz.underlying34 sz_u8 hmn Epf.out E16.out Ecf.out w), ow_val hA (wants_none rfl) 11 (.slice pb m cb) (by kernel_rfl) rfl rfl rfl rfl (by kernel_rfl) (fun w => by kernel_rfl), trivial⟩) ?_
  case hst1 => intro q hq; cases hq
  case hst2 => intro q hq; cases hq
  intro fv w3 hf hD hb3
  simp only [putR, List.foldl_cons, List.foldl_nil, List.map_cons, List.map_nil, Act.put, List.setIfInBounds_toArray, List.set_cons_succ, List.set_cons_zero]
  have D0 := C0.under hb3
  have D10 := A10.under hb3
  have Q3 := Q2.trans (hb3.mono Q2.size)
  clear hf hD C0 A10 Q2 hb3
  go_wp2_with (first | ((with_reducible refine wv_row (d := 37) ?hd ?hw 30 (.tmp 4) ?ho (w.heap.size) ?hx (t' := 30) (ints .u8 key) _ _ Tryz.underlying30 ?hs ?hg ?_); (case hd => rfl); (case hw => kernel_rfl); (case ho => rfl); (case hx => kernel_rfl); (case hs => rw [ints_size, LKY.out]; exact t32_info); (case hg => exact D0); simp only [Act.put, List.setIfInBounds_toArray, List.set_cons_succ, List.set_cons_zero]) | ((with_reducible refine wv_row (d := 38) ?hd ?hw 80 (.tmp 10) ?ho (g10) ?hx (t' := 80) (ints .u8 NN) _ _ Tryz.underlying80 ?hs ?hg ?_); (case hd => rfl); (case hw => kernel_rfl); (case ho => rfl); (case hx => kernel_rfl); (case hs => rw [ints_size, LN.out]; exact i12_info); (case hg => exact D10); simp only [Act.put, List.setIfInBounds_toArray, List.set_cons_succ, List.set_cons_zero]))
  refine (CMK.out C _ w3 Q3 (VC.out.under Q3) YC.out (by rw [LC.out]; omega)).mono ?_
  rintro e w4 ⟨rfl, hb4⟩
  rw [← ET.out]
  have E0 := D0.under hb4
  have E10 := D10.under hb4
  have Q4 := Q3.trans (hb4.mono Q3.size)
  have hl4 : w.heap.size < w4.heap.size := E0.lt
  have hl4' : g10 < w4.heap.size := E10.lt
  clear D0 D10 Q3 hb4 CMK
  go_wp2_with (first | (refine wl_store rfl 83 (.tmp 13) (.tmp 41) rfl w4.heap.size (ints .u8 T) rfl rfl _ (blk_new w4 _ _) (by rw [ints_size, LT.out]; exact a16_info) (by rw [ints_size, LT.out]; rfl) (ints_one _ _) ?_))
  intro w5 A13 P5
  have F0 := P5.blk (E0.alloc _) (by omega)
  have F10 := P5.blk (E10.alloc _) (by omega)
  have Q5 := (Q4.alloc Q4.size _).trans (P5.below (by omega))
  have V13 : Kept (BytesV (.slice (some ⟨w4.heap.size, 0, none⟩) 16 16) w5 T) := ⟨arr_bytes A13 LT.out⟩
  have CE : Kept (Calls Tryz.prog 36 #[.slice (some ⟨w4.heap.size, 0, none⟩) 16 16, .slice pf 16 cf] w5 fun e w' => e = .returned (.bool (decide (T = D))) ∧ Below w5.heap.size w5 w') := ⟨EqualD T D _ _ w5 YT.out YD.out V13.out (VD.out.under Q5) (by rw [LT.out]; decide)⟩
  generalize hg13 : w4.heap.size = g13 at *
  clear Q4 P5 A13 hg13 E0 E10 V13
  go_wp2_with (first | ((with_reducible refine wv_val (d := 42) ?hd ?hw (.slice (some ⟨g13, 0, none⟩) 16 16) ?hr ?_); (case hd => rfl); (case hw => kernel_rfl); (case hr => intro w; exact arr_all_run rfl (by kernel_rfl) Tryz.underlying83 sz_u8 (by decide) w); simp only [Act.put, List.setIfInBounds_toArray, List.set_cons_succ, List.set_cons_zero]))
  refine CE.out.mono ?_
  rintro e w6 ⟨rfl, hb6⟩
  have Q6 := Q5.trans (hb6.mono Q5.size)
  have G0 := F0.under hb6
  have G10 := F10.under hb6
  clear F0 F10 Q5 hb6 CE
  by_cases hTD : T = D
  case neg =>
    rw [decide_eq_false hTD]
    go_wp2_with fail
    go_ret2
    exact ⟨Q6, _, .inr ⟨hTD, rfl, rfl⟩⟩
  case pos =>
    rw [decide_eq_true hTD]
    go_wp2_with (first | ((with_reducible refine wv_row (d := 46) ?hd ?hw 30 (.tmp 4) ?ho (w.heap.size) ?hx (t' := 30) (ints .u8 key) _ _ Tryz.underlying30 ?hs ?hg ?_); (case hd => rfl); (case hw => kernel_rfl); (case ho => rfl); (case hx => kernel_rfl); (case hs => rw [ints_size, LKY.out]; exact t32_info); (case hg => exact G0); simp only [Act.put, List.setIfInBounds_toArray, List.set_cons_succ, List.set_cons_zero]) | ((with_reducible refine wv_row (d := 47) ?hd ?hw 80 (.tmp 10) ?ho (g10) ?hx (t' := 80) (ints .u8 NN) _ _ Tryz.underlying80 ?hs ?hg ?_); (case hd => rfl); (case hw => kernel_rfl); (case ho => rfl); (case hx => kernel_rfl); (case hs => rw [ints_size, LN.out]; exact i12_info); (case hg => exact G10); simp only [Act.put, List.setIfInBounds_toArray, List.set_cons_succ, List.set_cons_zero]))
    refine (CX.out C _ w6 (VC.out.under Q6) YC.out (by rw [LC.out]; omega)).mono ?_
    rintro e w7 ⟨v7, rfl, r7, hb7⟩
    have R7 : Kept _ := ⟨row_bytes r7⟩
    have Q7 := Q6.trans (hb7.mono Q6.size)
    clear r7 hb7 CX
    go_wp2_with fail
    go_ret2
    exact ⟨Q7, _, .inl ⟨hTD, rfl, R7.out⟩⟩
end Go.Proofs.YtjkdonjcngmjeaaGreatDoor.sh
/-
  Seal and Open whole; the answers that the document fixes for layer 7 are as they must be.
-/
namespace Go.Proofs.YtjkdonjcngmjeaaGreatDoor.sh
open Go Go.RowKit
set_option linter.unusedVariables false
set_option linter.unusedSimpArgs false

def sealP (key : List Nat) (n : Nat) (a b : List Nat) : List Nat × Nat := if 60000 < a.length ∨ 60000 < b.length then ([], 3) else (sealL key n a b, 0)
def openP (key : List Nat) (n : Nat) (a b : List Nat) : List Nat × Nat := if 60000 < a.length ∨ 60016 < b.length then ([], 3) else if b.length < 16 then ([], 4) else if markL key n a (b.take (b.length - 16)) = b.drop (b.length - 16) then (encL key (nonceL n) 1 (b.take (b.length - 16)), 0) else ([], 5)
theorem nil_bytesV (w : World) : BytesV (.slice none 0 0) w [] := ⟨none, 0, rfl, Nat.le_refl _, fun h => absurd rfl h⟩
theorem SealAD (key : List Nat) (n : Nat) (a b : List Nat) (va vb : Value) (w : World) (hk : key.length = 32) (hy : Bytes key) (hn : n < 18446744073709551616) (hva : BytesV va w a) (hvb : BytesV vb w b) (hya : Bytes a) (hyb : Bytes b) :
    Calls Tryz.prog 16 #[.agg (ints .u8 key), .int .u64 (n : Int), va, vb] w fun e w' => ∃ v, e = .returned (.tuple #[v, .int .i64 ((sealP key n a b).2 : Int)]) ∧ BytesV v w' (sealP key n a b).1 ∧ Below w.heap.size w w' := by
  unfold sealP
  by_cases h : 60000 < a.length ∨ 60000 < b.length
  · rw [if_pos h]
    refine (Seal_big key n a b va vb w hva hvb h).mono ?_
    rintro e w' ⟨rfl, hb⟩
    exact ⟨_, rfl, nil_bytesV _, hb⟩
  · rw [if_neg h]
    refine (Seal_ok key n a b va vb w hk hy hn hva hvb hya hyb (by omega) (by omega)).mono ?_
    rintro e w' ⟨v, rfl, hr, hb⟩
    exact ⟨_, rfl, row_bytes hr, hb⟩
theorem OpenD (key : List Nat) (n : Nat) (a b : List Nat) (va vb : Value) (w : World) (hk : key.length = 32) (hy : Bytes key) (hn : n < 18446744073709551616) (hva : BytesV va w a) (hvb : BytesV vb w b) (hya : Bytes a) (hyb : Bytes b) :
    Calls Tryz.prog 17 #[.agg (ints .u8 key), .int .u64 (n : Int), va, vb] w fun e w' => ∃ v, e = .returned (.tuple #[v, .int .i64 ((openP key n a b).2 : Int)]) ∧ BytesV v w' (openP key n a b).1 ∧ Below w.heap.size w w' := by
  unfold openP
  by_cases h : 60000 < a.length ∨ 60016 < b.length
  · rw [if_pos h]
    refine (Open_big key n a b va vb w hva hvb h).mono ?_
    rintro e w' ⟨rfl, hb⟩
    exact ⟨_, rfl, nil_bytesV _, hb⟩
  · rw [if_neg h]
    by_cases h16 : b.length < 16
    · rw [if_pos h16]
      refine (Open_short key n a b va vb w hva hvb (by omega) h16).mono ?_
      rintro e w' ⟨rfl, hb⟩
      exact ⟨_, rfl, nil_bytesV _, hb⟩
    · rw [if_neg h16]
      refine (Open_any key n a b va vb w hk hy hn hva hvb hya hyb (by omega) (by omega) (by omega)).mono ?_
      rintro e w' ⟨hb, v, ⟨ht, rfl, hv⟩ | ⟨ht, rfl, rfl⟩⟩
      · rw [if_pos ht]; exact ⟨_, rfl, hv, hb⟩
      · rw [if_neg ht]; exact ⟨_, rfl, nil_bytesV _, hb⟩
theorem sealP_ok (key : List Nat) (n : Nat) (a b : List Nat) (la : a.length ≤ 60000) (lb : b.length ≤ 60000) : sealP key n a b = (sealL key n a b, 0) := by unfold sealP; rw [if_neg (by omega)]
theorem seal_cut (key : List Nat) (n : Nat) (a b : List Nat) : (sealL key n a b).take ((sealL key n a b).length - 16) = encL key (nonceL n) 1 b ∧ (sealL key n a b).drop ((sealL key n a b).length - 16) = markL key n a (encL key (nonceL n) 1 b) := by
  rw [sealL_len, Nat.add_sub_cancel, sealL]
  exact ⟨List.take_left' (by rw [encL_len]), List.drop_left' (by rw [encL_len])⟩
/-- What is sealed is opened. -/
theorem openP_seal (key : List Nat) (n : Nat) (a b : List Nat) (la : a.length ≤ 60000) (lb : b.length ≤ 60000) : openP key n a (sealL key n a b) = (b, 0) := by
  have hl := sealL_len key n a b
  obtain ⟨h1, h2⟩ := seal_cut key n a b
  unfold openP
  rw [if_neg (by omega), if_neg (by omega), h1, h2, if_pos rfl, encL_back]
end Go.Proofs.YtjkdonjcngmjeaaGreatDoor.sh
