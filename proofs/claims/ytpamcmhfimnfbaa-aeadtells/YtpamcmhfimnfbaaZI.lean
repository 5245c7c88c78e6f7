/-
  AeadTells, walked.
-/
import Derived.Test.YtpamcmhfimnfbaaZE
import Derived.Test.YtpamcmhfimnfbaaZH
namespace Go.Proofs.Ytpamcmhfimnfbaa.sh
open Go Go.RowKit
set_option linter.unusedVariables false
set_option linter.unusedSimpArgs false

theorem run_eqlR {o : Oper} {a : Act} {x y : Operand} {r : Int} (ho : o.op = .binOp .eql 3 x y 3) (hx : a.eval x = .int .i64 r) (hy : a.eval y = .int .i64 r) (w : World) : (execOp a.eval o).run Try.prog w = .ok (.value (.bool true)) w := by
  unfold execOp
  simp only [ho, hx, hy]
  simp [go_sem]

set_option maxRecDepth 100000 in
set_option maxHeartbeats 2000000 in
theorem tells7 (key : List Nat) (n : Nat) (va : Value) (a : List Nat) (vb : Value) (b : List Nat) (w : World) (hk : key.length = 32) (hy : Bytes key) (hn : n < 18446744073709551616) (hva : BytesV va w a) (hya : Bytes a) (hla : a.length ≤ maxLen) (hvb : BytesV vb w b) (hyb : Bytes b) (hlb : b.length ≤ maxLen) :
    Calls Try.prog 3 #[.agg (lockA key n va), vb] w fun e w' => e = .returned (.bool true) ∧ Below w.heap.size w w' := by
  have KA : Kept _ := ⟨hva⟩
  have KB : Kept _ := ⟨hvb⟩
  obtain ⟨na, hna⟩ : ∃ n, n = a.length := ⟨_, rfl⟩
  obtain ⟨nb, hnb⟩ : ∃ n, n = b.length := ⟨_, rfl⟩
  obtain ⟨pa, ca, rfl⟩ := slice_form hva hna.symm
  obtain ⟨pb, cb, rfl⟩ := slice_form hvb hnb.symm
  have LK : Kept _ := ⟨hk⟩
  have A0 : Blk (w.alloc (.cells (lockA key n (.slice pa na ca)) 26)) w.heap.size 26 (lockA key n (.slice pa na ca)) := blk_new _ _ _
  have Q0 := lock_below w (lockA key n (.slice pa na ca))
  obtain ⟨X, hX⟩ : ∃ l, l = sealL key n a b := ⟨_, rfl⟩
  obtain ⟨Y, hY⟩ : ∃ l, l = (openP key n a b).1 := ⟨_, rfl⟩
  obtain ⟨r, hr⟩ : ∃ r : Int, r = ((openP key n a b).2 : Int) := ⟨_, rfl⟩
  have S1 : Kept (na ≤ 1000 → nb ≤ 1000 → ∀ (w' : World), Below w.heap.size w w' → Calls Try.prog 9 #[.agg (ints .u8 key), .int .u64 (n : Int), .slice pa na ca, .slice pb nb cb] w' fun e w2 => ∃ v, e = .returned (.tuple #[v, .int .i64 0]) ∧ BytesV v w2 X ∧ Below w'.heap.size w' w2) := ⟨fun h1 h2 w' hb => by
    have h := SealD key n a b _ _ w' hk hy hn (KA.out.under hb) (KB.out.under hb) hya hyb
    rw [sealP_ok _ _ _ _ (by omega) (by omega), ← hX] at h
    exact h⟩
  have S2 : Kept (na ≤ 1000 → nb ≤ 1000 → ∀ (w' : World), Below w.heap.size w w' → Calls Try.prog 10 #[.agg (ints .u8 key), .int .u64 (n : Int), .slice pa na ca, .slice pb nb cb] w' fun e w2 => ∃ v, e = .returned (.tuple #[v, .int .i64 0]) ∧ BytesV v w2 X ∧ Below w'.heap.size w' w2) := ⟨fun h1 h2 w' hb => by
    rw [hX]
    exact rSealD key n a b _ _ w' hk hy hn (KA.out.under hb) (KB.out.under hb) hya hyb (by omega) (by omega)⟩
  have O1 : Kept (∀ (w' : World), Below w.heap.size w w' → Calls Try.prog 11 #[.agg (ints .u8 key), .int .u64 (n : Int), .slice pa na ca, .slice pb nb cb] w' fun e w2 => ∃ v, e = .returned (.tuple #[v, .int .i64 r]) ∧ BytesV v w2 Y ∧ Below w'.heap.size w' w2) := ⟨fun w' hb => by
    rw [hY, hr]
    exact OpenD key n a b _ _ w' hk hy hn (KA.out.under hb) (KB.out.under hb) hya hyb⟩
  have O2 : Kept (na ≤ 1000 → nb ≤ 1000 → ∀ (w' : World), Below w.heap.size w w' → Calls Try.prog 12 #[.agg (ints .u8 key), .int .u64 (n : Int), .slice pa na ca, .slice pb nb cb] w' fun e w2 => ∃ v, e = .returned (.tuple #[v, .int .i64 r]) ∧ BytesV v w2 Y ∧ Below w'.heap.size w' w2) := ⟨fun h1 h2 w' hb => by
    rw [hY, hr]
    exact rOpenD key n a b _ _ w' hk hy hn (KA.out.under hb) (KB.out.under hb) hya hyb (by omega) (by omega)⟩
  clear hk hy hn hva hya hla hna hvb hyb hlb hnb hX hY hr KA KB
  by_cases hA : 1000 < na
  case pos =>
    have hA' : (1000 : Int) < (na : Int) := by omega
    go_enter Try.func3, Try.ntmps3
    go_wp2_with fail
    refine (alive7 _).mono ?_
    rintro e w1 ⟨rfl, hb1⟩
    have B0 := A0.under hb1
    go_wp2_with (first | ((with_reducible refine wv_val (d := 15) ?hd ?hw (.pointer (some ⟨w.heap.size, 33, none⟩)) ?hr ?_); (case hd => rfl); (case hw => kernel_rfl); (case hr => intro w; kernel_rfl); simp only [Act.put, List.setIfInBounds_toArray, List.set_cons_succ, List.set_cons_zero]) | ((with_reducible refine wv_elem (d := 16) ?hd ?hw 24 ag_bytes (.tmp 15) ?ho (⟨w.heap.size, 33, none⟩) ?hx (.slice pa na ca) ?hc ?_); (case hd => rfl); (case hw => kernel_rfl); (case ho => rfl); (case hx => kernel_rfl); (case hc => exact B0.cell (lock_ad _ _ _ LK.out)); simp only [Act.put, List.setIfInBounds_toArray, List.set_cons_succ, List.set_cons_zero]))
    go_ret
    exact ⟨rfl, Q0.trans (hb1.mono Q0.size)⟩
  case neg =>
  have hA' : ¬ (1000 : Int) < (na : Int) := by omega
  by_cases hB : 1000 < nb
  case pos =>
    have hB' : (1000 : Int) < (nb : Int) := by omega
    go_enter Try.func3, Try.ntmps3
    go_wp2_with fail
    refine (alive7 _).mono ?_
    rintro e w1 ⟨rfl, hb1⟩
    have B0 := A0.under hb1
    go_wp2_with (first | ((with_reducible refine wv_val (d := 15) ?hd ?hw (.pointer (some ⟨w.heap.size, 33, none⟩)) ?hr ?_); (case hd => rfl); (case hw => kernel_rfl); (case hr => intro w; kernel_rfl); simp only [Act.put, List.setIfInBounds_toArray, List.set_cons_succ, List.set_cons_zero]) | ((with_reducible refine wv_elem (d := 16) ?hd ?hw 24 ag_bytes (.tmp 15) ?ho (⟨w.heap.size, 33, none⟩) ?hx (.slice pa na ca) ?hc ?_); (case hd => rfl); (case hw => kernel_rfl); (case ho => rfl); (case hx => kernel_rfl); (case hc => exact B0.cell (lock_ad _ _ _ LK.out)); simp only [Act.put, List.setIfInBounds_toArray, List.set_cons_succ, List.set_cons_zero]))
    go_ret
    exact ⟨rfl, Q0.trans (hb1.mono Q0.size)⟩
  case neg =>
    have hB' : ¬ (1000 : Int) < (nb : Int) := by omega
    have ha : na ≤ 1000 := by omega
    have hb : nb ≤ 1000 := by omega
    go_enter Try.func3, Try.ntmps3
    go_wp2_with fail
    refine (alive7 _).mono ?_
    rintro e w1 ⟨rfl, hb1⟩
    have B0 := A0.under hb1
    have Q1 := Q0.trans (hb1.mono Q0.size)
    have C := S1.out ha hb w1 Q1
    clear A0 Q0 hb1 S1
    go_wp2_with (first | ((with_reducible refine wv_val (d := 15) ?hd ?hw (.pointer (some ⟨w.heap.size, 33, none⟩)) ?hr ?_); (case hd => rfl); (case hw => kernel_rfl); (case hr => intro w; kernel_rfl); simp only [Act.put, List.setIfInBounds_toArray, List.set_cons_succ, List.set_cons_zero]) | ((with_reducible refine wv_elem (d := 16) ?hd ?hw 24 ag_bytes (.tmp 15) ?ho (⟨w.heap.size, 33, none⟩) ?hx (.slice pa na ca) ?hc ?_); (case hd => rfl); (case hw => kernel_rfl); (case ho => rfl); (case hx => kernel_rfl); (case hc => exact B0.cell (lock_ad _ _ _ LK.out)); simp only [Act.put, List.setIfInBounds_toArray, List.set_cons_succ, List.set_cons_zero]) | ((with_reducible refine wv_val (d := 25) ?hd ?hw (.pointer (some ⟨w.heap.size, 0, none⟩)) ?hr ?_); (case hd => rfl); (case hw => kernel_rfl); (case hr => intro w; kernel_rfl); simp only [Act.put, List.setIfInBounds_toArray, List.set_cons_succ, List.set_cons_zero]) | ((with_reducible refine wv_partA (d := 26) ?hd ?hw 22 (.tmp 25) ?ho (w.heap.size) 0 ?hx (t' := 26) (lockA key n (.slice pa na ca)) (ints .u8 key) 32 5 Try.underlying22 ?hs ?hg ?hp ?_); (case hd => rfl); (case hw => kernel_rfl); (case ho => rfl); (case hx => kernel_rfl); (case hs => rw [ints_size, LK.out]; exact t32_info); (case hg => exact B0); (case hp => exact lock_key _ _ _); simp only [Act.put, List.setIfInBounds_toArray, List.set_cons_succ, List.set_cons_zero]) | ((with_reducible refine wv_val (d := 27) ?hd ?hw (.pointer (some ⟨w.heap.size, 32, none⟩)) ?hr ?_); (case hd => rfl); (case hw => kernel_rfl); (case hr => intro w; kernel_rfl); simp only [Act.put, List.setIfInBounds_toArray, List.set_cons_succ, List.set_cons_zero]) | ((with_reducible refine wv_elem (d := 28) ?hd ?hw 23 ag_u64 (.tmp 27) ?ho (⟨w.heap.size, 32, none⟩) ?hx (.int .u64 (n : Int)) ?hc ?_); (case hd => rfl); (case hw => kernel_rfl); (case ho => rfl); (case hx => kernel_rfl); (case hc => exact B0.cell (lock_num _ _ _ LK.out)); simp only [Act.put, List.setIfInBounds_toArray, List.set_cons_succ, List.set_cons_zero]) | ((with_reducible refine wv_val (d := 29) ?hd ?hw (.pointer (some ⟨w.heap.size, 33, none⟩)) ?hr ?_); (case hd => rfl); (case hw => kernel_rfl); (case hr => intro w; kernel_rfl); simp only [Act.put, List.setIfInBounds_toArray, List.set_cons_succ, List.set_cons_zero]) | ((with_reducible refine wv_elem (d := 30) ?hd ?hw 24 ag_bytes (.tmp 29) ?ho (⟨w.heap.size, 33, none⟩) ?hx (.slice pa na ca) ?hc ?_); (case hd => rfl); (case hw => kernel_rfl); (case ho => rfl); (case hx => kernel_rfl); (case hc => exact B0.cell (lock_ad _ _ _ LK.out)); simp only [Act.put, List.setIfInBounds_toArray, List.set_cons_succ, List.set_cons_zero]))
    refine C.mono ?_
    rintro e w2 ⟨v1, rfl, h1, hb2⟩
    have B2 := B0.under hb2
    have Q2 := Q1.trans (hb2.mono Q1.size)
    have V1 : Kept _ := ⟨h1⟩
    have C2 := S2.out ha hb w2 Q2
    clear B0 Q1 hb2 h1 C S2
    go_wp2_with (first | ((with_reducible refine wv_val (d := 36) ?hd ?hw (.pointer (some ⟨w.heap.size, 0, none⟩)) ?hr ?_); (case hd => rfl); (case hw => kernel_rfl); (case hr => intro w; kernel_rfl); simp only [Act.put, List.setIfInBounds_toArray, List.set_cons_succ, List.set_cons_zero]) | ((with_reducible refine wv_partA (d := 37) ?hd ?hw 22 (.tmp 36) ?ho (w.heap.size) 0 ?hx (t' := 26) (lockA key n (.slice pa na ca)) (ints .u8 key) 32 5 Try.underlying22 ?hs ?hg ?hp ?_); (case hd => rfl); (case hw => kernel_rfl); (case ho => rfl); (case hx => kernel_rfl); (case hs => rw [ints_size, LK.out]; exact t32_info); (case hg => exact B2); (case hp => exact lock_key _ _ _); simp only [Act.put, List.setIfInBounds_toArray, List.set_cons_succ, List.set_cons_zero]) | ((with_reducible refine wv_val (d := 38) ?hd ?hw (.pointer (some ⟨w.heap.size, 32, none⟩)) ?hr ?_); (case hd => rfl); (case hw => kernel_rfl); (case hr => intro w; kernel_rfl); simp only [Act.put, List.setIfInBounds_toArray, List.set_cons_succ, List.set_cons_zero]) | ((with_reducible refine wv_elem (d := 39) ?hd ?hw 23 ag_u64 (.tmp 38) ?ho (⟨w.heap.size, 32, none⟩) ?hx (.int .u64 (n : Int)) ?hc ?_); (case hd => rfl); (case hw => kernel_rfl); (case ho => rfl); (case hx => kernel_rfl); (case hc => exact B2.cell (lock_num _ _ _ LK.out)); simp only [Act.put, List.setIfInBounds_toArray, List.set_cons_succ, List.set_cons_zero]) | ((with_reducible refine wv_val (d := 40) ?hd ?hw (.pointer (some ⟨w.heap.size, 33, none⟩)) ?hr ?_); (case hd => rfl); (case hw => kernel_rfl); (case hr => intro w; kernel_rfl); simp only [Act.put, List.setIfInBounds_toArray, List.set_cons_succ, List.set_cons_zero]) | ((with_reducible refine wv_elem (d := 41) ?hd ?hw 24 ag_bytes (.tmp 40) ?ho (⟨w.heap.size, 33, none⟩) ?hx (.slice pa na ca) ?hc ?_); (case hd => rfl); (case hw => kernel_rfl); (case ho => rfl); (case hx => kernel_rfl); (case hc => exact B2.cell (lock_ad _ _ _ LK.out)); simp only [Act.put, List.setIfInBounds_toArray, List.set_cons_succ, List.set_cons_zero]))
    refine C2.mono ?_
    rintro e w3 ⟨v2, rfl, h2, hb3⟩
    have B3 := B2.under hb3
    have Q3 := Q2.trans (hb3.mono Q2.size)
    have V2 : Kept _ := ⟨h2⟩
    have V13 : Kept _ := ⟨V1.out.under hb3⟩
    have C3 := O1.out w3 Q3
    clear B2 Q2 hb3 h2 C2 O1 V1
    go_wp2_with (first | ((with_reducible refine wv_val (d := 47) ?hd ?hw (.pointer (some ⟨w.heap.size, 0, none⟩)) ?hr ?_); (case hd => rfl); (case hw => kernel_rfl); (case hr => intro w; kernel_rfl); simp only [Act.put, List.setIfInBounds_toArray, List.set_cons_succ, List.set_cons_zero]) | ((with_reducible refine wv_partA (d := 48) ?hd ?hw 22 (.tmp 47) ?ho (w.heap.size) 0 ?hx (t' := 26) (lockA key n (.slice pa na ca)) (ints .u8 key) 32 5 Try.underlying22 ?hs ?hg ?hp ?_); (case hd => rfl); (case hw => kernel_rfl); (case ho => rfl); (case hx => kernel_rfl); (case hs => rw [ints_size, LK.out]; exact t32_info); (case hg => exact B3); (case hp => exact lock_key _ _ _); simp only [Act.put, List.setIfInBounds_toArray, List.set_cons_succ, List.set_cons_zero]) | ((with_reducible refine wv_val (d := 49) ?hd ?hw (.pointer (some ⟨w.heap.size, 32, none⟩)) ?hr ?_); (case hd => rfl); (case hw => kernel_rfl); (case hr => intro w; kernel_rfl); simp only [Act.put, List.setIfInBounds_toArray, List.set_cons_succ, List.set_cons_zero]) | ((with_reducible refine wv_elem (d := 50) ?hd ?hw 23 ag_u64 (.tmp 49) ?ho (⟨w.heap.size, 32, none⟩) ?hx (.int .u64 (n : Int)) ?hc ?_); (case hd => rfl); (case hw => kernel_rfl); (case ho => rfl); (case hx => kernel_rfl); (case hc => exact B3.cell (lock_num _ _ _ LK.out)); simp only [Act.put, List.setIfInBounds_toArray, List.set_cons_succ, List.set_cons_zero]) | ((with_reducible refine wv_val (d := 51) ?hd ?hw (.pointer (some ⟨w.heap.size, 33, none⟩)) ?hr ?_); (case hd => rfl); (case hw => kernel_rfl); (case hr => intro w; kernel_rfl); simp only [Act.put, List.setIfInBounds_toArray, List.set_cons_succ, List.set_cons_zero]) | ((with_reducible refine wv_elem (d := 52) ?hd ?hw 24 ag_bytes (.tmp 51) ?ho (⟨w.heap.size, 33, none⟩) ?hx (.slice pa na ca) ?hc ?_); (case hd => rfl); (case hw => kernel_rfl); (case ho => rfl); (case hx => kernel_rfl); (case hc => exact B3.cell (lock_ad _ _ _ LK.out)); simp only [Act.put, List.setIfInBounds_toArray, List.set_cons_succ, List.set_cons_zero]))
    refine C3.mono ?_
    rintro e w4 ⟨v3, rfl, h3, hb4⟩
    have B4 := B3.under hb4
    have Q4 := Q3.trans (hb4.mono Q3.size)
    have V3 : Kept _ := ⟨h3⟩
    have V14 : Kept _ := ⟨V13.out.under hb4⟩
    have V24 : Kept _ := ⟨V2.out.under hb4⟩
    have C4 := O2.out ha hb w4 Q4
    clear B3 Q3 hb4 h3 C3 O2 V13 V2
    go_wp2_with (first | ((with_reducible refine wv_val (d := 58) ?hd ?hw (.pointer (some ⟨w.heap.size, 0, none⟩)) ?hr ?_); (case hd => rfl); (case hw => kernel_rfl); (case hr => intro w; kernel_rfl); simp only [Act.put, List.setIfInBounds_toArray, List.set_cons_succ, List.set_cons_zero]) | ((with_reducible refine wv_partA (d := 59) ?hd ?hw 22 (.tmp 58) ?ho (w.heap.size) 0 ?hx (t' := 26) (lockA key n (.slice pa na ca)) (ints .u8 key) 32 5 Try.underlying22 ?hs ?hg ?hp ?_); (case hd => rfl); (case hw => kernel_rfl); (case ho => rfl); (case hx => kernel_rfl); (case hs => rw [ints_size, LK.out]; exact t32_info); (case hg => exact B4); (case hp => exact lock_key _ _ _); simp only [Act.put, List.setIfInBounds_toArray, List.set_cons_succ, List.set_cons_zero]) | ((with_reducible refine wv_val (d := 60) ?hd ?hw (.pointer (some ⟨w.heap.size, 32, none⟩)) ?hr ?_); (case hd => rfl); (case hw => kernel_rfl); (case hr => intro w; kernel_rfl); simp only [Act.put, List.setIfInBounds_toArray, List.set_cons_succ, List.set_cons_zero]) | ((with_reducible refine wv_elem (d := 61) ?hd ?hw 23 ag_u64 (.tmp 60) ?ho (⟨w.heap.size, 32, none⟩) ?hx (.int .u64 (n : Int)) ?hc ?_); (case hd => rfl); (case hw => kernel_rfl); (case ho => rfl); (case hx => kernel_rfl); (case hc => exact B4.cell (lock_num _ _ _ LK.out)); simp only [Act.put, List.setIfInBounds_toArray, List.set_cons_succ, List.set_cons_zero]) | ((with_reducible refine wv_val (d := 62) ?hd ?hw (.pointer (some ⟨w.heap.size, 33, none⟩)) ?hr ?_); (case hd => rfl); (case hw => kernel_rfl); (case hr => intro w; kernel_rfl); simp only [Act.put, List.setIfInBounds_toArray, List.set_cons_succ, List.set_cons_zero]) | ((with_reducible refine wv_elem (d := 63) ?hd ?hw 24 ag_bytes (.tmp 62) ?ho (⟨w.heap.size, 33, none⟩) ?hx (.slice pa na ca) ?hc ?_); (case hd => rfl); (case hw => kernel_rfl); (case ho => rfl); (case hx => kernel_rfl); (case hc => exact B4.cell (lock_ad _ _ _ LK.out)); simp only [Act.put, List.setIfInBounds_toArray, List.set_cons_succ, List.set_cons_zero]))
    refine C4.mono ?_
    rintro e w5 ⟨v4, rfl, h4, hb5⟩
    have Q5 := Q4.trans (hb5.mono Q4.size)
    have V4 : Kept _ := ⟨h4⟩
    have V15 : Kept _ := ⟨V14.out.under hb5⟩
    have V25 : Kept _ := ⟨V24.out.under hb5⟩
    have V35 : Kept _ := ⟨V3.out.under hb5⟩
    clear B4 Q4 hb5 h4 C4 V14 V24 V3
    go_wp2_with (first | ((with_reducible refine wv_str (d := 69) ?hd ?hw (.tmp 68) ?ho (v1) ?hx (X) ?hl ?_); (case hd => rfl); (case hw => kernel_rfl); (case ho => rfl); (case hx => kernel_rfl); (case hl => exact V15.out); simp only [Act.put, List.setIfInBounds_toArray, List.set_cons_succ, List.set_cons_zero]) | ((with_reducible refine wv_str (d := 71) ?hd ?hw (.tmp 70) ?ho (v2) ?hx (X) ?hl ?_); (case hd => rfl); (case hw => kernel_rfl); (case ho => rfl); (case hx => kernel_rfl); (case hl => exact V25.out); simp only [Act.put, List.setIfInBounds_toArray, List.set_cons_succ, List.set_cons_zero]) | ((with_reducible refine wv_val (d := 72) ?hd ?hw (.bool true) ?hr ?_); (case hd => rfl); (case hw => kernel_rfl); (case hr => intro w; exact run_eql_str (s := strOf X) rfl (by kernel_rfl) (by kernel_rfl) w); simp only [Act.put, List.setIfInBounds_toArray, List.set_cons_succ, List.set_cons_zero]) | ((with_reducible refine wv_val (d := 76) ?hd ?hw (.bool true) ?hr ?_); (case hd => rfl); (case hw => kernel_rfl); (case hr => intro w; exact run_eqlR rfl (by kernel_rfl) (by kernel_rfl) w); simp only [Act.put, List.setIfInBounds_toArray, List.set_cons_succ, List.set_cons_zero]) | ((with_reducible refine wv_str (d := 80) ?hd ?hw (.tmp 79) ?ho (v3) ?hx (Y) ?hl ?_); (case hd => rfl); (case hw => kernel_rfl); (case ho => rfl); (case hx => kernel_rfl); (case hl => exact V35.out); simp only [Act.put, List.setIfInBounds_toArray, List.set_cons_succ, List.set_cons_zero]) | ((with_reducible refine wv_str (d := 82) ?hd ?hw (.tmp 81) ?ho (v4) ?hx (Y) ?hl ?_); (case hd => rfl); (case hw => kernel_rfl); (case ho => rfl); (case hx => kernel_rfl); (case hl => exact V4.out); simp only [Act.put, List.setIfInBounds_toArray, List.set_cons_succ, List.set_cons_zero]) | ((with_reducible refine wv_val (d := 83) ?hd ?hw (.bool true) ?hr ?_); (case hd => rfl); (case hw => kernel_rfl); (case hr => intro w; exact run_eql_str (s := strOf Y) rfl (by kernel_rfl) (by kernel_rfl) w); simp only [Act.put, List.setIfInBounds_toArray, List.set_cons_succ, List.set_cons_zero]) | ((with_reducible refine wv_val (d := 88) ?hd ?hw (.bool true) ?hr ?_); (case hd => rfl); (case hw => kernel_rfl); (case hr => intro w; exact run_eqlR (r := r) rfl (by kernel_rfl) (by kernel_rfl) w); simp only [Act.put, List.setIfInBounds_toArray, List.set_cons_succ, List.set_cons_zero]))
    go_ret
    exact ⟨rfl, Q5⟩
end Go.Proofs.Ytpamcmhfimnfbaa.sh
