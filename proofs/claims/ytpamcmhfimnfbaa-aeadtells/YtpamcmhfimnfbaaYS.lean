/-
  The tag of bytes, by the reference.
-/
import Derived.Test.YtpamcmhfimnfbaaBase
import Derived.Test.YtpamcmhfimnfbaaYQ
import Derived.Deep.DeepCutAuto
namespace Go.Proofs.Ytpamcmhfimnfbaa.sh
open Go Go.RowKit
set_option linter.unusedVariables false
set_option linter.unusedSimpArgs false

theorem run_addVZ' {o : Oper} {a : Act} {x y : Operand} {i j z : Nat} (ho : o.op = .binOp .add 3 x y 3) (hx : a.eval x = .int .i64 (i : Int)) (hy : a.eval y = .int .i64 (j : Int)) (hz : z = i + j) (hi : z < 4611686018427387904) (w : World) : (execOp a.eval o).run Try.prog w = .ok (.value (.int .i64 (z : Int))) w := by
  subst hz
  exact run_addV ho hx hy hi w
theorem bound_set (X : List Nat) (k x y z j B : Nat) (hx : X[k]? = some x) (hB : ∀ t, X.getD t 0 ≤ if t < j then 510 else 255) (hk : k = j) (hy : y ≤ 255) (hz : z = x + y) : ∀ t, (X.set k z).getD t 0 ≤ if t < j + 1 then 510 else 255 := fun t => by
  have hxk := hB k
  rw [List.getD_eq_getElem?_getD, hx, if_neg (by omega)] at hxk
  have hxk : x ≤ 255 := hxk
  rw [List.getD_eq_getElem?_getD, List.getElem?_set]
  split
  · rename_i e
    subst e
    rw [if_pos (List.getElem?_eq_some_iff.1 hx).1, if_pos (by omega)]
    show z ≤ 510
    omega
  · have h := hB t
    rw [List.getD_eq_getElem?_getD] at h
    split
    · split at h <;> omega
    · rw [if_neg (by omega)] at h
      exact h
theorem bound_mul (L : List Nat) (k x y z c : Nat) (hx : L[k]? = some x) (hB : ∀ t, L.getD t 0 ≤ c * 131072) (hy : y ≤ 131072) (hz : z = x + y) : ∀ t, (L.set k z).getD t 0 ≤ (c + 1) * 131072 := fun t => by
  have hxk := hB k
  rw [List.getD_eq_getElem?_getD, hx] at hxk
  have hxk : x ≤ c * 131072 := hxk
  rw [List.getD_eq_getElem?_getD, List.getElem?_set]
  split
  · rename_i e
    subst e
    rw [if_pos (List.getElem?_eq_some_iff.1 hx).1, Option.getD_some, hz, Nat.add_mul]
    omega
  · have h := hB t
    rw [List.getD_eq_getElem?_getD] at h
    rw [Nat.add_mul]
    exact Nat.le_trans h (Nat.le_add_right _ _)
theorem prod_small (a b : Nat) (ha : a ≤ 511) (hb : b ≤ 255) : a * b ≤ 131072 := Nat.le_trans (Nat.mul_le_mul ha hb) (by decide)

set_option maxRecDepth 100000 in
set_option maxHeartbeats 16000000 in
theorem rSum6 (key b : List Nat) (v : Value) (w : World) (hk : key.length = 32) (hy : Bytes key) (hyb : Bytes b) (hv : BytesV v w b) (hlen : b.length ≤ 4000) :
    Calls Try.prog 29 #[.agg (ints .u8 key), v] w fun e w' => e = .returned (.agg (ints .u8 (tagL key b))) ∧ Below w.heap.size w w' := by
  obtain ⟨CL, hCL⟩ : ∃ l, l = clampL key := ⟨_, rfl⟩
  have LCL : Kept (CL.length = 16) := ⟨by rw [hCL]; exact clampL_len key hk⟩
  have GCL : Kept (∀ i x : Nat, i < 16 → key[i]? = some x → CL[i]? = some (if i % 4 = 3 then x % 16 else if i = 4 ∨ i = 8 ∨ i = 12 then x - x % 4 else x)) := ⟨fun i x h1 h2 => by rw [hCL]; exact clamp_at key hk hy i x h1 h2⟩
  have BCL : Kept (∀ i x : Nat, CL[i]? = some x → x < 256) := ⟨fun i x h => clampL_all key x (by rw [← hCL]; exact List.mem_of_getElem? h)⟩
  have VCL : Kept (val CL = rN key) := ⟨by rw [hCL]; rfl⟩
  have BR : Kept (rN key < 21267647932558653966460912964485513216) := ⟨rN_lt key hk hy⟩
  have LK : Kept _ := ⟨hk⟩
  have YK : Kept _ := ⟨hy⟩
  have YB : Kept _ := ⟨hyb⟩
  obtain ⟨TG, hTG⟩ : ∃ t, t = tagL key b := ⟨_, rfl⟩
  rw [← hTG]
  have LT : Kept (TG.length = 16) := ⟨by rw [hTG]; exact tagL_len _ _⟩
  have ETG : Kept _ := ⟨hTG⟩
  have KV : Kept _ := ⟨hv⟩
  obtain ⟨p, c, rfl, hlc, _⟩ := hv
  obtain ⟨n, hn⟩ : ∃ n, n = b.length := ⟨_, rfl⟩
  rw [← hn] at KV hlen hlc ⊢
  have EN : Kept _ := ⟨hn⟩
  obtain ⟨Z0, hZ0⟩ : ∃ Z, Z = List.replicate 16 0 := ⟨_, rfl⟩
  have LZ : Kept (Z0.length = 16) := ⟨by rw [hZ0]; rfl⟩
  have EI : Kept ((#[.int .u8 0, .int .u8 0, .int .u8 0, .int .u8 0, .int .u8 0, .int .u8 0, .int .u8 0, .int .u8 0, .int .u8 0, .int .u8 0, .int .u8 0, .int .u8 0, .int .u8 0, .int .u8 0, .int .u8 0, .int .u8 0] : Array Value) = ints .u8 Z0) := ⟨by rw [hZ0]; exact z16b_eq⟩
  obtain ⟨KK, hKK⟩ : ∃ k, k = (n + 15) / 16 := ⟨_, rfl⟩
  have EK : Kept _ := ⟨hKK⟩
  clear hCL hk hy hyb hTG hn hZ0 hKK
  go_enter Try.func29, Try.ntmps29
  go_wp2_with fail
  generalize hW : (w.alloc (.cells (ints .u8 key) 22)).alloc (.cells #[.int .u8 0, .int .u8 0, .int .u8 0, .int .u8 0, .int .u8 0, .int .u8 0, .int .u8 0, .int .u8 0, .int .u8 0, .int .u8 0, .int .u8 0, .int .u8 0, .int .u8 0, .int .u8 0, .int .u8 0, .int .u8 0] 43) = W
  have B0 : Blk W w.heap.size 22 (ints .u8 key) := by subst hW; exact (blk_new w _ _).alloc _
  have B1 : Blk W (w.heap.size + 1) 43 (ints .u8 Z0) := by subst hW; rw [← EI.out]; exact blk_top _ _ _ _ (by simp)
  have QB : Below w.heap.size w W := by subst hW; exact ((Below.refl _ _).alloc (Nat.le_refl _) _).alloc (by simp) _
  clear hW
  go_loopg [5, 6] 16 (fun k s5 s6 wr => ∃ i : Nat, i + k = 16 ∧ s6 = .int .i64 (i : Int) ∧ wr.ownsRow (w.heap.size + 2) 3 1 s5 i (irow (CL.take i)) ∧ Blk wr w.heap.size 22 (ints .u8 key) ∧ Blk wr (w.heap.size + 1) 43 (ints .u8 Z0) ∧ Below w.heap.size w wr)
  case atStart => exact ⟨0, by omega, rfl, World.ownsRow_nil _ _ _ _, B0, B1, QB⟩
  case round =>
    clear B0 B1 QB
    obtain ⟨i, hik, rfl, hown, A0, A1, HB⟩ := hrel
    have szr : w.heap.size + 1 < wr.heap.size := A1.lt
    by_cases hi16 : i < 16
    case pos =>
      have hlt : ((i : Int) < 16) := by omega
      have i32 : i < 32 := by omega
      obtain ⟨x, hx⟩ : ∃ x, key[i]? = some x := ⟨_, List.getElem?_eq_getElem (by have := LK.out; omega)⟩
      have x8 : x < 256 := YK.out i x hx
      have gl := GCL.out i x hi16 hx
      have KX : Kept (wr.cell? ⟨w.heap.size, i, none⟩ = some (.int .u8 (x : Int))) := ⟨A0.cell (ints_get hx)⟩
      obtain ⟨r, hr⟩ : ∃ r, r = i % 4 := ⟨_, rfl⟩
      rw [← hr] at gl
      have Hr : Kept _ := ⟨hr⟩
      have iB : i < 4611686018427387904 := by omega
      by_cases h3 : r = 3
      case pos =>
        have i4 : i ≠ 4 := by omega
        have i8 : i ≠ 8 := by omega
        have i12 : i ≠ 12 := by omega
        subst h3
        rw [if_pos rfl] at gl
        obtain ⟨y, hy⟩ : ∃ y, y = x % 16 := ⟨_, rfl⟩
        rw [← hy] at gl
        have Hy : Kept _ := ⟨hy⟩
        have y8 : y < 256 := by omega
        have EY : Kept _ := ⟨irow_take CL i y gl⟩
        clear gl hx hr hy
        go_wp2_with (first | ((with_reducible refine wv_val (d := 29) ?hd ?hw (.pointer (some ⟨w.heap.size, i, none⟩)) ?hr ?_); (case hd => rfl); (case hw => kernel_rfl); (case hr => intro w; exact run_idx (i := i) rfl (by kernel_rfl) (by kernel_rfl) Try.underlying22 i32 sz_u8 w); simp only [Act.put, List.setIfInBounds_toArray, List.set_cons_succ, List.set_cons_zero]) | ((with_reducible refine wv_elem (d := 30) ?hd ?hw 5 ag_u8 (.tmp 29) ?ho (⟨w.heap.size, i, none⟩) ?hx (.int .u8 (x : Int)) ?hc ?_); (case hd => rfl); (case hw => kernel_rfl); (case ho => rfl); (case hx => kernel_rfl); (case hc => exact KX.out); simp only [Act.put, List.setIfInBounds_toArray, List.set_cons_succ, List.set_cons_zero]) | ((with_reducible refine wv_val (d := 31) ?hd ?hw (.int .i64 ((x : Nat) : Int)) ?hr ?_); (case hd => rfl); (case hw => kernel_rfl); (case hr => intro w; exact run_conv83 rfl (by kernel_rfl) x8 w); simp only [Act.put, List.setIfInBounds_toArray, List.set_cons_succ, List.set_cons_zero]) | ((with_reducible refine wv_val (d := 33) ?hd ?hw (.int .i64 3) ?hr ?_); (case hd => rfl); (case hw => kernel_rfl); (case hr => intro w; exact run_rem4 (z := 3) rfl (by kernel_rfl) Hr.out iB w); simp only [Act.put, List.setIfInBounds_toArray, List.set_cons_succ, List.set_cons_zero]) | ((with_reducible refine wv_val (d := 36) ?hd ?hw (.int .i64 ((y : Nat) : Int)) ?hr ?_); (case hd => rfl); (case hw => kernel_rfl); (case hr => intro w; exact run_remC 16 rfl (by kernel_rfl) (by decide) Hy.out (by omega) w); simp only [Act.put, List.setIfInBounds_toArray, List.set_cons_succ, List.set_cons_zero]) | ((with_reducible refine wv_val (d := 38) ?hd ?hw (.bool false) ?hr ?_); (case hd => rfl); (case hw => kernel_rfl); (case hr => intro w; exact run_eqIF 4 rfl (by kernel_rfl) i4 w); simp only [Act.put, List.setIfInBounds_toArray, List.set_cons_succ, List.set_cons_zero]) | ((with_reducible refine wv_val (d := 41) ?hd ?hw (.bool false) ?hr ?_); (case hd => rfl); (case hw => kernel_rfl); (case hr => intro w; exact run_eqIF 8 rfl (by kernel_rfl) i8 w); simp only [Act.put, List.setIfInBounds_toArray, List.set_cons_succ, List.set_cons_zero]) | ((with_reducible refine wv_val (d := 45) ?hd ?hw (.bool false) ?hr ?_); (case hd => rfl); (case hw => kernel_rfl); (case hr => intro w; exact run_eqIF 12 rfl (by kernel_rfl) i12 w); simp only [Act.put, List.setIfInBounds_toArray, List.set_cons_succ, List.set_cons_zero]) | (at_builtin; refine wpList_app1 rfl _ _ rfl (w.heap.size + 2) _ _ _ rfl (hown.alloc _) wr.heap.size (y : Int) rfl ?c1 ?c3 ?c5 ?_))
        case c1 => simp
        case c3 => omega
        case c5 => first | omega | (simp; omega)
        intro v' w1 hown' hgrow
        have hb1 : Below (w.heap.size + 2) (wr.alloc (.cells #[.int .i64 (y : Int)] 3)) w1 := grown_below hgrow (hown.alloc _) (Nat.le_refl _) (by simp; omega)
        have A0' := (A0.alloc (.cells #[.int .i64 (y : Int)] 3)).below hb1 (by omega)
        have A1' := (A1.alloc (.cells #[.int .i64 (y : Int)] 3)).below hb1 (by omega)
        have HB' := (HB.alloc HB.size _).trans (hb1.mono (by omega))
        rw [← EY.out] at hown'
        clear A0 A1 HB hown hgrow hb1 KX
        go_wp2_with fail
        go_roundg (gk - 1)
        case measure => omega
        case rel => exact ⟨i + 1, by omega, by first | (simp; done) | go_num, hown', A0', A1', HB'⟩
      case neg =>
        rw [if_neg h3] at gl
        have h3i : ¬ (r : Int) = 3 := by omega
        by_cases h4 : i = 4 ∨ i = 8 ∨ i = 12
        case pos =>
          rw [if_pos h4] at gl
          obtain ⟨q, hq⟩ : ∃ q, q = x % 4 := ⟨_, rfl⟩
          obtain ⟨y, hy⟩ : ∃ y, y = x - q := ⟨_, rfl⟩
          rw [← hq, ← hy] at gl
          have Hq : Kept _ := ⟨hq⟩
          have Hy : Kept _ := ⟨hy⟩
          have qx : q ≤ x := by rw [hq]; exact Nat.mod_le _ _
          have y8 : y < 256 := by omega
          have EY : Kept _ := ⟨irow_take CL i y gl⟩
          have x62 : x < 4611686018427387904 := by omega
          clear gl hx hr hq hy
          rcases h4 with h4 | h4 | h4
          · subst h4
            go_wp2_with (first | ((with_reducible refine wv_val (d := 29) ?hd ?hw (.pointer (some ⟨w.heap.size, 4, none⟩)) ?hr ?_); (case hd => rfl); (case hw => kernel_rfl); (case hr => intro w; exact run_idx (i := 4) rfl (by kernel_rfl) (by kernel_rfl) Try.underlying22 i32 sz_u8 w); simp only [Act.put, List.setIfInBounds_toArray, List.set_cons_succ, List.set_cons_zero]) | ((with_reducible refine wv_elem (d := 30) ?hd ?hw 5 ag_u8 (.tmp 29) ?ho (⟨w.heap.size, 4, none⟩) ?hx (.int .u8 (x : Int)) ?hc ?_); (case hd => rfl); (case hw => kernel_rfl); (case ho => rfl); (case hx => kernel_rfl); (case hc => exact KX.out); simp only [Act.put, List.setIfInBounds_toArray, List.set_cons_succ, List.set_cons_zero]) | ((with_reducible refine wv_val (d := 31) ?hd ?hw (.int .i64 ((x : Nat) : Int)) ?hr ?_); (case hd => rfl); (case hw => kernel_rfl); (case hr => intro w; exact run_conv83 rfl (by kernel_rfl) x8 w); simp only [Act.put, List.setIfInBounds_toArray, List.set_cons_succ, List.set_cons_zero]) | ((with_reducible refine wv_val (d := 33) ?hd ?hw (.int .i64 ((r : Nat) : Int)) ?hr ?_); (case hd => rfl); (case hw => kernel_rfl); (case hr => intro w; exact run_rem4 (i := 4) rfl (by kernel_rfl) Hr.out iB w); simp only [Act.put, List.setIfInBounds_toArray, List.set_cons_succ, List.set_cons_zero]) | ((with_reducible refine wv_val (d := 49) ?hd ?hw (.int .i64 ((q : Nat) : Int)) ?hr ?_); (case hd => rfl); (case hw => kernel_rfl); (case hr => intro w; exact run_rem4 rfl (by kernel_rfl) Hq.out x62 w); simp only [Act.put, List.setIfInBounds_toArray, List.set_cons_succ, List.set_cons_zero]) | ((with_reducible refine wv_val (d := 50) ?hd ?hw (.int .i64 ((y : Nat) : Int)) ?hr ?_); (case hd => rfl); (case hw => kernel_rfl); (case hr => intro w; exact run_subV rfl (by kernel_rfl) (by kernel_rfl) qx x62 Hy.out w); simp only [Act.put, List.setIfInBounds_toArray, List.set_cons_succ, List.set_cons_zero]) | (at_builtin; refine wpList_app1 rfl _ _ rfl (w.heap.size + 2) _ _ _ rfl (hown.alloc _) wr.heap.size (y : Int) rfl ?c1 ?c3 ?c5 ?_))
            case c1 => simp
            case c3 => omega
            case c5 => first | omega | (simp; omega)
            intro v' w1 hown' hgrow
            have hb1 : Below (w.heap.size + 2) (wr.alloc (.cells #[.int .i64 (y : Int)] 3)) w1 := grown_below hgrow (hown.alloc _) (Nat.le_refl _) (by simp; omega)
            have A0' := (A0.alloc (.cells #[.int .i64 (y : Int)] 3)).below hb1 (by omega)
            have A1' := (A1.alloc (.cells #[.int .i64 (y : Int)] 3)).below hb1 (by omega)
            have HB' := (HB.alloc HB.size _).trans (hb1.mono (by omega))
            rw [← EY.out] at hown'
            clear A0 A1 HB hown hgrow hb1 KX
            go_wp2_with fail
            go_roundg (gk - 1)
            case measure => omega
            case rel => exact ⟨4 + 1, by omega, by first | (simp; done) | go_num, hown', A0', A1', HB'⟩
          · subst h4
            go_wp2_with (first | ((with_reducible refine wv_val (d := 29) ?hd ?hw (.pointer (some ⟨w.heap.size, 8, none⟩)) ?hr ?_); (case hd => rfl); (case hw => kernel_rfl); (case hr => intro w; exact run_idx (i := 8) rfl (by kernel_rfl) (by kernel_rfl) Try.underlying22 i32 sz_u8 w); simp only [Act.put, List.setIfInBounds_toArray, List.set_cons_succ, List.set_cons_zero]) | ((with_reducible refine wv_elem (d := 30) ?hd ?hw 5 ag_u8 (.tmp 29) ?ho (⟨w.heap.size, 8, none⟩) ?hx (.int .u8 (x : Int)) ?hc ?_); (case hd => rfl); (case hw => kernel_rfl); (case ho => rfl); (case hx => kernel_rfl); (case hc => exact KX.out); simp only [Act.put, List.setIfInBounds_toArray, List.set_cons_succ, List.set_cons_zero]) | ((with_reducible refine wv_val (d := 31) ?hd ?hw (.int .i64 ((x : Nat) : Int)) ?hr ?_); (case hd => rfl); (case hw => kernel_rfl); (case hr => intro w; exact run_conv83 rfl (by kernel_rfl) x8 w); simp only [Act.put, List.setIfInBounds_toArray, List.set_cons_succ, List.set_cons_zero]) | ((with_reducible refine wv_val (d := 33) ?hd ?hw (.int .i64 ((r : Nat) : Int)) ?hr ?_); (case hd => rfl); (case hw => kernel_rfl); (case hr => intro w; exact run_rem4 (i := 8) rfl (by kernel_rfl) Hr.out iB w); simp only [Act.put, List.setIfInBounds_toArray, List.set_cons_succ, List.set_cons_zero]) | ((with_reducible refine wv_val (d := 49) ?hd ?hw (.int .i64 ((q : Nat) : Int)) ?hr ?_); (case hd => rfl); (case hw => kernel_rfl); (case hr => intro w; exact run_rem4 rfl (by kernel_rfl) Hq.out x62 w); simp only [Act.put, List.setIfInBounds_toArray, List.set_cons_succ, List.set_cons_zero]) | ((with_reducible refine wv_val (d := 50) ?hd ?hw (.int .i64 ((y : Nat) : Int)) ?hr ?_); (case hd => rfl); (case hw => kernel_rfl); (case hr => intro w; exact run_subV rfl (by kernel_rfl) (by kernel_rfl) qx x62 Hy.out w); simp only [Act.put, List.setIfInBounds_toArray, List.set_cons_succ, List.set_cons_zero]) | (at_builtin; refine wpList_app1 rfl _ _ rfl (w.heap.size + 2) _ _ _ rfl (hown.alloc _) wr.heap.size (y : Int) rfl ?c1 ?c3 ?c5 ?_))
            case c1 => simp
            case c3 => omega
            case c5 => first | omega | (simp; omega)
            intro v' w1 hown' hgrow
            have hb1 : Below (w.heap.size + 2) (wr.alloc (.cells #[.int .i64 (y : Int)] 3)) w1 := grown_below hgrow (hown.alloc _) (Nat.le_refl _) (by simp; omega)
            have A0' := (A0.alloc (.cells #[.int .i64 (y : Int)] 3)).below hb1 (by omega)
            have A1' := (A1.alloc (.cells #[.int .i64 (y : Int)] 3)).below hb1 (by omega)
            have HB' := (HB.alloc HB.size _).trans (hb1.mono (by omega))
            rw [← EY.out] at hown'
            clear A0 A1 HB hown hgrow hb1 KX
            go_wp2_with fail
            go_roundg (gk - 1)
            case measure => omega
            case rel => exact ⟨8 + 1, by omega, by first | (simp; done) | go_num, hown', A0', A1', HB'⟩
          · subst h4
            go_wp2_with (first | ((with_reducible refine wv_val (d := 29) ?hd ?hw (.pointer (some ⟨w.heap.size, 12, none⟩)) ?hr ?_); (case hd => rfl); (case hw => kernel_rfl); (case hr => intro w; exact run_idx (i := 12) rfl (by kernel_rfl) (by kernel_rfl) Try.underlying22 i32 sz_u8 w); simp only [Act.put, List.setIfInBounds_toArray, List.set_cons_succ, List.set_cons_zero]) | ((with_reducible refine wv_elem (d := 30) ?hd ?hw 5 ag_u8 (.tmp 29) ?ho (⟨w.heap.size, 12, none⟩) ?hx (.int .u8 (x : Int)) ?hc ?_); (case hd => rfl); (case hw => kernel_rfl); (case ho => rfl); (case hx => kernel_rfl); (case hc => exact KX.out); simp only [Act.put, List.setIfInBounds_toArray, List.set_cons_succ, List.set_cons_zero]) | ((with_reducible refine wv_val (d := 31) ?hd ?hw (.int .i64 ((x : Nat) : Int)) ?hr ?_); (case hd => rfl); (case hw => kernel_rfl); (case hr => intro w; exact run_conv83 rfl (by kernel_rfl) x8 w); simp only [Act.put, List.setIfInBounds_toArray, List.set_cons_succ, List.set_cons_zero]) | ((with_reducible refine wv_val (d := 33) ?hd ?hw (.int .i64 ((r : Nat) : Int)) ?hr ?_); (case hd => rfl); (case hw => kernel_rfl); (case hr => intro w; exact run_rem4 (i := 12) rfl (by kernel_rfl) Hr.out iB w); simp only [Act.put, List.setIfInBounds_toArray, List.set_cons_succ, List.set_cons_zero]) | ((with_reducible refine wv_val (d := 49) ?hd ?hw (.int .i64 ((q : Nat) : Int)) ?hr ?_); (case hd => rfl); (case hw => kernel_rfl); (case hr => intro w; exact run_rem4 rfl (by kernel_rfl) Hq.out x62 w); simp only [Act.put, List.setIfInBounds_toArray, List.set_cons_succ, List.set_cons_zero]) | ((with_reducible refine wv_val (d := 50) ?hd ?hw (.int .i64 ((y : Nat) : Int)) ?hr ?_); (case hd => rfl); (case hw => kernel_rfl); (case hr => intro w; exact run_subV rfl (by kernel_rfl) (by kernel_rfl) qx x62 Hy.out w); simp only [Act.put, List.setIfInBounds_toArray, List.set_cons_succ, List.set_cons_zero]) | (at_builtin; refine wpList_app1 rfl _ _ rfl (w.heap.size + 2) _ _ _ rfl (hown.alloc _) wr.heap.size (y : Int) rfl ?c1 ?c3 ?c5 ?_))
            case c1 => simp
            case c3 => omega
            case c5 => first | omega | (simp; omega)
            intro v' w1 hown' hgrow
            have hb1 : Below (w.heap.size + 2) (wr.alloc (.cells #[.int .i64 (y : Int)] 3)) w1 := grown_below hgrow (hown.alloc _) (Nat.le_refl _) (by simp; omega)
            have A0' := (A0.alloc (.cells #[.int .i64 (y : Int)] 3)).below hb1 (by omega)
            have A1' := (A1.alloc (.cells #[.int .i64 (y : Int)] 3)).below hb1 (by omega)
            have HB' := (HB.alloc HB.size _).trans (hb1.mono (by omega))
            rw [← EY.out] at hown'
            clear A0 A1 HB hown hgrow hb1 KX
            go_wp2_with fail
            go_roundg (gk - 1)
            case measure => omega
            case rel => exact ⟨12 + 1, by omega, by first | (simp; done) | go_num, hown', A0', A1', HB'⟩
        case neg =>
          rw [if_neg h4] at gl
          have i4 : i ≠ 4 := by omega
          have i8 : i ≠ 8 := by omega
          have i12 : i ≠ 12 := by omega
          obtain ⟨y, hy⟩ : ∃ y, y = x := ⟨_, rfl⟩
          subst hy
          have y8 : y < 256 := x8
          have EY : Kept _ := ⟨irow_take CL i y gl⟩
          clear gl hx hr
          go_wp2_with (first | ((with_reducible refine wv_val (d := 29) ?hd ?hw (.pointer (some ⟨w.heap.size, i, none⟩)) ?hr ?_); (case hd => rfl); (case hw => kernel_rfl); (case hr => intro w; exact run_idx (i := i) rfl (by kernel_rfl) (by kernel_rfl) Try.underlying22 i32 sz_u8 w); simp only [Act.put, List.setIfInBounds_toArray, List.set_cons_succ, List.set_cons_zero]) | ((with_reducible refine wv_elem (d := 30) ?hd ?hw 5 ag_u8 (.tmp 29) ?ho (⟨w.heap.size, i, none⟩) ?hx (.int .u8 (y : Int)) ?hc ?_); (case hd => rfl); (case hw => kernel_rfl); (case ho => rfl); (case hx => kernel_rfl); (case hc => exact KX.out); simp only [Act.put, List.setIfInBounds_toArray, List.set_cons_succ, List.set_cons_zero]) | ((with_reducible refine wv_val (d := 31) ?hd ?hw (.int .i64 ((y : Nat) : Int)) ?hr ?_); (case hd => rfl); (case hw => kernel_rfl); (case hr => intro w; exact run_conv83 rfl (by kernel_rfl) x8 w); simp only [Act.put, List.setIfInBounds_toArray, List.set_cons_succ, List.set_cons_zero]) | ((with_reducible refine wv_val (d := 33) ?hd ?hw (.int .i64 ((r : Nat) : Int)) ?hr ?_); (case hd => rfl); (case hw => kernel_rfl); (case hr => intro w; exact run_rem4 rfl (by kernel_rfl) Hr.out iB w); simp only [Act.put, List.setIfInBounds_toArray, List.set_cons_succ, List.set_cons_zero]) | ((with_reducible refine wv_val (d := 38) ?hd ?hw (.bool false) ?hr ?_); (case hd => rfl); (case hw => kernel_rfl); (case hr => intro w; exact run_eqIF 4 rfl (by kernel_rfl) i4 w); simp only [Act.put, List.setIfInBounds_toArray, List.set_cons_succ, List.set_cons_zero]) | ((with_reducible refine wv_val (d := 41) ?hd ?hw (.bool false) ?hr ?_); (case hd => rfl); (case hw => kernel_rfl); (case hr => intro w; exact run_eqIF 8 rfl (by kernel_rfl) i8 w); simp only [Act.put, List.setIfInBounds_toArray, List.set_cons_succ, List.set_cons_zero]) | ((with_reducible refine wv_val (d := 45) ?hd ?hw (.bool false) ?hr ?_); (case hd => rfl); (case hw => kernel_rfl); (case hr => intro w; exact run_eqIF 12 rfl (by kernel_rfl) i12 w); simp only [Act.put, List.setIfInBounds_toArray, List.set_cons_succ, List.set_cons_zero]) | (at_builtin; refine wpList_app1 rfl _ _ rfl (w.heap.size + 2) _ _ _ rfl (hown.alloc _) wr.heap.size (y : Int) rfl ?c1 ?c3 ?c5 ?_))
          case c1 => simp
          case c3 => omega
          case c5 => first | omega | (simp; omega)
          intro v' w1 hown' hgrow
          have hb1 : Below (w.heap.size + 2) (wr.alloc (.cells #[.int .i64 (y : Int)] 3)) w1 := grown_below hgrow (hown.alloc _) (Nat.le_refl _) (by simp; omega)
          have A0' := (A0.alloc (.cells #[.int .i64 (y : Int)] 3)).below hb1 (by omega)
          have A1' := (A1.alloc (.cells #[.int .i64 (y : Int)] 3)).below hb1 (by omega)
          have HB' := (HB.alloc HB.size _).trans (hb1.mono (by omega))
          rw [← EY.out] at hown'
          clear A0 A1 HB hown hgrow hb1 KX
          go_wp2_with fail
          go_roundg (gk - 1)
          case measure => omega
          case rel => exact ⟨i + 1, by omega, by first | (simp; done) | go_num, hown', A0', A1', HB'⟩
    case neg =>
      have hlt : ¬ ((i : Int) < 16) := by omega
      rw [show i = 16 by omega, show CL.take 16 = CL from List.take_of_length_le (by rw [LCL.out]; exact Nat.le_refl _)] at hown
      obtain ⟨g5, cap5, rfl, O5⟩ := own_oi hown LCL.out (by decide)
      clear hown GCL
      have sz5 : g5 < wr.heap.size := O5.lt
      obtain ⟨Z17, hZ17⟩ : ∃ Z : List Nat, Z = List.replicate 17 0 := ⟨_, rfl⟩
      have EZ17 : Kept (digs 0 17 = Z17) := ⟨by rw [hZ17]; exact digs_zero 17⟩
      have HZ17 : Kept _ := ⟨hZ17⟩
      have O8 : OI (w.heap.size + 2) wr.heap.size 17 17 (digs 0 17) (wr.alloc (.cells (ints .i64 Z17) 3)) := by
        rw [EZ17.out]
        exact oi_blk (blk_new wr _ _) (by omega) (by rw [hZ17]; rfl) (by unfold maxLen; decide)
      have O5' := O5.alloc (.cells (ints .i64 Z17) 3)
      have A0' := A0.alloc (.cells (ints .i64 Z17) 3)
      have A1' := A1.alloc (.cells (ints .i64 Z17) 3)
      have HB' := HB.alloc HB.size (.cells (ints .i64 Z17) 3)
      clear O5 A0 A1 HB hZ17 EZ17
      go_wp2_with (first | ((refine wl_mkI 17 Z17 HZ17.out (by kernel_rfl) rfl (mk17 _) ?_); simp only [Act.put, List.setIfInBounds_toArray, List.set_cons_succ, List.set_cons_zero]))
      generalize hW2 : wr.alloc (.cells (ints .i64 Z17) 3) = wa at *
      generalize hg8 : wr.heap.size = g80 at *
      clear hW2 hg8
      go_loopg [8, 9] KK (fun gk s8 s9 wr => ∃ (k N g8 cap8 t : Nat), k + gk = KK ∧ Kept (t = 16 * k) ∧ s8 = .slice (some ⟨g8, 0, none⟩) 17 cap8 ∧ s9 = .int .i64 (t : Int) ∧ OI (w.heap.size + 2) g8 17 cap8 (digs N 17) wr ∧ Kept (N < 1361129467683753853853498429727072845824) ∧ Kept (N % 1361129467683753853853498429727072845819 = polyT (rN key) b k % 1361129467683753853853498429727072845819) ∧ OI (w.heap.size + 2) g5 16 cap5 CL wr ∧ Blk wr w.heap.size 22 (ints .u8 key) ∧ Blk wr (w.heap.size + 1) 43 (ints .u8 Z0) ∧ Below w.heap.size w wr)
      case atStart => exact ⟨0, 0, g80, 17, 0, by omega, ⟨by omega⟩, rfl, rfl, O8, ⟨by decide⟩, ⟨rfl⟩, O5', A0', A1', HB'⟩
      case round =>
        clear O8 O5' A0' A1' HB'
        obtain ⟨k, N, g8, cap8, t, hkk, Et, rfl, rfl, O8, NB, NP, O5, A0, A1, HB⟩ := hrel
        have sz1 : w.heap.size + 1 < wr.heap.size := A1.lt
        have s5 : g5 < wr.heap.size := O5.lt
        have b5 : w.heap.size + 2 ≤ g5 := O5.1
        have KKB : KK ≤ 250 := by have := EK.out; omega
        have tB : t ≤ 4000 := by have := Et.out; omega
        by_cases htn : t < n
        case pos =>
          have htni : (t : Int) < (n : Int) := by omega
          have hkK1 : k + 1 ≤ KK := by have := Et.out; have := EK.out; omega
          obtain ⟨t16, ht16⟩ : ∃ x, x = t + 16 := ⟨_, rfl⟩
          obtain ⟨en, hen⟩ : ∃ x, x = min t16 n := ⟨_, rfl⟩
          obtain ⟨z, hz⟩ : ∃ x, x = en - t := ⟨_, rfl⟩
          obtain ⟨pc, hpc⟩ : ∃ l, l = (b.drop (16 * k)).take 16 := ⟨_, rfl⟩
          have z16 : z ≤ 16 := by omega
          have z0 : 0 < z := by omega
          have ez : en = t + z := by omega
          have enn : en ≤ n := by omega
          have EZ : Kept _ := ⟨ez⟩
          have lpc : Kept (pc.length = z) := ⟨by rw [hpc, List.length_take, List.length_drop, ← EN.out, ← Et.out]; omega⟩
          have ypc : Kept (Bytes pc) := ⟨by rw [hpc]; exact (YB.out.drop _).take _⟩
          have gpc : Kept (∀ j x : Nat, pc[j]? = some x → b[t + j]? = some x) := ⟨fun j x h => by
            rw [hpc, List.getElem?_take] at h
            split at h
            · rw [List.getElem?_drop, ← Et.out] at h
              exact h
            · cases h⟩
          have NX : Kept ((N + val (pc ++ [1])) * rN key % 1361129467683753853853498429727072845819 = polyT (rN key) b (k + 1) % 1361129467683753853853498429727072845819) := ⟨by rw [hpc]; exact poly_next (rN key) b k N NP.out⟩
          have PL : Kept (val (pc ++ [1]) < 680564733841876926926749214863536422912) := ⟨piece_lt pc ypc.out (by rw [lpc.out]; exact z16)⟩
          obtain ⟨A, hA⟩ : ∃ A, p = some A := by
            obtain ⟨A, h1, _⟩ := bytes_at KV.out (i := t) (List.getElem?_eq_getElem (by have := EN.out; omega))
            exact ⟨A, h1⟩
          subst hA
          have Ht16 : Kept _ := ⟨ht16⟩
          have Hen : Kept _ := ⟨hen⟩
          have Hz : Kept _ := ⟨hz⟩
          have t16B : t16 ≤ 4020 := by omega
          have R67 := row_emptyI (base := wr.heap.size) wr (Nat.le_refl _)
          have V68 : Kept (IntsV .i64 (.slice (some ⟨g8, 0, none⟩) 17 cap8) (wr.alloc (.cells #[] 3)) (digs N 17)) := ⟨(O8.alloc (.cells #[] 3)).ints⟩
          have L17 : Kept (([] : List Nat).length + (digs N 17).length ≤ 8796093022208) := ⟨by rw [digs_len]; decide⟩
          clear ht16 hen hz hpc ez
          go_wp2_with (first | ((with_reducible refine wv_val (d := 63) ?hd ?hw (.int .i64 ((t16 : Nat) : Int)) ?hr ?_); (case hd => rfl); (case hw => kernel_rfl); (case hr => intro w; exact run_addZ 16 rfl (by kernel_rfl) Ht16.out (by omega) w); simp only [Act.put, List.setIfInBounds_toArray, List.set_cons_succ, List.set_cons_zero]) | ((with_reducible refine wv_val (d := 66) ?hd ?hw (.int .i64 ((en : Nat) : Int)) ?hr ?_); (case hd => rfl); (case hw => kernel_rfl); (case hr => intro w; exact run_min2 rfl (by kernel_rfl) (by kernel_rfl) Hen.out w); simp only [Act.put, List.setIfInBounds_toArray, List.set_cons_succ, List.set_cons_zero]) | (at_builtin; refine wl_app (by kernel_rfl) (.tmp 67) (.tmp 68) 78 3 .i64 8 rfl Try.underlying78 inf_int (by decide) (wr.heap.size) ([]) (digs N 17) (.slice (some ⟨wr.heap.size, 0, none⟩) 0 0) (.slice (some ⟨g8, 0, none⟩) 17 cap8) (by kernel_rfl) (by kernel_rfl) R67 V68.out L17.out (by simp) ?_))
          intro v11 w1 R11 G11 _
          have B11 : Below wr.heap.size wr w1 := ((Below.refl _ _).alloc (Nat.le_refl _) _).trans (grown_mono G11 (by simp) (fun b hb => by cases hb; exact Nat.le_refl _))
          have R11 : Row wr.heap.size 3 .i64 (digs N 17) v11 w1 := R11
          obtain ⟨g11, cap11, ev11, O11⟩ := oi_row R11 (by rw [digs_len]; decide)
          rw [digs_len] at ev11 O11
          subst ev11
          have g11r : wr.heap.size ≤ g11 := O11.1
          have O5' := O5.under B11
          have A0' := A0.under B11
          have A1' := A1.under B11
          have HB' := HB.trans (B11.mono HB.size)
          clear R67 V68 R11 G11 B11 O5 A0 A1 HB O8 L17
          obtain ⟨szw, hszw⟩ : ∃ s, s = wr.heap.size := ⟨_, rfl⟩
          rw [← hszw] at O11 g11r s5 sz1
          clear hszw
          have EV0 : Kept (val (digs N 17) = N + val (pc.take 0)) := ⟨by rw [val_digs, List.take_zero, Nat.mod_eq_of_lt (Nat.lt_trans NB.out (by decide))]; rfl⟩
          have BX0 : Kept (∀ u, (digs N 17).getD u 0 ≤ if u < 0 then 510 else 255) := ⟨fun u => by
            rw [if_neg (by omega)]
            exact Nat.le_of_lt_succ (getD_lt (digs_bytes N 17) u)⟩
          go_wp2_with fail
          go_loopg [12] z (fun k3 s12 wr => ∃ (j i : Nat) (X : List Nat), j + k3 = z ∧ Kept (i = t + j) ∧ s12 = .int .i64 (i : Int) ∧ OI szw g11 17 cap11 X wr ∧ Kept (val X = N + val (pc.take j)) ∧ Kept (∀ u, X.getD u 0 ≤ if u < j then 510 else 255) ∧ OI (w.heap.size + 2) g5 16 cap5 CL wr ∧ Blk wr w.heap.size 22 (ints .u8 key) ∧ Blk wr (w.heap.size + 1) 43 (ints .u8 Z0) ∧ Below w.heap.size w wr)
          case atStart => exact ⟨0, t, _, by omega, ⟨by omega⟩, rfl, O11, EV0, BX0, O5', A0', A1', HB'⟩
          case round =>
            clear O11 O5' A0' A1' HB' EV0 BX0
            obtain ⟨j, i, X, hjz, Hi, rfl, OX, EV, BX, O5, A0, A1, HB⟩ := hrel
            have hi_ := Hi.out
            have ez := EZ.out
            by_cases hjl : j < z
            case pos =>
              have hie : (i : Int) < (en : Int) := by omega
              have hin : i < n := by omega
              have j17 : j < 17 := by omega
              have iB : i ≤ 4020 := by omega
              have tle : t ≤ i := by omega
              obtain ⟨bj, hbj⟩ : ∃ x, pc[j]? = some x := ⟨_, List.getElem?_eq_getElem (by rw [lpc.out]; exact hjl)⟩
              obtain ⟨xj, hxj⟩ : ∃ x, X[j]? = some x := ⟨_, List.getElem?_eq_getElem (by rw [OX.len]; exact j17)⟩
              obtain ⟨zz, hzz⟩ : ∃ x, x = xj + bj := ⟨_, rfl⟩
              obtain ⟨i1, hi1⟩ : ∃ x, x = i + 1 := ⟨_, rfl⟩
              have bj8 : bj < 256 := ypc.out j bj hbj
              have GX : Kept _ := ⟨hxj⟩
              have CB : Kept (∀ w', Below wr.heap.size wr w' → w'.cell? (A.add i) = some (.int .u8 (bj : Int))) := ⟨fun w' hb => bytes_cell (KV.out.under (HB.trans (hb.mono HB.size))) (by rw [hi_]; exact gpc.out j bj hbj)⟩
              have Hzz : Kept _ := ⟨hzz⟩
              have Hi1 : Kept _ := ⟨hi1⟩
              have Hj : Kept (j = i - t) := ⟨by omega⟩
              have EV2 : Kept (val (X.set j zz) = N + val (pc.take (j + 1))) := ⟨by rw [val_add_at X j xj bj zz hxj hzz, EV.out, val_take_at pc j bj hbj, Nat.add_assoc]⟩
              have BX2 : Kept (∀ u, (X.set j zz).getD u 0 ≤ if u < j + 1 then 510 else 255) := ⟨bound_set X j xj bj zz j 0 hxj BX.out rfl (by omega) hzz⟩
              have xjB : xj ≤ 255 := by
                have := BX.out j
                rw [List.getD_eq_getElem?_getD, hxj, if_neg (by omega)] at this
                exact this
              have zzB : zz ≤ 600 := by omega
              have i1B : i1 ≤ 4021 := by omega
              have Hi2 : Kept (i1 = t + (j + 1)) := ⟨by omega⟩
              clear hbj hxj hzz hi1 hi_ EV BX ez
              go_wp2_with (first | ((with_reducible refine wv_val (d := 78) ?hd ?hw (.int .i64 ((j : Nat) : Int)) ?hr ?_); (case hd => rfl); (case hw => kernel_rfl); (case hr => intro w; exact run_subV rfl (by kernel_rfl) (by kernel_rfl) tle (by omega) Hj.out w); simp only [Act.put, List.setIfInBounds_toArray, List.set_cons_succ, List.set_cons_zero]))
              refine region_ownL wr 13 [(79, .slice (some ⟨g11, 0, none⟩) 17 cap11), (80, .int .i64 ((j : Nat) : Int)), (81, .slice (some ⟨g11, 0, none⟩) 17 cap11), (82, .int .i64 ((j : Nat) : Int)), (83, .pointer (some ⟨g11, j, none⟩)), (84, .int .i64 ((xj : Nat) : Int)), (85, .slice (some A) n c), (86, .int .i64 ((i : Nat) : Int)), (87, .pointer (some (A.add i))), (88, .int .u8 (bj : Int)), (89, .int .i64 ((bj : Nat) : Int)), (90, .int .i64 ((zz : Nat) : Int)), (91, .pointer (some ⟨g11, j, none⟩))] [] [] [] rfl (by kernel_rfl) (by kernel_rfl) (by kernel_rfl) (by kernel_rfl) (by kernel_rfl) (by kernel_rfl) (by kernel_rfl) (by kernel_rfl) (by kernel_rfl) (by kernel_rfl) (by kernel_rfl) ?hst1 ?hst2 (Below.refl _ _) (fun hA => ⟨ow_val hA (wants_none rfl) 79 (.slice (some ⟨g11, 0, none⟩) 17 cap11) (by kernel_rfl) rfl rfl rfl rfl (by kernel_rfl) (fun w => by kernel_rfl), ow_val hA (wants_none rfl) 80 (.int .i64 ((j : Nat) : Int)) (by kernel_rfl) rfl rfl rfl rfl (by kernel_rfl) (fun w => by kernel_rfl), ow_val hA (wants_none rfl) 81 (.slice (some ⟨g11, 0, none⟩) 17 cap11) (by kernel_rfl) rfl rfl rfl rfl (by kernel_rfl) (fun w => by kernel_rfl), ow_val hA (wants_none rfl) 82 (.int .i64 ((j : Nat) : Int)) (by kernel_rfl) rfl rfl rfl rfl (by kernel_rfl) (fun w => by kernel_rfl), ow_val hA (wants_none rfl) 83 (.pointer (some ⟨g11, j, none⟩)) (by kernel_rfl) rfl rfl rfl rfl (by kernel_rfl) (fun w => run_idxO (i := j) (l := 17) (c := cap11) rfl (by kernel_rfl) (by kernel_rfl) Try.underlying78 j17 sz_int w), ow_elem hA (wants_none rfl) 84 (.int .i64 ((xj : Nat) : Int)) (by kernel_rfl) rfl rfl rfl rfl (by kernel_rfl) 3 ag_int (.tmp 83) rfl (⟨g11, j, none⟩) (by kernel_rfl) (fun w1 hb => (OX.under hb).cell GX.out), ow_val hA (wants_none rfl) 85 (.slice (some A) n c) (by kernel_rfl) rfl rfl rfl rfl (by kernel_rfl) (fun w => by kernel_rfl), ow_val hA (wants_none rfl) 86 (.int .i64 ((i : Nat) : Int)) (by kernel_rfl) rfl rfl rfl rfl (by kernel_rfl) (fun w => by kernel_rfl), ow_val hA (wants_none rfl) 87 (.pointer (some (A.add i))) (by kernel_rfl) rfl rfl rfl rfl (by kernel_rfl) (fun w => run_idxS (i := i) (l := n) (c := c) rfl (by kernel_rfl) (by kernel_rfl) Try.underlying24 hin sz_u8 w), ow_elem hA (wants_none rfl) 88 (.int .u8 (bj : Int)) (by kernel_rfl) rfl rfl rfl rfl (by kernel_rfl) 5 ag_u8 (.tmp 87) rfl (A.add i) (by kernel_rfl) (fun w1 hb => CB.out w1 hb), ow_val hA (wants_none rfl) 89 (.int .i64 ((bj : Nat) : Int)) (by kernel_rfl) rfl rfl rfl rfl (by kernel_rfl) (fun w => run_conv83 rfl (by kernel_rfl) bj8 w), ow_val hA (wants_none rfl) 90 (.int .i64 ((zz : Nat) : Int)) (by kernel_rfl) rfl rfl rfl rfl (by kernel_rfl) (fun w => run_addVZ' rfl (by kernel_rfl) (by kernel_rfl) Hzz.out (by omega) w), ow_val hA (wants_none rfl) 91 (.pointer (some ⟨g11, j, none⟩)) (by kernel_rfl) rfl rfl rfl rfl (by kernel_rfl) (fun w => run_idxO (i := j) (l := 17) (c := cap11) rfl (by kernel_rfl) (by kernel_rfl) Try.underlying78 j17 sz_int w), trivial⟩) ?_
              case hst1 => intro q hq; cases hq
              case hst2 => intro q hq; cases hq
              intro fv wt hf hD hwt
              simp only [putR, List.foldl_cons, List.foldl_nil, List.map_cons, List.map_nil, Act.put, List.setIfInBounds_toArray, List.set_cons_succ, List.set_cons_zero]
              clear hf hD
              refine wl_setOI rfl (.tmp 91) (.tmp 90) rfl szw g11 17 cap11 j zz X (by kernel_rfl) (by kernel_rfl) (OX.under hwt) j17 ?_
              intro w4 OX4 P4
              have O54 := (O5.under hwt).put P4 (by omega)
              have A04 := P4.blk (A0.under hwt) (by omega)
              have A14 := P4.blk (A1.under hwt) (by omega)
              have HB4 := (HB.trans (hwt.mono HB.size)).trans (P4.below (by omega))
              clear OX O5 A0 A1 HB hwt P4 GX CB Hzz
              go_wp2_with (first | ((with_reducible refine wv_val (d := 75) ?hd ?hw (.int .i64 ((i1 : Nat) : Int)) ?hr ?_); (case hd => rfl); (case hw => kernel_rfl); (case hr => intro w; exact run_addZ 1 rfl (by kernel_rfl) Hi1.out (by omega) w); simp only [Act.put, List.setIfInBounds_toArray, List.set_cons_succ, List.set_cons_zero]))
              go_roundg (gk - 1)
              case measure => omega
              case rel => exact ⟨j + 1, i1, _, by omega, Hi2, by first | rfl | (rw [Hi1.out]; simp; done), OX4, EV2, BX2, O54, A04, A14, HB4⟩
            case neg =>
              have hie : ¬ (i : Int) < (en : Int) := by omega
              have ejz : j = z := by omega
              subst ejz
              have z17 : j < 17 := by omega
              obtain ⟨xz, hxz⟩ : ∃ x, X[j]? = some x := ⟨_, List.getElem?_eq_getElem (by rw [OX.len]; exact z17)⟩
              obtain ⟨x1, hx1⟩ : ∃ x, x = xz + 1 := ⟨_, rfl⟩
              have xzB : xz ≤ 255 := by
                have := BX.out j
                rw [List.getD_eq_getElem?_getD, hxz, if_neg (by omega)] at this
                exact this
              have x1B : x1 ≤ 256 := by omega
              obtain ⟨S, hS⟩ : ∃ l, l = X.set j x1 := ⟨_, rfl⟩
              have EVS : Kept (val S = N + val (pc ++ [1])) := ⟨by rw [hS, val_add_at X j xz 1 x1 hxz hx1, EV.out, List.take_of_length_le (by rw [lpc.out]; exact Nat.le_refl _)]; exact pad_val pc N j lpc.out⟩
              have BS : Kept (∀ u, S.getD u 0 ≤ 511) := ⟨fun u => by
                have := bound_set X j xz 1 x1 j 0 hxz BX.out rfl (by omega) hx1 u
                rw [hS]
                split at this <;> omega⟩
              have KXz : Kept _ := ⟨OX.cell hxz⟩
              have Hx1 : Kept _ := ⟨hx1⟩
              have HS : Kept _ := ⟨hS⟩
              have tle : t ≤ en := by omega
              clear hxz hx1 EV BX hi_ hS ez
              go_wp2_with (first | ((with_reducible refine wv_val (d := 94) ?hd ?hw (.int .i64 ((j : Nat) : Int)) ?hr ?_); (case hd => rfl); (case hw => kernel_rfl); (case hr => intro w; exact run_subV rfl (by kernel_rfl) (by kernel_rfl) tle (by omega) Hz.out w); simp only [Act.put, List.setIfInBounds_toArray, List.set_cons_succ, List.set_cons_zero]) | ((with_reducible refine wv_val (d := 99) ?hd ?hw (.pointer (some ⟨g11, j, none⟩)) ?hr ?_); (case hd => rfl); (case hw => kernel_rfl); (case hr => intro w; exact run_idxO (i := j) (l := 17) rfl (by kernel_rfl) (by kernel_rfl) Try.underlying78 z17 sz_int w); simp only [Act.put, List.setIfInBounds_toArray, List.set_cons_succ, List.set_cons_zero]) | ((with_reducible refine wv_elem (d := 100) ?hd ?hw 3 ag_int (.tmp 99) ?ho (⟨g11, j, none⟩) ?hx (.int .i64 ((xz : Nat) : Int)) ?hc ?_); (case hd => rfl); (case hw => kernel_rfl); (case ho => rfl); (case hx => kernel_rfl); (case hc => exact KXz.out); simp only [Act.put, List.setIfInBounds_toArray, List.set_cons_succ, List.set_cons_zero]) | ((with_reducible refine wv_val (d := 101) ?hd ?hw (.int .i64 ((x1 : Nat) : Int)) ?hr ?_); (case hd => rfl); (case hw => kernel_rfl); (case hr => intro w; exact run_addZ 1 rfl (by kernel_rfl) Hx1.out (by omega) w); simp only [Act.put, List.setIfInBounds_toArray, List.set_cons_succ, List.set_cons_zero]) | ((with_reducible refine wv_val (d := 102) ?hd ?hw (.pointer (some ⟨g11, j, none⟩)) ?hr ?_); (case hd => rfl); (case hw => kernel_rfl); (case hr => intro w; exact run_idxO (i := j) (l := 17) rfl (by kernel_rfl) (by kernel_rfl) Try.underlying78 z17 sz_int w); simp only [Act.put, List.setIfInBounds_toArray, List.set_cons_succ, List.set_cons_zero]) | (refine wl_setOI rfl (.tmp 102) (.tmp 101) rfl szw g11 17 cap11 j x1 X rfl rfl OX z17 ?_))
              intro w5 OS P5
              rw [← HS.out] at OS
              have O55 := O5.put P5 (by omega)
              have A05 := P5.blk A0 (by omega)
              have A15 := P5.blk A1 (by omega)
              have HB5 := HB.trans (P5.below (by omega))
              clear OX O5 A0 A1 HB P5 KXz HS Hx1
              obtain ⟨Z40, hZ40⟩ : ∃ Z : List Nat, Z = List.replicate 40 0 := ⟨_, rfl⟩
              have HZ40 : Kept _ := ⟨hZ40⟩
              have L40 : Kept (Z40.length = 40) := ⟨by rw [hZ40]; rfl⟩
              have V40 : Kept (val Z40 = val (S.take 0) * val CL) := ⟨by rw [hZ40, val_zeros, List.take_zero]; simp [val]⟩
              have B40 : Kept (∀ u, Z40.getD u 0 ≤ (0 * 16 + 0) * 131072) := ⟨fun u => by
                rw [hZ40, List.getD_eq_getElem?_getD, List.getElem?_replicate]
                split <;> simp⟩
              have OL : OI w5.heap.size w5.heap.size 40 40 Z40 (w5.alloc (.cells (ints .i64 Z40) 3)) := by
                exact oi_blk (blk_new w5 _ _) (Nat.le_refl _) L40.out (by unfold maxLen; decide)
              have OS' := OS.alloc (.cells (ints .i64 Z40) 3)
              have O5' := O55.alloc (.cells (ints .i64 Z40) 3)
              have A0' := A05.alloc (.cells (ints .i64 Z40) 3)
              have A1' := A15.alloc (.cells (ints .i64 Z40) 3)
              have HB' := HB5.alloc HB5.size (.cells (ints .i64 Z40) 3)
              have s11 : g11 < w5.heap.size := OS.lt
              have s55 : g5 < w5.heap.size := O55.lt
              have s15 : w.heap.size + 1 < w5.heap.size := A15.lt
              clear OS O55 A05 A15 HB5 hZ40
              go_wp2_with (first | ((refine wl_mkI 40 Z40 HZ40.out (by kernel_rfl) rfl (mk40 _) ?_); simp only [Act.put, List.setIfInBounds_toArray, List.set_cons_succ, List.set_cons_zero]))
              generalize hW5 : w5.alloc (.cells (ints .i64 Z40) 3) = w6 at *
              generalize hg15 : w5.heap.size = g15 at *
              clear hW5 hg15
              go_loopg [16] 17 (fun k4 s16 wr => ∃ (i : Nat) (LL : List Nat), i + k4 = 17 ∧ s16 = .int .i64 (i : Int) ∧ OI g15 g15 40 40 LL wr ∧ Kept (val LL = val (S.take i) * val CL) ∧ Kept (∀ u, LL.getD u 0 ≤ (i * 16 + 0) * 131072) ∧ OI szw g11 17 cap11 S wr ∧ OI (w.heap.size + 2) g5 16 cap5 CL wr ∧ Blk wr w.heap.size 22 (ints .u8 key) ∧ Blk wr (w.heap.size + 1) 43 (ints .u8 Z0) ∧ Below w.heap.size w wr)
              case atStart => exact ⟨0, _, by omega, rfl, OL, V40, B40, OS', O5', A0', A1', HB'⟩
              case round =>
                clear OL OS' O5' A0' A1' HB'
                obtain ⟨i, LL, hi17, rfl, OL, VL, BL, OS, O5, A0, A1, HB⟩ := hrel
                by_cases i17 : i < 17
                case pos =>
                  have i17i : (i : Int) < 17 := by omega
                  obtain ⟨si, hsi⟩ : ∃ x, S[i]? = some x := ⟨_, List.getElem?_eq_getElem (by rw [OS.len]; exact i17)⟩
                  have siB : si ≤ 511 := by
                    have := BS.out i
                    rw [List.getD_eq_getElem?_getD, hsi] at this
                    exact this
                  have GS : Kept _ := ⟨hsi⟩
                  have VL0 : Kept (val LL = val (S.take i) * val CL + si * 256 ^ i * val (CL.take 0)) := ⟨by rw [VL.out, List.take_zero]; simp [val]⟩
                  clear hsi VL
                  go_wp2_with fail
                  go_loopg [17] 16 (fun k5 s17 wr => ∃ (j : Nat) (LL : List Nat), j + k5 = 16 ∧ s17 = .int .i64 (j : Int) ∧ OI g15 g15 40 40 LL wr ∧ Kept (val LL = val (S.take i) * val CL + si * 256 ^ i * val (CL.take j)) ∧ Kept (∀ u, LL.getD u 0 ≤ (i * 16 + j) * 131072) ∧ OI szw g11 17 cap11 S wr ∧ OI (w.heap.size + 2) g5 16 cap5 CL wr ∧ Blk wr w.heap.size 22 (ints .u8 key) ∧ Blk wr (w.heap.size + 1) 43 (ints .u8 Z0) ∧ Below w.heap.size w wr)
                  case atStart => exact ⟨0, _, by omega, rfl, OL, VL0, BL, OS, O5, A0, A1, HB⟩
                  case round =>
                    clear OL OS O5 A0 A1 HB VL0 BL
                    obtain ⟨j, LL, hj16, rfl, OL, VL, BL, OS, O5, A0, A1, HB⟩ := hrel
                    by_cases j16 : j < 16
                    case pos =>
                      have j16i : (j : Int) < 16 := by omega
                      obtain ⟨ij, hij⟩ : ∃ x, x = i + j := ⟨_, rfl⟩
                      have ij40 : ij < 40 := by omega
                      obtain ⟨lx, hlx⟩ : ∃ x, LL[ij]? = some x := ⟨_, List.getElem?_eq_getElem (by rw [OL.len]; exact ij40)⟩
                      obtain ⟨rj, hrj⟩ : ∃ x, CL[j]? = some x := ⟨_, List.getElem?_eq_getElem (by rw [LCL.out]; exact j16)⟩
                      obtain ⟨pr, hpr⟩ : ∃ x, x = si * rj := ⟨_, rfl⟩
                      obtain ⟨zz, hzz⟩ : ∃ x, x = lx + pr := ⟨_, rfl⟩
                      have rjB : rj ≤ 255 := Nat.le_of_lt_succ (BCL.out j rj hrj)
                      have prB : pr ≤ 131072 := by rw [hpr]; exact prod_small si rj siB rjB
                      have lxB : lx ≤ (i * 16 + j) * 131072 := by
                        have := BL.out ij
                        rw [List.getD_eq_getElem?_getD, hlx] at this
                        exact this
                      have zzB : zz ≤ 100000000 := by omega
                      have GL : Kept _ := ⟨hlx⟩
                      have GR : Kept _ := ⟨hrj⟩
                      have Hij : Kept _ := ⟨hij⟩
                      have Hpr : Kept _ := ⟨hpr⟩
                      have Hzz : Kept _ := ⟨hzz⟩
                      have VL2 : Kept (val (LL.set ij zz) = val (S.take i) * val CL + si * 256 ^ i * val (CL.take (j + 1))) := ⟨by
                        rw [val_add_at LL ij lx pr zz hlx hzz, VL.out, val_take_at CL j rj hrj, hpr, hij, Nat.pow_add, Nat.mul_add, Nat.add_assoc]
                        congr 2
                        grind⟩
                      have BL2 : Kept (∀ u, (LL.set ij zz).getD u 0 ≤ (i * 16 + (j + 1)) * 131072) := ⟨fun u => by
                        have := bound_mul LL ij lx pr zz (i * 16 + j) hlx BL.out prB hzz u
                        rw [Nat.add_assoc] at this
                        exact this⟩
                      clear hlx hrj hij hpr hzz VL BL lxB
                      go_wp2_with fail
                      refine region_ownL wr 21 [(112, .slice (some ⟨g15, 0, none⟩) 40 40), (113, .int .i64 ((i : Nat) : Int)), (114, .int .i64 ((j : Nat) : Int)), (115, .int .i64 ((ij : Nat) : Int)), (116, .slice (some ⟨g15, 0, none⟩) 40 40), (117, .int .i64 ((i : Nat) : Int)), (118, .int .i64 ((j : Nat) : Int)), (119, .int .i64 ((ij : Nat) : Int)), (120, .pointer (some ⟨g15, ij, none⟩)), (121, .int .i64 ((lx : Nat) : Int)), (122, .slice (some ⟨g11, 0, none⟩) 17 cap11), (123, .int .i64 ((i : Nat) : Int)), (124, .pointer (some ⟨g11, i, none⟩)), (125, .int .i64 ((si : Nat) : Int)), (126, .slice (some ⟨g5, 0, none⟩) 16 cap5), (127, .int .i64 ((j : Nat) : Int)), (128, .pointer (some ⟨g5, j, none⟩)), (129, .int .i64 ((rj : Nat) : Int)), (130, .int .i64 ((pr : Nat) : Int)), (131, .int .i64 ((zz : Nat) : Int)), (132, .pointer (some ⟨g15, ij, none⟩))] [] [] [] rfl (by kernel_rfl) (by kernel_rfl) (by kernel_rfl) (by kernel_rfl) (by kernel_rfl) (by kernel_rfl) (by kernel_rfl) (by kernel_rfl) (by kernel_rfl) (by kernel_rfl) (by kernel_rfl) ?hst1 ?hst2 (Below.refl _ _) (fun hA => ⟨ow_val hA (wants_none rfl) 112 (.slice (some ⟨g15, 0, none⟩) 40 40) (by kernel_rfl) rfl rfl rfl rfl (by kernel_rfl) (fun w => by kernel_rfl), ow_val hA (wants_none rfl) 113 (.int .i64 ((i : Nat) : Int)) (by kernel_rfl) rfl rfl rfl rfl (by kernel_rfl) (fun w => by kernel_rfl), ow_val hA (wants_none rfl) 114 (.int .i64 ((j : Nat) : Int)) (by kernel_rfl) rfl rfl rfl rfl (by kernel_rfl) (fun w => by kernel_rfl), ow_val hA (wants_none rfl) 115 (.int .i64 ((ij : Nat) : Int)) (by kernel_rfl) rfl rfl rfl rfl (by kernel_rfl) (fun w => run_addVZ' rfl (by kernel_rfl) (by kernel_rfl) Hij.out (by omega) w), ow_val hA (wants_none rfl) 116 (.slice (some ⟨g15, 0, none⟩) 40 40) (by kernel_rfl) rfl rfl rfl rfl (by kernel_rfl) (fun w => by kernel_rfl), ow_val hA (wants_none rfl) 117 (.int .i64 ((i : Nat) : Int)) (by kernel_rfl) rfl rfl rfl rfl (by kernel_rfl) (fun w => by kernel_rfl), ow_val hA (wants_none rfl) 118 (.int .i64 ((j : Nat) : Int)) (by kernel_rfl) rfl rfl rfl rfl (by kernel_rfl) (fun w => by kernel_rfl), ow_val hA (wants_none rfl) 119 (.int .i64 ((ij : Nat) : Int)) (by kernel_rfl) rfl rfl rfl rfl (by kernel_rfl) (fun w => run_addVZ' rfl (by kernel_rfl) (by kernel_rfl) Hij.out (by omega) w), ow_val hA (wants_none rfl) 120 (.pointer (some ⟨g15, ij, none⟩)) (by kernel_rfl) rfl rfl rfl rfl (by kernel_rfl) (fun w => run_idxO (i := ij) (l := 40) (c := 40) rfl (by kernel_rfl) (by kernel_rfl) Try.underlying78 ij40 sz_int w), ow_elem hA (wants_none rfl) 121 (.int .i64 ((lx : Nat) : Int)) (by kernel_rfl) rfl rfl rfl rfl (by kernel_rfl) 3 ag_int (.tmp 120) rfl (⟨g15, ij, none⟩) (by kernel_rfl) (fun w1 hb => (OL.under hb).cell GL.out), ow_val hA (wants_none rfl) 122 (.slice (some ⟨g11, 0, none⟩) 17 cap11) (by kernel_rfl) rfl rfl rfl rfl (by kernel_rfl) (fun w => by kernel_rfl), ow_val hA (wants_none rfl) 123 (.int .i64 ((i : Nat) : Int)) (by kernel_rfl) rfl rfl rfl rfl (by kernel_rfl) (fun w => by kernel_rfl), ow_val hA (wants_none rfl) 124 (.pointer (some ⟨g11, i, none⟩)) (by kernel_rfl) rfl rfl rfl rfl (by kernel_rfl) (fun w => run_idxO (i := i) (l := 17) (c := cap11) rfl (by kernel_rfl) (by kernel_rfl) Try.underlying78 i17 sz_int w), ow_elem hA (wants_none rfl) 125 (.int .i64 ((si : Nat) : Int)) (by kernel_rfl) rfl rfl rfl rfl (by kernel_rfl) 3 ag_int (.tmp 124) rfl (⟨g11, i, none⟩) (by kernel_rfl) (fun w1 hb => (OS.under hb).cell GS.out), ow_val hA (wants_none rfl) 126 (.slice (some ⟨g5, 0, none⟩) 16 cap5) (by kernel_rfl) rfl rfl rfl rfl (by kernel_rfl) (fun w => by kernel_rfl), ow_val hA (wants_none rfl) 127 (.int .i64 ((j : Nat) : Int)) (by kernel_rfl) rfl rfl rfl rfl (by kernel_rfl) (fun w => by kernel_rfl), ow_val hA (wants_none rfl) 128 (.pointer (some ⟨g5, j, none⟩)) (by kernel_rfl) rfl rfl rfl rfl (by kernel_rfl) (fun w => run_idxO (i := j) (l := 16) (c := cap5) rfl (by kernel_rfl) (by kernel_rfl) Try.underlying78 j16 sz_int w), ow_elem hA (wants_none rfl) 129 (.int .i64 ((rj : Nat) : Int)) (by kernel_rfl) rfl rfl rfl rfl (by kernel_rfl) 3 ag_int (.tmp 128) rfl (⟨g5, j, none⟩) (by kernel_rfl) (fun w1 hb => (O5.under hb).cell GR.out), ow_val hA (wants_none rfl) 130 (.int .i64 ((pr : Nat) : Int)) (by kernel_rfl) rfl rfl rfl rfl (by kernel_rfl) (fun w => run_mulVV rfl (by kernel_rfl) (by kernel_rfl) Hpr.out (by omega) w), ow_val hA (wants_none rfl) 131 (.int .i64 ((zz : Nat) : Int)) (by kernel_rfl) rfl rfl rfl rfl (by kernel_rfl) (fun w => run_addVZ' rfl (by kernel_rfl) (by kernel_rfl) Hzz.out (by omega) w), ow_val hA (wants_none rfl) 132 (.pointer (some ⟨g15, ij, none⟩)) (by kernel_rfl) rfl rfl rfl rfl (by kernel_rfl) (fun w => run_idxO (i := ij) (l := 40) (c := 40) rfl (by kernel_rfl) (by kernel_rfl) Try.underlying78 ij40 sz_int w), trivial⟩) ?_
                      case hst1 => intro q hq; cases hq
                      case hst2 => intro q hq; cases hq
                      intro fv wt hf hD hwt
                      simp only [putR, List.foldl_cons, List.foldl_nil, List.map_cons, List.map_nil, Act.put, List.setIfInBounds_toArray, List.set_cons_succ, List.set_cons_zero]
                      clear hf hD
                      refine wl_setOI rfl (.tmp 132) (.tmp 131) rfl g15 g15 40 40 ij zz LL (by kernel_rfl) (by kernel_rfl) (OL.under hwt) ij40 ?_
                      intro w7 OL7 P7
                      have OS7 := (OS.under hwt).put P7 (by omega)
                      have O57 := (O5.under hwt).put P7 (by omega)
                      have A07 := P7.blk (A0.under hwt) (by omega)
                      have A17 := P7.blk (A1.under hwt) (by omega)
                      have HB7 := (HB.trans (hwt.mono HB.size)).trans (P7.below (by omega))
                      clear OL OS O5 A0 A1 HB hwt P7 GL GR Hij Hpr Hzz
                      go_wp2_with fail
                      go_roundg (gk - 1)
                      case measure => omega
                      case rel => exact ⟨j + 1, _, by omega, by first | (simp; done) | go_num, OL7, VL2, BL2, OS7, O57, A07, A17, HB7⟩
                    case neg =>
                      have j16i : ¬ (j : Int) < 16 := by omega
                      have ej : j = 16 := by omega
                      have VL2 : Kept (val LL = val (S.take (i + 1)) * val CL) := ⟨by
                        rw [VL.out, ej, show CL.take 16 = CL from List.take_of_length_le (by rw [LCL.out]; exact Nat.le_refl _), val_take_at S i si GS.out, Nat.add_mul]⟩
                      have BL2 : Kept (∀ u, LL.getD u 0 ≤ ((i + 1) * 16 + 0) * 131072) := ⟨fun u => by
                        have := BL.out u
                        rw [ej] at this
                        rw [Nat.add_zero, Nat.add_mul i 1 16, Nat.one_mul]
                        exact this⟩
                      clear VL BL ej
                      go_wp2_with fail
                      go_roundg (17 - (i + 1))
                      case measure => omega
                      case rel => exact ⟨i + 1, _, by omega, by first | (simp; done) | go_num, OL, VL2, BL2, OS, O5, A0, A1, HB⟩
                case neg =>
                  have i17i : ¬ (i : Int) < 17 := by omega
                  have eV : val LL = (N + val (pc ++ [1])) * rN key := by
                    rw [VL.out, show S.take i = S from List.take_of_length_le (by rw [OS.len]; omega), EVS.out, VCL.out]
                  have HM : ∀ u, LL.getD u 0 ≤ 1099511627776 := fun u => by have := BL.out u; omega
                  have hVB : val LL < 115792089237316195423570985008687907853269984665640564039457584007913129639936 := by
                    rw [eV]
                    exact Nat.lt_trans (prod_lt _ _ (by have := NB.out; have := PL.out; omega) BR.out) (by decide)
                  have CF : Kept _ := ⟨folded6 LL g15 40 40 wr OL.len (by decide) HM OL.holds hVB⟩
                  rw [eV, NX.out] at CF
                  clear VL BL eV HM hVB NX
                  have tB2 : t + 16 < 4611686018427387904 := by omega
                  go_wp2_with fail
                  refine CF.out.mono ?_
                  rintro e w8 ⟨g', cap', N', rfl, ON, NB', NP', hb8⟩
                  have ON' := ON.mono (show w.heap.size + 2 ≤ wr.heap.size from by have := A1.lt; omega)
                  have O58 := O5.under hb8
                  have A08 := A0.under hb8
                  have A18 := A1.under hb8
                  have HB8 := HB.trans (hb8.mono HB.size)
                  clear CF OL OS O5 A0 A1 HB ON hb8
                  have Et2 : Kept (t16 = 16 * (k + 1)) := ⟨by have := Ht16.out; have := Et.out; omega⟩
                  go_wp2_with (first | ((with_reducible refine wv_val (d := 61) ?hd ?hw (.int .i64 ((t16 : Nat) : Int)) ?hr ?_); (case hd => rfl); (case hw => kernel_rfl); (case hr => intro w; exact run_addZ 16 rfl (by kernel_rfl) Ht16.out (by omega) w); simp only [Act.put, List.setIfInBounds_toArray, List.set_cons_succ, List.set_cons_zero]))
                  go_roundg (KK - (k + 1))
                  case measure => omega
                  case rel => exact ⟨k + 1, N', g', cap', t16, by omega, Et2, rfl, rfl, ON', ⟨NB'⟩, ⟨NP'⟩, O58, A08, A18, HB8⟩
        case neg =>
          have htni : ¬ (t : Int) < (n : Int) := by omega
          have hkK : k = KK := by have h1 := Et.out; have h2 := EK.out; omega
          subst hkK
          have R135 := row_emptyI (base := wr.heap.size) wr (Nat.le_refl _)
          have V136 : Kept (IntsV .i64 (.slice (some ⟨g8, 0, none⟩) 17 cap8) (wr.alloc (.cells #[] 3)) (digs N 17)) := ⟨(O8.alloc (.cells #[] 3)).ints⟩
          have L17 : Kept (([] : List Nat).length + (digs N 17).length ≤ 8796093022208) := ⟨by rw [digs_len]; decide⟩
          go_wp2_with (first | (at_builtin; refine wl_app (by kernel_rfl) (.tmp 135) (.tmp 136) 78 3 .i64 8 rfl Try.underlying78 inf_int (by decide) (wr.heap.size) ([]) (digs N 17) (.slice (some ⟨wr.heap.size, 0, none⟩) 0 0) (.slice (some ⟨g8, 0, none⟩) 17 cap8) (by kernel_rfl) (by kernel_rfl) R135 V136.out L17.out (by simp) ?_))
          intro v18 w1 R18 G18 _
          have B18 : Below wr.heap.size wr w1 := ((Below.refl _ _).alloc (Nat.le_refl _) _).trans (grown_mono G18 (by simp) (fun b hb => by cases hb; exact Nat.le_refl _))
          have R18 : Row wr.heap.size 3 .i64 (digs N 17) v18 w1 := R18
          obtain ⟨g18, cap18, ev18, O18⟩ := oi_row R18 (by rw [digs_len]; decide)
          rw [digs_len] at ev18 O18
          subst ev18
          have g8l : g8 < wr.heap.size := O8.lt
          have g18r : wr.heap.size ≤ g18 := O18.1
          have O8' := O8.under B18
          have A0' := A0.under B18
          have A1' := A1.under B18
          have HB' := HB.trans (B18.mono HB.size)
          obtain ⟨d0, hd0⟩ : ∃ d, d = N / 256 ^ 0 % 256 := ⟨_, rfl⟩
          obtain ⟨x5, hx5⟩ : ∃ x, x = d0 + 5 := ⟨_, rfl⟩
          have d0B : d0 < 256 := by rw [hd0]; exact Nat.mod_lt _ (by decide)
          have hg0 : (digs N 17)[0]? = some d0 := by rw [hd0]; exact digs_get N 17 0 (by decide)
          have K0 : Kept _ := ⟨O18.cell hg0⟩
          have Hx5 : Kept _ := ⟨hx5⟩
          obtain ⟨M18, hM18⟩ : ∃ l, l = (digs N 17).set 0 x5 := ⟨_, rfl⟩
          have VM : Kept (val M18 = N + 5) := ⟨by
            rw [hM18, val_add_at (digs N 17) 0 d0 5 x5 hg0 hx5, val_digs, Nat.mod_eq_of_lt (Nat.lt_trans NB.out (by decide))]⟩
          have BM : Kept (∀ u, M18.getD u 0 ≤ 1099511627776) := ⟨fun u => by
            rw [hM18, List.getD_eq_getElem?_getD, List.getElem?_set]
            split
            · split
              · show x5 ≤ _
                omega
              · exact Nat.zero_le _
            · have := getD_lt (digs_bytes N 17) u
              rw [List.getD_eq_getElem?_getD] at this
              omega⟩
          have HM18 : Kept _ := ⟨hM18⟩
          have x5B : x5 ≤ 300 := by omega
          clear R135 V136 R18 G18 B18 O5 A0 A1 HB O8 L17 hd0 hx5 hg0 hM18
          go_wp2_with (first | ((with_reducible refine wv_val (d := 140) ?hd ?hw (.pointer (some ⟨g18, 0, none⟩)) ?hr ?_); (case hd => rfl); (case hw => kernel_rfl); (case hr => intro w; exact run_idxO (i := 0) (l := 17) rfl (by kernel_rfl) (by kernel_rfl) Try.underlying78 (by decide) sz_int w); simp only [Act.put, List.setIfInBounds_toArray, List.set_cons_succ, List.set_cons_zero]) | ((with_reducible refine wv_elem (d := 141) ?hd ?hw 3 ag_int (.tmp 140) ?ho (⟨g18, 0, none⟩) ?hx (.int .i64 ((d0 : Nat) : Int)) ?hc ?_); (case hd => rfl); (case hw => kernel_rfl); (case ho => rfl); (case hx => kernel_rfl); (case hc => exact K0.out); simp only [Act.put, List.setIfInBounds_toArray, List.set_cons_succ, List.set_cons_zero]) | ((with_reducible refine wv_val (d := 142) ?hd ?hw (.int .i64 ((x5 : Nat) : Int)) ?hr ?_); (case hd => rfl); (case hw => kernel_rfl); (case hr => intro w; exact run_addZ 5 rfl (by kernel_rfl) Hx5.out (by omega) w); simp only [Act.put, List.setIfInBounds_toArray, List.set_cons_succ, List.set_cons_zero]) | ((with_reducible refine wv_val (d := 143) ?hd ?hw (.pointer (some ⟨g18, 0, none⟩)) ?hr ?_); (case hd => rfl); (case hw => kernel_rfl); (case hr => intro w; exact run_idxO (i := 0) (l := 17) rfl (by kernel_rfl) (by kernel_rfl) Try.underlying78 (by decide) sz_int w); simp only [Act.put, List.setIfInBounds_toArray, List.set_cons_succ, List.set_cons_zero]) | (refine wl_setOI rfl (.tmp 143) (.tmp 142) rfl wr.heap.size g18 17 cap18 0 x5 (digs N 17) rfl rfl O18 (by decide) ?_))
          intro w2 OM P2
          rw [← HM18.out] at OM
          have O8'' := O8'.put P2 (by omega)
          have A0'' := P2.blk A0' (by omega)
          have A1'' := P2.blk A1' (by omega)
          have HB'' := HB'.trans (P2.below (by omega))
          clear O18 O8' A0' A1' HB' P2 K0 Hx5 HM18
          have CC : Kept _ := ⟨carry6 M18 g18 17 cap18 17 w2 OM.len (by decide) (by decide) (by decide) BM.out OM.holds⟩
          rw [VM.out] at CC
          clear VM BM
          go_wp2_with fail
          refine CC.out.mono ?_
          rintro e w3 ⟨g19, cap19, m19, rfl, O19, h1719, h7019, hV19, hb3⟩
          have O8 := O8''.under hb3
          have A0 := A0''.under hb3
          have A1 := A1''.under hb3
          have HB := HB''.trans (hb3.mono HB''.size)
          have O19' := O19.mono (show w.heap.size + 2 ≤ w2.heap.size from by have := A1''.lt; omega)
          obtain ⟨d16, hd16⟩ : ∃ d, d = (N + 5) / 256 ^ 16 % 256 := ⟨_, rfl⟩
          have hbig := last_big N d16 NB.out hd16
          have K16 : Kept (w3.cell? ⟨g19, 16, none⟩ = some (.int .i64 ((d16 : Nat) : Int))) := ⟨O19.cell (by rw [hd16]; exact digs_get _ m19 16 (by omega))⟩
          have m16 : 16 < m19 := by omega
          have SK : Kept (val ((key.drop 16).take 16) = sN key) := ⟨by
            unfold sN
            rw [List.take_of_length_le (by rw [List.length_drop, LK.out]; decide)]⟩
          have TT : Kept (∀ W, W % 340282366920938463463374607431768211456 = (polyT (rN key) b k % 1361129467683753853853498429727072845819 + sN key) % 340282366920938463463374607431768211456 → digs W 16 = TG) := ⟨fun W hW => by
            rw [ETG.out]
            unfold tagL
            rw [← EN.out, ← EK.out]
            exact digs_congr _ _ 16 hW⟩
          clear O8'' A0'' A1'' HB'' OM CC O19 hb3 hV19 hd16
          by_cases h4 : 4 ≤ d16
          case pos =>
            have h4i : (4 : Int) ≤ (d16 : Int) := by omega
            have B149 : Kept (true = decide (4 ≤ d16)) := ⟨(decide_eq_true h4).symm⟩
            obtain ⟨U, hU⟩ : ∃ U, U = N + 5 := ⟨_, rfl⟩
            rw [← hU] at O19'
            have EU : Kept (∀ s, (U % 340282366920938463463374607431768211456 + s) % 340282366920938463463374607431768211456 = (polyT (rN key) b k % 1361129467683753853853498429727072845819 + s) % 340282366920938463463374607431768211456) := ⟨fun s => by
              rcases last_tag N (polyT (rN key) b k) s NB.out NP.out with h | h
              · rw [hU]; exact h
              · have := hbig.1 h4; omega⟩
            clear hU hbig h4 O8
            go_wp2_with (first | ((with_reducible refine wv_val (d := 147) ?hd ?hw (.pointer (some ⟨g19, 16, none⟩)) ?hr ?_); (case hd => rfl); (case hw => kernel_rfl); (case hr => intro w; exact run_idxO (i := 16) (l := m19) rfl (by kernel_rfl) (by kernel_rfl) Try.underlying78 m16 sz_int w); simp only [Act.put, List.setIfInBounds_toArray, List.set_cons_succ, List.set_cons_zero]) | ((with_reducible refine wv_elem (d := 148) ?hd ?hw 3 ag_int (.tmp 147) ?ho (⟨g19, 16, none⟩) ?hx (.int .i64 ((d16 : Nat) : Int)) ?hc ?_); (case hd => rfl); (case hw => kernel_rfl); (case ho => rfl); (case hx => kernel_rfl); (case hc => exact K16.out); simp only [Act.put, List.setIfInBounds_toArray, List.set_cons_succ, List.set_cons_zero]) | ((with_reducible refine wv_val (d := 149) ?hd ?hw (.bool true) ?hr ?_); (case hd => rfl); (case hw => kernel_rfl); (case hr => intro w; exact run_geq4 true rfl (by kernel_rfl) B149.out w); simp only [Act.put, List.setIfInBounds_toArray, List.set_cons_succ, List.set_cons_zero]))
            go_loopg [20] 16 (fun k6 s20 wr => ∃ (i : Nat) (X : List Nat), i + k6 = 16 ∧ s20 = .int .i64 (i : Int) ∧ OI (w.heap.size + 2) g19 m19 cap19 X wr ∧ Kept (val (X.take 16) = U % 340282366920938463463374607431768211456 + val ((key.drop 16).take i)) ∧ Kept (∀ u, X.getD u 0 ≤ if u < i then 510 else 255) ∧ Blk wr w.heap.size 22 (ints .u8 key) ∧ Blk wr (w.heap.size + 1) 43 (ints .u8 Z0) ∧ Below w.heap.size w wr)
            case atStart => exact ⟨0, _, by omega, rfl, O19', ⟨by rw [digs_take _ _ 16 (by omega), val_digs, List.take_zero]; rfl⟩, ⟨fun u => by
              rw [if_neg (by omega)]
              exact Nat.le_of_lt_succ (getD_lt (digs_bytes _ _) u)⟩, A0, A1, HB⟩
            case round =>
              clear O19' A0 A1 HB K16
              obtain ⟨i, X, hi16, rfl, OX, EV, BX, A0, A1, HB⟩ := hrel
              have bgn : w.heap.size + 2 ≤ g19 := OX.1
              by_cases hil : i < 16
              case pos =>
                have hili : (i : Int) < 16 := by omega
                have imn : i < m19 := by omega
                obtain ⟨i16, hi16'⟩ : ∃ x, x = 16 + i := ⟨_, rfl⟩
                have i32 : i16 < 32 := by omega
                obtain ⟨xi, hxi⟩ : ∃ x, X[i]? = some x := ⟨_, List.getElem?_eq_getElem (by rw [OX.len]; exact imn)⟩
                obtain ⟨ki, hki⟩ : ∃ x, key[i16]? = some x := ⟨_, List.getElem?_eq_getElem (by rw [LK.out]; exact i32)⟩
                obtain ⟨zz, hzz⟩ : ∃ x, x = xi + ki := ⟨_, rfl⟩
                have ki8 : ki < 256 := YK.out i16 ki hki
                have xiB : xi ≤ 255 := by
                  have := BX.out i
                  rw [List.getD_eq_getElem?_getD, hxi, if_neg (by omega)] at this
                  exact this
                have zzB : zz ≤ 600 := by omega
                have GX : Kept _ := ⟨hxi⟩
                have GK : Kept ((ints .u8 key)[i16]? = some (.int .u8 (ki : Int))) := ⟨ints_get hki⟩
                have Hi16 : Kept _ := ⟨hi16'⟩
                have Hzz : Kept _ := ⟨hzz⟩
                have EV2 : Kept (val ((X.set i zz).take 16) = U % 340282366920938463463374607431768211456 + val ((key.drop 16).take (i + 1))) := ⟨by
                  rw [List.take_set, val_add_at (X.take 16) i xi ki zz (by rw [List.getElem?_take_of_lt hil]; exact hxi) hzz, EV.out, val_take_at (key.drop 16) i ki (by rw [List.getElem?_drop, ← hi16']; exact hki), Nat.add_assoc]⟩
                have BX2 : Kept (∀ u, (X.set i zz).getD u 0 ≤ if u < i + 1 then 510 else 255) := ⟨bound_set X i xi ki zz i 0 hxi BX.out rfl (by omega) hzz⟩
                clear hxi hki hzz hi16' EV BX
                go_wp2_with fail
                refine region_ownL wr 13 [(155, .slice (some ⟨g19, 0, none⟩) m19 cap19), (156, .int .i64 ((i : Nat) : Int)), (157, .slice (some ⟨g19, 0, none⟩) m19 cap19), (158, .int .i64 ((i : Nat) : Int)), (159, .pointer (some ⟨g19, i, none⟩)), (160, .int .i64 ((xi : Nat) : Int)), (161, .int .i64 ((i : Nat) : Int)), (162, .int .i64 ((i16 : Nat) : Int)), (163, .pointer (some ⟨w.heap.size, i16, none⟩)), (164, .int .u8 (ki : Int)), (165, .int .i64 ((ki : Nat) : Int)), (166, .int .i64 ((zz : Nat) : Int)), (167, .pointer (some ⟨g19, i, none⟩))] [] [] [] rfl (by kernel_rfl) (by kernel_rfl) (by kernel_rfl) (by kernel_rfl) (by kernel_rfl) (by kernel_rfl) (by kernel_rfl) (by kernel_rfl) (by kernel_rfl) (by kernel_rfl) (by kernel_rfl) ?hst1 ?hst2 (Below.refl _ _) (fun hA => ⟨ow_val hA (wants_none rfl) 155 (.slice (some ⟨g19, 0, none⟩) m19 cap19) (by kernel_rfl) rfl rfl rfl rfl (by kernel_rfl) (fun w => by kernel_rfl), ow_val hA (wants_none rfl) 156 (.int .i64 ((i : Nat) : Int)) (by kernel_rfl) rfl rfl rfl rfl (by kernel_rfl) (fun w => by kernel_rfl), ow_val hA (wants_none rfl) 157 (.slice (some ⟨g19, 0, none⟩) m19 cap19) (by kernel_rfl) rfl rfl rfl rfl (by kernel_rfl) (fun w => by kernel_rfl), ow_val hA (wants_none rfl) 158 (.int .i64 ((i : Nat) : Int)) (by kernel_rfl) rfl rfl rfl rfl (by kernel_rfl) (fun w => by kernel_rfl), ow_val hA (wants_none rfl) 159 (.pointer (some ⟨g19, i, none⟩)) (by kernel_rfl) rfl rfl rfl rfl (by kernel_rfl) (fun w => run_idxO (i := i) (l := m19) (c := cap19) rfl (by kernel_rfl) (by kernel_rfl) Try.underlying78 imn sz_int w), ow_elem hA (wants_none rfl) 160 (.int .i64 ((xi : Nat) : Int)) (by kernel_rfl) rfl rfl rfl rfl (by kernel_rfl) 3 ag_int (.tmp 159) rfl (⟨g19, i, none⟩) (by kernel_rfl) (fun w1 hb => (OX.under hb).cell GX.out), ow_val hA (wants_none rfl) 161 (.int .i64 ((i : Nat) : Int)) (by kernel_rfl) rfl rfl rfl rfl (by kernel_rfl) (fun w => by kernel_rfl), ow_val hA (wants_none rfl) 162 (.int .i64 ((i16 : Nat) : Int)) (by kernel_rfl) rfl rfl rfl rfl (by kernel_rfl) (fun w => run_addC 16 rfl (by kernel_rfl) Hi16.out (by omega) w), ow_val hA (wants_none rfl) 163 (.pointer (some ⟨w.heap.size, i16, none⟩)) (by kernel_rfl) rfl rfl rfl rfl (by kernel_rfl) (fun w => run_idx (i := i16) rfl (by kernel_rfl) (by kernel_rfl) Try.underlying22 i32 sz_u8 w), ow_elem hA (wants_none rfl) 164 (.int .u8 (ki : Int)) (by kernel_rfl) rfl rfl rfl rfl (by kernel_rfl) 5 ag_u8 (.tmp 163) rfl (⟨w.heap.size, i16, none⟩) (by kernel_rfl) (fun w1 hb => (A0.under hb).cell GK.out), ow_val hA (wants_none rfl) 165 (.int .i64 ((ki : Nat) : Int)) (by kernel_rfl) rfl rfl rfl rfl (by kernel_rfl) (fun w => run_conv83 rfl (by kernel_rfl) ki8 w), ow_val hA (wants_none rfl) 166 (.int .i64 ((zz : Nat) : Int)) (by kernel_rfl) rfl rfl rfl rfl (by kernel_rfl) (fun w => run_addVZ' rfl (by kernel_rfl) (by kernel_rfl) Hzz.out (by omega) w), ow_val hA (wants_none rfl) 167 (.pointer (some ⟨g19, i, none⟩)) (by kernel_rfl) rfl rfl rfl rfl (by kernel_rfl) (fun w => run_idxO (i := i) (l := m19) (c := cap19) rfl (by kernel_rfl) (by kernel_rfl) Try.underlying78 imn sz_int w), trivial⟩) ?_
                case hst1 => intro q hq; cases hq
                case hst2 => intro q hq; cases hq
                intro fv wt hf hD hwt
                simp only [putR, List.foldl_cons, List.foldl_nil, List.map_cons, List.map_nil, Act.put, List.setIfInBounds_toArray, List.set_cons_succ, List.set_cons_zero]
                clear hf hD
                refine wl_setOI rfl (.tmp 167) (.tmp 166) rfl (w.heap.size + 2) g19 m19 cap19 i zz X (by kernel_rfl) (by kernel_rfl) (OX.under hwt) imn ?_
                intro w4 OX4 P4
                have A04 := P4.blk (A0.under hwt) (by omega)
                have A14 := P4.blk (A1.under hwt) (by omega)
                have HB4 := (HB.trans (hwt.mono HB.size)).trans (P4.below (by omega))
                clear OX A0 A1 HB hwt P4 GX GK Hi16 Hzz
                go_wp2_with fail
                go_roundg (gk - 1)
                case measure => omega
                case rel => exact ⟨i + 1, _, by omega, by first | (simp; done) | go_num, OX4, EV2, BX2, A04, A14, HB4⟩
              case neg =>
                have hili : ¬ (i : Int) < 16 := by omega
                have ei : i = 16 := by omega
                obtain ⟨W, hW⟩ : ∃ W, W = U % 340282366920938463463374607431768211456 + sN key := ⟨_, rfl⟩
                have eW : val (X.take 16) = W := by rw [EV.out, ei, SK.out, hW]
                have ETW : Kept (digs W 16 = TG) := ⟨TT.out W (by rw [hW]; exact EU.out _)⟩
                have lmn : X.length = m19 := OX.len
                have BX2 : ∀ u, (X.take 16).getD u 0 ≤ 1099511627776 := fun u => by
                  have := BX.out u
                  rw [List.getD_eq_getElem?_getD] at this
                  rw [List.getD_eq_getElem?_getD, List.getElem?_take]
                  split
                  · split at this <;> omega
                  · exact Nat.zero_le _
                have CC : Kept _ := ⟨carry6 (X.take 16) g19 16 cap19 16 wr (by rw [List.length_take, lmn]; omega) (by decide) (by decide) (by decide) BX2 (OX.holdsTake 16)⟩
                rw [eW] at CC
                have mcap : m19 ≤ cap19 := OX.2.2.1
                have c16 : 16 ≤ cap19 := by omega
                clear EV BX BX2 eW hW ei lmn
                go_wp2_with (first | ((with_reducible refine wv_val (d := 169) ?hd ?hw (.slice (some ⟨g19, 0, none⟩) 16 cap19) ?hr ?_); (case hd => rfl); (case hw => kernel_rfl); (case hr => intro w; exact cutTo_run (l := m19) (m := 16) rfl (by kernel_rfl) (by kernel_rfl) Try.underlying78 sz_int c16 w); simp only [Act.put, List.setIfInBounds_toArray, List.set_cons_succ, List.set_cons_zero]))
                refine CC.out.mono ?_
                rintro e w5 ⟨g21, cap21, m21, rfl, O21, h1621, h7021, hV21, hb5⟩
                have A05 := A1.under hb5
                have HB5 := HB.trans (hb5.mono HB.size)
                have sz5' : w.heap.size + 1 < w5.heap.size := A05.lt
                have g21l : g21 < w5.heap.size := O21.lt
                clear CC OX A0 A1 HB hb5 hV21
                go_wp2_with fail
                have D22 : Blk (w5.alloc (.cells #[.int .u8 0, .int .u8 0, .int .u8 0, .int .u8 0, .int .u8 0, .int .u8 0, .int .u8 0, .int .u8 0, .int .u8 0, .int .u8 0, .int .u8 0, .int .u8 0, .int .u8 0, .int .u8 0, .int .u8 0, .int .u8 0] 43)) w5.heap.size 43 (ints .u8 (mix TG Z0 0)) := by rw [mix_zero, ← EI.out]; exact blk_new w5 _ _
                have D1 := A05.alloc (.cells #[.int .u8 0, .int .u8 0, .int .u8 0, .int .u8 0, .int .u8 0, .int .u8 0, .int .u8 0, .int .u8 0, .int .u8 0, .int .u8 0, .int .u8 0, .int .u8 0, .int .u8 0, .int .u8 0, .int .u8 0, .int .u8 0] 43)
                have D21 := O21.alloc (.cells #[.int .u8 0, .int .u8 0, .int .u8 0, .int .u8 0, .int .u8 0, .int .u8 0, .int .u8 0, .int .u8 0, .int .u8 0, .int .u8 0, .int .u8 0, .int .u8 0, .int .u8 0, .int .u8 0, .int .u8 0, .int .u8 0] 43)
                have QD := HB5.alloc HB5.size (.cells #[.int .u8 0, .int .u8 0, .int .u8 0, .int .u8 0, .int .u8 0, .int .u8 0, .int .u8 0, .int .u8 0, .int .u8 0, .int .u8 0, .int .u8 0, .int .u8 0, .int .u8 0, .int .u8 0, .int .u8 0, .int .u8 0] 43)
                generalize hWW : w5.alloc (.cells #[.int .u8 0, .int .u8 0, .int .u8 0, .int .u8 0, .int .u8 0, .int .u8 0, .int .u8 0, .int .u8 0, .int .u8 0, .int .u8 0, .int .u8 0, .int .u8 0, .int .u8 0, .int .u8 0, .int .u8 0, .int .u8 0] 43) = w6 at *
                generalize hg22 : w5.heap.size = g22 at *
                clear A05 O21 HB5 hWW hg22
                have HTZ : Kept (TG.length = Z0.length) := ⟨by rw [LT.out, LZ.out]⟩
                go_loopg [23] 16 (fun k7 s23 wr => ∃ i : Nat, i + k7 = 16 ∧ s23 = .int .i64 (i : Int) ∧ Blk wr g22 43 (ints .u8 (mix TG Z0 i)) ∧ Blk wr (w.heap.size + 1) 43 (ints .u8 Z0) ∧ (∃ bs, OI bs g21 m21 cap21 (digs W m21) wr) ∧ Below w.heap.size w wr)
                case atStart => exact ⟨0, by omega, rfl, D22, D1, ⟨_, D21⟩, QD⟩
                case round =>
                  clear D22 D1 D21 QD
                  obtain ⟨i, hi16, rfl, D22, D1, ⟨bs, D21⟩, HB⟩ := hrel
                  by_cases hil : i < 16
                  case pos =>
                    have hili : (i : Int) < 16 := by omega
                    have im21 : i < m21 := by omega
                    obtain ⟨x, hx⟩ : ∃ x, x = W / 256 ^ i % 256 := ⟨_, rfl⟩
                    have x8 : x < 256 := by rw [hx]; exact Nat.mod_lt _ (by decide)
                    have KX : Kept (wr.cell? ⟨g21, i, none⟩ = some (.int .i64 ((x : Nat) : Int))) := ⟨D21.cell (by rw [hx]; exact digs_get W m21 i im21)⟩
                    have GT : Kept (TG[i]? = some x) := ⟨by rw [← ETW.out, hx]; exact digs_get W 16 i hil⟩
                    have LM : Kept (i < (ints .u8 (mix TG Z0 i)).size) := ⟨by rw [ints_size, mix_len TG Z0 i HTZ.out, LZ.out]; exact hil⟩
                    clear hx
                    go_wp2_with (first | ((with_reducible refine wv_val (d := 178) ?hd ?hw (.pointer (some ⟨g21, i, none⟩)) ?hr ?_); (case hd => rfl); (case hw => kernel_rfl); (case hr => intro w; exact run_idxO (i := i) (l := m21) rfl (by kernel_rfl) (by kernel_rfl) Try.underlying78 im21 sz_int w); simp only [Act.put, List.setIfInBounds_toArray, List.set_cons_succ, List.set_cons_zero]) | ((with_reducible refine wv_elem (d := 179) ?hd ?hw 3 ag_int (.tmp 178) ?ho (⟨g21, i, none⟩) ?hx (.int .i64 ((x : Nat) : Int)) ?hc ?_); (case hd => rfl); (case hw => kernel_rfl); (case ho => rfl); (case hx => kernel_rfl); (case hc => exact KX.out); simp only [Act.put, List.setIfInBounds_toArray, List.set_cons_succ, List.set_cons_zero]) | ((with_reducible refine wv_val (d := 180) ?hd ?hw (.int .u8 (x : Int)) ?hr ?_); (case hd => rfl); (case hw => kernel_rfl); (case hr => intro w; exact run_c38 rfl (by kernel_rfl) x8 w); simp only [Act.put, List.setIfInBounds_toArray, List.set_cons_succ, List.set_cons_zero]) | ((with_reducible refine wv_val (d := 181) ?hd ?hw (.pointer (some ⟨g22, i, none⟩)) ?hr ?_); (case hd => rfl); (case hw => kernel_rfl); (case hr => intro w; exact run_idx rfl (by kernel_rfl) (by kernel_rfl) Try.underlying43 hil sz_u8 w); simp only [Act.put, List.setIfInBounds_toArray, List.set_cons_succ, List.set_cons_zero]) | (refine wl_setElem rfl 5 sz_u8 (.tmp 181) (.tmp 180) rfl g22 i .u8 (x : Int) rfl rfl _ D22 LM.out ?_))
                    intro w7 E22 P7
                    rw [ints_set, mix_set TG Z0 i x HTZ.out GT.out] at E22
                    have E1 := P7.blk D1 (by omega)
                    have E21 := D21.put P7 (by omega)
                    have HB7 := HB.trans (P7.below (by omega))
                    clear D22 D1 D21 HB P7 KX GT LM
                    go_wp2_with fail
                    go_roundg (gk - 1)
                    case measure => omega
                    case rel => exact ⟨i + 1, by omega, by first | (simp; done) | go_num, E22, E1, ⟨_, E21⟩, HB7⟩
                  case neg =>
                    have hili : ¬ (i : Int) < 16 := by omega
                    rw [show i = Z0.length by rw [LZ.out]; omega, mix_all TG Z0 HTZ.out] at D22
                    clear D21
                    go_wp2_with (first | (refine wl_load rfl 43 (.tmp 22) rfl g22 rfl (ints .u8 TG) 16 5 Try.underlying43 (by rw [ints_size, LT.out]; exact a16_info) D22 ?_) | (refine wl_store rfl 43 (.tmp 4) (.tmp 182) rfl (w.heap.size + 1) (ints .u8 TG) rfl rfl _ D1 (by rw [ints_size, LT.out]; exact a16_info) (by rw [ints_size, ints_size, LT.out, LZ.out]) (ints_one _ _) ?_))
                    intro w8 E4 P8
                    go_wp2
                    exact bodyPost_ret (v := .agg (ints .u8 TG)) (results_cell_row Try.results29 _ _ _ 43 (ints .u8 TG) (0, 0) _ rfl E4 Try.underlying43 rfl (by rw [ints_size, LT.out]; exact a16_info)) rfl ⟨rfl, HB.trans (P8.below (by omega))⟩
          case neg =>
            have B149 : Kept (false = decide (4 ≤ d16)) := ⟨(decide_eq_false h4).symm⟩
            have EU : Kept (∀ s, (N % 340282366920938463463374607431768211456 + s) % 340282366920938463463374607431768211456 = (polyT (rN key) b k % 1361129467683753853853498429727072845819 + s) % 340282366920938463463374607431768211456) := ⟨fun s => last_tag0 N _ s (by
              have h : ¬ 1361129467683753853853498429727072845824 ≤ N + 5 := fun h => h4 (hbig.2 h)
              omega) NP.out⟩
            clear hbig h4 O19'
            go_wp2_with (first | ((with_reducible refine wv_val (d := 147) ?hd ?hw (.pointer (some ⟨g19, 16, none⟩)) ?hr ?_); (case hd => rfl); (case hw => kernel_rfl); (case hr => intro w; exact run_idxO (i := 16) (l := m19) rfl (by kernel_rfl) (by kernel_rfl) Try.underlying78 m16 sz_int w); simp only [Act.put, List.setIfInBounds_toArray, List.set_cons_succ, List.set_cons_zero]) | ((with_reducible refine wv_elem (d := 148) ?hd ?hw 3 ag_int (.tmp 147) ?ho (⟨g19, 16, none⟩) ?hx (.int .i64 ((d16 : Nat) : Int)) ?hc ?_); (case hd => rfl); (case hw => kernel_rfl); (case ho => rfl); (case hx => kernel_rfl); (case hc => exact K16.out); simp only [Act.put, List.setIfInBounds_toArray, List.set_cons_succ, List.set_cons_zero]) | ((with_reducible refine wv_val (d := 149) ?hd ?hw (.bool false) ?hr ?_); (case hd => rfl); (case hw => kernel_rfl); (case hr => intro w; exact run_geq4 false rfl (by kernel_rfl) B149.out w); simp only [Act.put, List.setIfInBounds_toArray, List.set_cons_succ, List.set_cons_zero]))
            go_loopg [20] 16 (fun k6 s20 wr => ∃ (i : Nat) (X : List Nat), i + k6 = 16 ∧ s20 = .int .i64 (i : Int) ∧ OI (w.heap.size + 2) g8 17 cap8 X wr ∧ Kept (val (X.take 16) = N % 340282366920938463463374607431768211456 + val ((key.drop 16).take i)) ∧ Kept (∀ u, X.getD u 0 ≤ if u < i then 510 else 255) ∧ Blk wr w.heap.size 22 (ints .u8 key) ∧ Blk wr (w.heap.size + 1) 43 (ints .u8 Z0) ∧ Below w.heap.size w wr)
            case atStart => exact ⟨0, _, by omega, rfl, O8, ⟨by rw [digs_take _ _ 16 (by omega), val_digs, List.take_zero]; rfl⟩, ⟨fun u => by
              rw [if_neg (by omega)]
              exact Nat.le_of_lt_succ (getD_lt (digs_bytes _ _) u)⟩, A0, A1, HB⟩
            case round =>
              clear O8 A0 A1 HB K16
              obtain ⟨i, X, hi16, rfl, OX, EV, BX, A0, A1, HB⟩ := hrel
              have bgn : w.heap.size + 2 ≤ g8 := OX.1
              by_cases hil : i < 16
              case pos =>
                have hili : (i : Int) < 16 := by omega
                have imn : i < 17 := by omega
                obtain ⟨i16, hi16'⟩ : ∃ x, x = 16 + i := ⟨_, rfl⟩
                have i32 : i16 < 32 := by omega
                obtain ⟨xi, hxi⟩ : ∃ x, X[i]? = some x := ⟨_, List.getElem?_eq_getElem (by rw [OX.len]; exact imn)⟩
                obtain ⟨ki, hki⟩ : ∃ x, key[i16]? = some x := ⟨_, List.getElem?_eq_getElem (by rw [LK.out]; exact i32)⟩
                obtain ⟨zz, hzz⟩ : ∃ x, x = xi + ki := ⟨_, rfl⟩
                have ki8 : ki < 256 := YK.out i16 ki hki
                have xiB : xi ≤ 255 := by
                  have := BX.out i
                  rw [List.getD_eq_getElem?_getD, hxi, if_neg (by omega)] at this
                  exact this
                have zzB : zz ≤ 600 := by omega
                have GX : Kept _ := ⟨hxi⟩
                have GK : Kept ((ints .u8 key)[i16]? = some (.int .u8 (ki : Int))) := ⟨ints_get hki⟩
                have Hi16 : Kept _ := ⟨hi16'⟩
                have Hzz : Kept _ := ⟨hzz⟩
                have EV2 : Kept (val ((X.set i zz).take 16) = N % 340282366920938463463374607431768211456 + val ((key.drop 16).take (i + 1))) := ⟨by
                  rw [List.take_set, val_add_at (X.take 16) i xi ki zz (by rw [List.getElem?_take_of_lt hil]; exact hxi) hzz, EV.out, val_take_at (key.drop 16) i ki (by rw [List.getElem?_drop, ← hi16']; exact hki), Nat.add_assoc]⟩
                have BX2 : Kept (∀ u, (X.set i zz).getD u 0 ≤ if u < i + 1 then 510 else 255) := ⟨bound_set X i xi ki zz i 0 hxi BX.out rfl (by omega) hzz⟩
                clear hxi hki hzz hi16' EV BX
                go_wp2_with fail
                refine region_ownL wr 13 [(155, .slice (some ⟨g8, 0, none⟩) 17 cap8), (156, .int .i64 ((i : Nat) : Int)), (157, .slice (some ⟨g8, 0, none⟩) 17 cap8), (158, .int .i64 ((i : Nat) : Int)), (159, .pointer (some ⟨g8, i, none⟩)), (160, .int .i64 ((xi : Nat) : Int)), (161, .int .i64 ((i : Nat) : Int)), (162, .int .i64 ((i16 : Nat) : Int)), (163, .pointer (some ⟨w.heap.size, i16, none⟩)), (164, .int .u8 (ki : Int)), (165, .int .i64 ((ki : Nat) : Int)), (166, .int .i64 ((zz : Nat) : Int)), (167, .pointer (some ⟨g8, i, none⟩))] [] [] [] rfl (by kernel_rfl) (by kernel_rfl) (by kernel_rfl) (by kernel_rfl) (by kernel_rfl) (by kernel_rfl) (by kernel_rfl) (by kernel_rfl) (by kernel_rfl) (by kernel_rfl) (by kernel_rfl) ?hst1 ?hst2 (Below.refl _ _) (fun hA => ⟨ow_val hA (wants_none rfl) 155 (.slice (some ⟨g8, 0, none⟩) 17 cap8) (by kernel_rfl) rfl rfl rfl rfl (by kernel_rfl) (fun w => by kernel_rfl), ow_val hA (wants_none rfl) 156 (.int .i64 ((i : Nat) : Int)) (by kernel_rfl) rfl rfl rfl rfl (by kernel_rfl) (fun w => by kernel_rfl), ow_val hA (wants_none rfl) 157 (.slice (some ⟨g8, 0, none⟩) 17 cap8) (by kernel_rfl) rfl rfl rfl rfl (by kernel_rfl) (fun w => by kernel_rfl), ow_val hA (wants_none rfl) 158 (.int .i64 ((i : Nat) : Int)) (by kernel_rfl) rfl rfl rfl rfl (by kernel_rfl) (fun w => by kernel_rfl), ow_val hA (wants_none rfl) 159 (.pointer (some ⟨g8, i, none⟩)) (by kernel_rfl) rfl rfl rfl rfl (by kernel_rfl) (fun w => run_idxO (i := i) (l := 17) (c := cap8) rfl (by kernel_rfl) (by kernel_rfl) Try.underlying78 imn sz_int w), ow_elem hA (wants_none rfl) 160 (.int .i64 ((xi : Nat) : Int)) (by kernel_rfl) rfl rfl rfl rfl (by kernel_rfl) 3 ag_int (.tmp 159) rfl (⟨g8, i, none⟩) (by kernel_rfl) (fun w1 hb => (OX.under hb).cell GX.out), ow_val hA (wants_none rfl) 161 (.int .i64 ((i : Nat) : Int)) (by kernel_rfl) rfl rfl rfl rfl (by kernel_rfl) (fun w => by kernel_rfl), ow_val hA (wants_none rfl) 162 (.int .i64 ((i16 : Nat) : Int)) (by kernel_rfl) rfl rfl rfl rfl (by kernel_rfl) (fun w => run_addC 16 rfl (by kernel_rfl) Hi16.out (by omega) w), ow_val hA (wants_none rfl) 163 (.pointer (some ⟨w.heap.size, i16, none⟩)) (by kernel_rfl) rfl rfl rfl rfl (by kernel_rfl) (fun w => run_idx (i := i16) rfl (by kernel_rfl) (by kernel_rfl) Try.underlying22 i32 sz_u8 w), ow_elem hA (wants_none rfl) 164 (.int .u8 (ki : Int)) (by kernel_rfl) rfl rfl rfl rfl (by kernel_rfl) 5 ag_u8 (.tmp 163) rfl (⟨w.heap.size, i16, none⟩) (by kernel_rfl) (fun w1 hb => (A0.under hb).cell GK.out), ow_val hA (wants_none rfl) 165 (.int .i64 ((ki : Nat) : Int)) (by kernel_rfl) rfl rfl rfl rfl (by kernel_rfl) (fun w => run_conv83 rfl (by kernel_rfl) ki8 w), ow_val hA (wants_none rfl) 166 (.int .i64 ((zz : Nat) : Int)) (by kernel_rfl) rfl rfl rfl rfl (by kernel_rfl) (fun w => run_addVZ' rfl (by kernel_rfl) (by kernel_rfl) Hzz.out (by omega) w), ow_val hA (wants_none rfl) 167 (.pointer (some ⟨g8, i, none⟩)) (by kernel_rfl) rfl rfl rfl rfl (by kernel_rfl) (fun w => run_idxO (i := i) (l := 17) (c := cap8) rfl (by kernel_rfl) (by kernel_rfl) Try.underlying78 imn sz_int w), trivial⟩) ?_
                case hst1 => intro q hq; cases hq
                case hst2 => intro q hq; cases hq
                intro fv wt hf hD hwt
                simp only [putR, List.foldl_cons, List.foldl_nil, List.map_cons, List.map_nil, Act.put, List.setIfInBounds_toArray, List.set_cons_succ, List.set_cons_zero]
                clear hf hD
                refine wl_setOI rfl (.tmp 167) (.tmp 166) rfl (w.heap.size + 2) g8 17 cap8 i zz X (by kernel_rfl) (by kernel_rfl) (OX.under hwt) imn ?_
                intro w4 OX4 P4
                have A04 := P4.blk (A0.under hwt) (by omega)
                have A14 := P4.blk (A1.under hwt) (by omega)
                have HB4 := (HB.trans (hwt.mono HB.size)).trans (P4.below (by omega))
                clear OX A0 A1 HB hwt P4 GX GK Hi16 Hzz
                go_wp2_with fail
                go_roundg (gk - 1)
                case measure => omega
                case rel => exact ⟨i + 1, _, by omega, by first | (simp; done) | go_num, OX4, EV2, BX2, A04, A14, HB4⟩
              case neg =>
                have hili : ¬ (i : Int) < 16 := by omega
                have ei : i = 16 := by omega
                obtain ⟨W, hW⟩ : ∃ W, W = N % 340282366920938463463374607431768211456 + sN key := ⟨_, rfl⟩
                have eW : val (X.take 16) = W := by rw [EV.out, ei, SK.out, hW]
                have ETW : Kept (digs W 16 = TG) := ⟨TT.out W (by rw [hW]; exact EU.out _)⟩
                have lmn : X.length = 17 := OX.len
                have BX2 : ∀ u, (X.take 16).getD u 0 ≤ 1099511627776 := fun u => by
                  have := BX.out u
                  rw [List.getD_eq_getElem?_getD] at this
                  rw [List.getD_eq_getElem?_getD, List.getElem?_take]
                  split
                  · split at this <;> omega
                  · exact Nat.zero_le _
                have CC : Kept _ := ⟨carry6 (X.take 16) g8 16 cap8 16 wr (by rw [List.length_take, lmn]; omega) (by decide) (by decide) (by decide) BX2 (OX.holdsTake 16)⟩
                rw [eW] at CC
                have mcap : 17 ≤ cap8 := OX.2.2.1
                have c16 : 16 ≤ cap8 := by omega
                clear EV BX BX2 eW hW ei lmn
                go_wp2_with (first | ((with_reducible refine wv_val (d := 169) ?hd ?hw (.slice (some ⟨g8, 0, none⟩) 16 cap8) ?hr ?_); (case hd => rfl); (case hw => kernel_rfl); (case hr => intro w; exact cutTo_run (l := 17) (m := 16) rfl (by kernel_rfl) (by kernel_rfl) Try.underlying78 sz_int c16 w); simp only [Act.put, List.setIfInBounds_toArray, List.set_cons_succ, List.set_cons_zero]))
                refine CC.out.mono ?_
                rintro e w5 ⟨g21, cap21, m21, rfl, O21, h1621, h7021, hV21, hb5⟩
                have A05 := A1.under hb5
                have HB5 := HB.trans (hb5.mono HB.size)
                have sz5' : w.heap.size + 1 < w5.heap.size := A05.lt
                have g21l : g21 < w5.heap.size := O21.lt
                clear CC OX A0 A1 HB hb5 hV21
                go_wp2_with fail
                have D22 : Blk (w5.alloc (.cells #[.int .u8 0, .int .u8 0, .int .u8 0, .int .u8 0, .int .u8 0, .int .u8 0, .int .u8 0, .int .u8 0, .int .u8 0, .int .u8 0, .int .u8 0, .int .u8 0, .int .u8 0, .int .u8 0, .int .u8 0, .int .u8 0] 43)) w5.heap.size 43 (ints .u8 (mix TG Z0 0)) := by rw [mix_zero, ← EI.out]; exact blk_new w5 _ _
                have D1 := A05.alloc (.cells #[.int .u8 0, .int .u8 0, .int .u8 0, .int .u8 0, .int .u8 0, .int .u8 0, .int .u8 0, .int .u8 0, .int .u8 0, .int .u8 0, .int .u8 0, .int .u8 0, .int .u8 0, .int .u8 0, .int .u8 0, .int .u8 0] 43)
                have D21 := O21.alloc (.cells #[.int .u8 0, .int .u8 0, .int .u8 0, .int .u8 0, .int .u8 0, .int .u8 0, .int .u8 0, .int .u8 0, .int .u8 0, .int .u8 0, .int .u8 0, .int .u8 0, .int .u8 0, .int .u8 0, .int .u8 0, .int .u8 0] 43)
                have QD := HB5.alloc HB5.size (.cells #[.int .u8 0, .int .u8 0, .int .u8 0, .int .u8 0, .int .u8 0, .int .u8 0, .int .u8 0, .int .u8 0, .int .u8 0, .int .u8 0, .int .u8 0, .int .u8 0, .int .u8 0, .int .u8 0, .int .u8 0, .int .u8 0] 43)
                generalize hWW : w5.alloc (.cells #[.int .u8 0, .int .u8 0, .int .u8 0, .int .u8 0, .int .u8 0, .int .u8 0, .int .u8 0, .int .u8 0, .int .u8 0, .int .u8 0, .int .u8 0, .int .u8 0, .int .u8 0, .int .u8 0, .int .u8 0, .int .u8 0] 43) = w6 at *
                generalize hg22 : w5.heap.size = g22 at *
                clear A05 O21 HB5 hWW hg22
                have HTZ : Kept (TG.length = Z0.length) := ⟨by rw [LT.out, LZ.out]⟩
                go_loopg [23] 16 (fun k7 s23 wr => ∃ i : Nat, i + k7 = 16 ∧ s23 = .int .i64 (i : Int) ∧ Blk wr g22 43 (ints .u8 (mix TG Z0 i)) ∧ Blk wr (w.heap.size + 1) 43 (ints .u8 Z0) ∧ (∃ bs, OI bs g21 m21 cap21 (digs W m21) wr) ∧ Below w.heap.size w wr)
                case atStart => exact ⟨0, by omega, rfl, D22, D1, ⟨_, D21⟩, QD⟩
                case round =>
                  clear D22 D1 D21 QD
                  obtain ⟨i, hi16, rfl, D22, D1, ⟨bs, D21⟩, HB⟩ := hrel
                  by_cases hil : i < 16
                  case pos =>
                    have hili : (i : Int) < 16 := by omega
                    have im21 : i < m21 := by omega
                    obtain ⟨x, hx⟩ : ∃ x, x = W / 256 ^ i % 256 := ⟨_, rfl⟩
                    have x8 : x < 256 := by rw [hx]; exact Nat.mod_lt _ (by decide)
                    have KX : Kept (wr.cell? ⟨g21, i, none⟩ = some (.int .i64 ((x : Nat) : Int))) := ⟨D21.cell (by rw [hx]; exact digs_get W m21 i im21)⟩
                    have GT : Kept (TG[i]? = some x) := ⟨by rw [← ETW.out, hx]; exact digs_get W 16 i hil⟩
                    have LM : Kept (i < (ints .u8 (mix TG Z0 i)).size) := ⟨by rw [ints_size, mix_len TG Z0 i HTZ.out, LZ.out]; exact hil⟩
                    clear hx
                    go_wp2_with (first | ((with_reducible refine wv_val (d := 178) ?hd ?hw (.pointer (some ⟨g21, i, none⟩)) ?hr ?_); (case hd => rfl); (case hw => kernel_rfl); (case hr => intro w; exact run_idxO (i := i) (l := m21) rfl (by kernel_rfl) (by kernel_rfl) Try.underlying78 im21 sz_int w); simp only [Act.put, List.setIfInBounds_toArray, List.set_cons_succ, List.set_cons_zero]) | ((with_reducible refine wv_elem (d := 179) ?hd ?hw 3 ag_int (.tmp 178) ?ho (⟨g21, i, none⟩) ?hx (.int .i64 ((x : Nat) : Int)) ?hc ?_); (case hd => rfl); (case hw => kernel_rfl); (case ho => rfl); (case hx => kernel_rfl); (case hc => exact KX.out); simp only [Act.put, List.setIfInBounds_toArray, List.set_cons_succ, List.set_cons_zero]) | ((with_reducible refine wv_val (d := 180) ?hd ?hw (.int .u8 (x : Int)) ?hr ?_); (case hd => rfl); (case hw => kernel_rfl); (case hr => intro w; exact run_c38 rfl (by kernel_rfl) x8 w); simp only [Act.put, List.setIfInBounds_toArray, List.set_cons_succ, List.set_cons_zero]) | ((with_reducible refine wv_val (d := 181) ?hd ?hw (.pointer (some ⟨g22, i, none⟩)) ?hr ?_); (case hd => rfl); (case hw => kernel_rfl); (case hr => intro w; exact run_idx rfl (by kernel_rfl) (by kernel_rfl) Try.underlying43 hil sz_u8 w); simp only [Act.put, List.setIfInBounds_toArray, List.set_cons_succ, List.set_cons_zero]) | (refine wl_setElem rfl 5 sz_u8 (.tmp 181) (.tmp 180) rfl g22 i .u8 (x : Int) rfl rfl _ D22 LM.out ?_))
                    intro w7 E22 P7
                    rw [ints_set, mix_set TG Z0 i x HTZ.out GT.out] at E22
                    have E1 := P7.blk D1 (by omega)
                    have E21 := D21.put P7 (by omega)
                    have HB7 := HB.trans (P7.below (by omega))
                    clear D22 D1 D21 HB P7 KX GT LM
                    go_wp2_with fail
                    go_roundg (gk - 1)
                    case measure => omega
                    case rel => exact ⟨i + 1, by omega, by first | (simp; done) | go_num, E22, E1, ⟨_, E21⟩, HB7⟩
                  case neg =>
                    have hili : ¬ (i : Int) < 16 := by omega
                    rw [show i = Z0.length by rw [LZ.out]; omega, mix_all TG Z0 HTZ.out] at D22
                    clear D21
                    go_wp2_with (first | (refine wl_load rfl 43 (.tmp 22) rfl g22 rfl (ints .u8 TG) 16 5 Try.underlying43 (by rw [ints_size, LT.out]; exact a16_info) D22 ?_) | (refine wl_store rfl 43 (.tmp 4) (.tmp 182) rfl (w.heap.size + 1) (ints .u8 TG) rfl rfl _ D1 (by rw [ints_size, LT.out]; exact a16_info) (by rw [ints_size, ints_size, LT.out, LZ.out]) (ints_one _ _) ?_))
                    intro w8 E4 P8
                    go_wp2
                    exact bodyPost_ret (v := .agg (ints .u8 TG)) (results_cell_row Try.results29 _ _ _ 43 (ints .u8 TG) (0, 0) _ rfl E4 Try.underlying43 rfl (by rw [ints_size, LT.out]; exact a16_info)) rfl ⟨rfl, HB.trans (P8.below (by omega))⟩
end Go.Proofs.Ytpamcmhfimnfbaa.sh
