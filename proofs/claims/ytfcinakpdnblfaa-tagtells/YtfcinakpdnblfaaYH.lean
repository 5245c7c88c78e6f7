/-
  Texts compared, and the difference of two tags.
-/
import Derived.Test.YtfcinakpdnblfaaYG
namespace Go.Proofs.Ytfcinakpdnblfaa.sh
open Go Go.RowKit
set_option linter.unusedVariables false
set_option linter.unusedSimpArgs false

/-- What is gathered behind i bytes. -/
def orT (a b : List Nat) : Nat → Nat
  | 0 => 0
  | i + 1 => orT a b i ||| (a.getD i 0 ^^^ b.getD i 0)
theorem getD_lt {l : List Nat} (h : Bytes l) (i : Nat) : l.getD i 0 < 256 := by
  rw [List.getD_eq_getElem?_getD]
  cases hx : l[i]? with
  | none => decide
  | some x => exact h i x hx
theorem orT_lt {a b : List Nat} (ha : Bytes a) (hb : Bytes b) : ∀ i, orT a b i < 256
  | 0 => by simp [orT]
  | i + 1 => Nat.or_lt_two_pow (n := 8) (orT_lt ha hb i) (Nat.xor_lt_two_pow (n := 8) (getD_lt ha i) (getD_lt hb i))
theorem xor_zero (x y : Nat) : x ^^^ y = 0 ↔ x = y := by
  constructor
  · intro h
    have h2 : (x ^^^ y) ^^^ y = 0 ^^^ y := by rw [h]
    rw [Nat.xor_assoc, Nat.xor_self, Nat.xor_zero, Nat.zero_xor] at h2
    exact h2
  · rintro rfl; exact Nat.xor_self _
theorem orT_zero (a b : List Nat) : ∀ n, orT a b n = 0 ↔ ∀ i, i < n → a.getD i 0 = b.getD i 0
  | 0 => by simp [orT]
  | n + 1 => by
    simp only [orT, Nat.or_eq_zero_iff, xor_zero, orT_zero a b n]
    constructor
    · rintro ⟨h1, h2⟩ i hi
      by_cases h : i < n
      · exact h1 i h
      · rw [show i = n by omega]; exact h2
    · exact fun h => ⟨fun i hi => h i (by omega), h n (by omega)⟩
theorem orT_same (a b : List Nat) (h : a.length = b.length) : decide (orT a b a.length = 0) = decide (a = b) := by
  refine decide_eq_decide.2 ?_
  rw [orT_zero]
  constructor
  · intro hi
    apply List.ext_getElem?
    intro i
    by_cases h1 : i < a.length
    · have := hi i h1
      rw [List.getD_eq_getElem?_getD, List.getD_eq_getElem?_getD, List.getElem?_eq_getElem h1, List.getElem?_eq_getElem (by omega)] at this
      rw [List.getElem?_eq_getElem h1, List.getElem?_eq_getElem (by omega)]
      simpa using this
    · rw [List.getElem?_eq_none (by omega), List.getElem?_eq_none (by omega)]
  · rintro rfl i _; rfl
theorem run_orV {o : Oper} {a : Act} {x y : Operand} {m n z : Nat} (ho : o.op = .binOp .or 5 x y 5) (hx : a.eval x = .int .u8 (m : Int)) (hy : a.eval y = .int .u8 (n : Int)) (hm : m < 256) (hn : n < 256) (hz : z = m ||| n) (w : World) : (execOp a.eval o).run Try.prog w = .ok (.value (.int .u8 (z : Int))) w := by
  have h := u8_or_nat m n hm hn
  unfold execOp
  simp only [ho, hx, hy]
  simp [go_sem, h, hz]
theorem run_eq08 {o : Oper} {a : Act} {x : Operand} {m : Nat} (b : Bool) (ho : o.op = .binOp .eql 5 x (.const (.int .u8 0)) 5) (hx : a.eval x = .int .u8 (m : Int)) (hb : b = decide (m = 0)) (w : World) : (execOp a.eval o).run Try.prog w = .ok (.value (.bool b)) w := by
  have e3 : a.eval (.const (.int .u8 0)) = .int .u8 0 := rfl
  unfold execOp
  simp only [ho, hx, e3]
  rw [hb]
  simp [go_sem]
  refine decide_eq_decide.2 ?_
  omega

set_option maxRecDepth 100000 in
set_option maxHeartbeats 1000000 in
theorem EqualD (a b : List Nat) (v u : Value) (w : World) (hya : Bytes a) (hyb : Bytes b) (hv : BytesV v w a) (hu : BytesV u w b) (hlen : a.length ≤ 1000000) :
    Calls Try.prog 12 #[v, u] w fun e w' => e = .returned (.bool (decide (a = b))) ∧ Below w.heap.size w w' := by
  have KA : Kept _ := ⟨hya⟩
  have KB : Kept _ := ⟨hyb⟩
  obtain ⟨p, c, rfl, h1, h2⟩ := hv
  obtain ⟨q, d, rfl, h3, h4⟩ := hu
  obtain ⟨n, hn⟩ : ∃ n, n = a.length := ⟨_, rfl⟩
  obtain ⟨m, hm⟩ : ∃ n, n = b.length := ⟨_, rfl⟩
  obtain ⟨R, hR⟩ : ∃ R, R = decide (a = b) := ⟨_, rfl⟩
  rw [← hn, ← hm, ← hR]
  have CA : Kept (∀ i x : Nat, a[i]? = some x → ∃ A, p = some A ∧ w.cell? (A.add i) = some (.int .u8 (x : Int))) := ⟨fun i x hx => by
    obtain ⟨A, e1, _, e2⟩ := h2 (by intro e; rw [e] at hx; cases hx)
    exact ⟨A, e1, e2 i x hx⟩⟩
  have CB : Kept (∀ i x : Nat, b[i]? = some x → ∃ A, q = some A ∧ w.cell? (A.add i) = some (.int .u8 (x : Int))) := ⟨fun i x hx => by
    obtain ⟨A, e1, _, e2⟩ := h4 (by intro e; rw [e] at hx; cases hx)
    exact ⟨A, e1, e2 i x hx⟩⟩
  have EN : Kept _ := ⟨hn⟩
  have EM : Kept _ := ⟨hm⟩
  have nB : n ≤ 1000000 := by rw [hn]; exact hlen
  clear hlen
  by_cases hnm : n = m
  case neg =>
    have hnmi : ¬ (n : Int) = (m : Int) := by omega
    have e : R = false := by rw [hR]; exact decide_eq_false (fun e => hnm (by rw [hn, hm, e]))
    subst e
    clear hn hm hR h1 h2 h3 h4 hya hyb
    go_enter Try.func12, Try.ntmps12
    go_wp2_with fail
    go_ret
    exact ⟨rfl, Below.refl _ _⟩
  case pos =>
    subst hnm
    have ER : Kept (R = decide (orT a b n = 0)) := ⟨by rw [hR, hn, orT_same a b (by rw [← hn, ← hm])]⟩
    clear hn hm hR h1 h2 h3 h4 hya hyb
    go_enter Try.func12, Try.ntmps12
    go_wp2_with fail
    go_loopg [5, 15] n (fun k s5 s15 wr => ∃ i z : Nat, i + k = n ∧ s5 = .int .u8 (z : Int) ∧ s15 = .int .i64 (i : Int) ∧ Kept (z = orT a b i) ∧ wr = w)
    case atStart => exact ⟨0, 0, by omega, rfl, rfl, ⟨rfl⟩, rfl⟩
    case round =>
      obtain ⟨i, z, hik, rfl, rfl, Hz, hww⟩ := hrel
      obtain rfl := hww.symm
      by_cases hi : i < n
      case pos =>
        have hii : (i : Int) < (n : Int) := by omega
        obtain ⟨x, hx⟩ : ∃ x, a[i]? = some x := ⟨_, List.getElem?_eq_getElem (by have := EN.out; omega)⟩
        obtain ⟨y, hy⟩ : ∃ y, b[i]? = some y := ⟨_, List.getElem?_eq_getElem (by have := EM.out; omega)⟩
        obtain ⟨A, rfl, cA⟩ := CA.out i x hx
        obtain ⟨B, rfl, cB⟩ := CB.out i y hy
        have x8 : x < 256 := KA.out i x hx
        have y8 : y < 256 := KB.out i y hy
        have z8 : z < 256 := by rw [Hz.out]; exact orT_lt KA.out KB.out i
        obtain ⟨t, ht⟩ : ∃ t, t = x ^^^ y := ⟨_, rfl⟩
        have t8 : t < 256 := by rw [ht]; exact Nat.xor_lt_two_pow (n := 8) x8 y8
        obtain ⟨s, hs⟩ : ∃ s, s = z ||| t := ⟨_, rfl⟩
        have Hs : Kept (s = orT a b (i + 1)) := ⟨by rw [hs, ht, Hz.out]; simp only [orT, List.getD_eq_getElem?_getD, hx, hy, Option.getD_some]⟩
        have Et : Kept _ := ⟨ht⟩
        have Es : Kept _ := ⟨hs⟩
        have KcA : Kept _ := ⟨cA⟩
        have KcB : Kept _ := ⟨cB⟩
        clear ht hs hx hy cA cB Hz
        go_wp2_with (first | ((with_reducible refine wv_val (d := 18) ?hd ?hw (.pointer (some (A.add i))) ?hr ?_); (case hd => rfl); (case hw => kernel_rfl); (case hr => intro w; exact run_idxS rfl (by kernel_rfl) (by kernel_rfl) Try.underlying23 hi sz_u8 w); simp only [Act.put, List.setIfInBounds_toArray, List.set_cons_succ, List.set_cons_zero]) | ((with_reducible refine wv_elem (d := 19) ?hd ?hw 5 ag_u8 (.tmp 18) ?ho (A.add i) ?hx (.int .u8 (x : Int)) ?hc ?_); (case hd => rfl); (case hw => kernel_rfl); (case ho => rfl); (case hx => kernel_rfl); (case hc => exact KcA.out); simp only [Act.put, List.setIfInBounds_toArray, List.set_cons_succ, List.set_cons_zero]) | ((with_reducible refine wv_val (d := 24) ?hd ?hw (.pointer (some (B.add i))) ?hr ?_); (case hd => rfl); (case hw => kernel_rfl); (case hr => intro w; exact run_idxS rfl (by kernel_rfl) (by kernel_rfl) Try.underlying23 hi sz_u8 w); simp only [Act.put, List.setIfInBounds_toArray, List.set_cons_succ, List.set_cons_zero]) | ((with_reducible refine wv_elem (d := 25) ?hd ?hw 5 ag_u8 (.tmp 24) ?ho (B.add i) ?hx (.int .u8 (y : Int)) ?hc ?_); (case hd => rfl); (case hw => kernel_rfl); (case ho => rfl); (case hx => kernel_rfl); (case hc => exact KcB.out); simp only [Act.put, List.setIfInBounds_toArray, List.set_cons_succ, List.set_cons_zero]) | ((with_reducible refine wv_val (d := 26) ?hd ?hw (.int .u8 (t : Int)) ?hr ?_); (case hd => rfl); (case hw => kernel_rfl); (case hr => intro w; exact run_xorV rfl (by kernel_rfl) (by kernel_rfl) x8 y8 Et.out w); simp only [Act.put, List.setIfInBounds_toArray, List.set_cons_succ, List.set_cons_zero]) | ((with_reducible refine wv_val (d := 27) ?hd ?hw (.int .u8 (s : Int)) ?hr ?_); (case hd => rfl); (case hw => kernel_rfl); (case hr => intro w; exact run_orV rfl (by kernel_rfl) (by kernel_rfl) z8 t8 Es.out w); simp only [Act.put, List.setIfInBounds_toArray, List.set_cons_succ, List.set_cons_zero]))
        go_roundg (gk - 1)
        case measure => omega
        case rel => exact ⟨i + 1, s, by omega, rfl, by go_num, Hs, rfl⟩
      case neg =>
        have hii : ¬ (i : Int) < (n : Int) := by omega
        obtain rfl : n = i := by omega
        have Hb : Kept (R = decide (z = 0)) := ⟨by rw [ER.out, Hz.out]⟩
        clear ER Hz
        go_wp2_with (first | ((with_reducible refine wv_val (d := 30) ?hd ?hw (.bool R) ?hr ?_); (case hd => rfl); (case hw => kernel_rfl); (case hr => intro w; exact run_eq08 R rfl (by kernel_rfl) Hb.out w); simp only [Act.put, List.setIfInBounds_toArray, List.set_cons_succ, List.set_cons_zero]))
        go_ret
        exact ⟨rfl, Below.refl _ _⟩

theorem run_subII {o : Oper} {a : Act} {x y : Operand} {X Y D : Int} (ho : o.op = .binOp .sub 3 x y 3) (hx : a.eval x = .int .i64 X) (hy : a.eval y = .int .i64 Y) (hD : D = X - Y) (h1 : -1000000 < D) (h2 : D < 1000000) (w : World) : (execOp a.eval o).run Try.prog w = .ok (.value (.int .i64 D)) w := by
  unfold execOp
  simp only [ho, hx, hy]
  simp [go_sem, IntKind.wrap_i64, wrap64]
  omega
theorem run_add256 {o : Oper} {a : Act} {x : Operand} {X : Int} {z : Nat} (ho : o.op = .binOp .add 3 x (.const (.int .i64 256)) 3) (hx : a.eval x = .int .i64 X) (hz : (z : Int) = X + 256) (h2 : z < 1000000) (w : World) : (execOp a.eval o).run Try.prog w = .ok (.value (.int .i64 (z : Int))) w := by
  have e3 : a.eval (.const (.int .i64 256)) = .int .i64 256 := rfl
  unfold execOp
  simp only [ho, hx, e3]
  simp [go_sem, IntKind.wrap_i64, wrap64]
  omega
def minusN (a b : List Nat) : Nat := val a + 340282366920938463463374607431768211456 - val b
theorem minus_facts (a b : List Nat) (i x y : Nat) (hl : a.length = 16) (hm : b.length = 16) (ha : Bytes a) (hb : Bytes b) (hi : i < 16) (hx : a[i]? = some x) (hy : b[i]? = some y) :
    (x < y + bor (val a + 340282366920938463463374607431768211456) (val b) i → minusN a b / 256 ^ i % 256 + y + bor (val a + 340282366920938463463374607431768211456) (val b) i = x + 256 ∧ bor (val a + 340282366920938463463374607431768211456) (val b) (i + 1) = 1) ∧
    (¬ x < y + bor (val a + 340282366920938463463374607431768211456) (val b) i → minusN a b / 256 ^ i % 256 + y + bor (val a + 340282366920938463463374607431768211456) (val b) i = x ∧ bor (val a + 340282366920938463463374607431768211456) (val b) (i + 1) = 0) := by
  have h1 := val_digit a ha.all i (by omega)
  have h2 := val_digit b hb.all i (by omega)
  rw [List.getD_eq_getElem?_getD, hx] at h1
  rw [List.getD_eq_getElem?_getD, hy] at h2
  have hlt := val_lt b hb.all
  rw [hm] at hlt
  have e16 : (256 : Nat) ^ 16 = 340282366920938463463374607431768211456 := by decide
  have h3 : (val a + 340282366920938463463374607431768211456) / 256 ^ i % 256 = val a / 256 ^ i % 256 := by
    have e : (340282366920938463463374607431768211456 : Nat) = 256 ^ i * (256 * 256 ^ (15 - i)) := by rw [← e16, ← Nat.pow_succ', ← Nat.pow_add]; congr 1; omega
    rw [e, Nat.add_mul_div_left _ _ (Nat.pow_pos (by decide)), Nat.add_mul_mod_self_left]
  have h := bor_step (val a + 340282366920938463463374607431768211456) (val b) i (by omega)
  rw [h3, h1, h2] at h
  exact h

set_option maxRecDepth 100000 in
set_option maxHeartbeats 1000000 in
theorem minusD (a b : List Nat) (w : World) (hl : a.length = 16) (hm : b.length = 16) (ha : Bytes a) (hb : Bytes b) :
    Calls Try.prog 13 #[.agg (ints .u8 a), .agg (ints .u8 b)] w fun e w' => e = .returned (.agg (ints .u8 (digs (minusN a b) 16))) ∧ Below w.heap.size w w' := by
  obtain ⟨L, hL⟩ : ∃ L, L = digs (minusN a b) 16 := ⟨_, rfl⟩
  rw [← hL]
  have EL : Kept _ := ⟨hL⟩
  have LL : Kept (L.length = 16) := ⟨by rw [hL]; exact digs_len _ _⟩
  have LA : Kept _ := ⟨hl⟩
  have LB : Kept _ := ⟨hm⟩
  have KA : Kept _ := ⟨ha⟩
  have KB : Kept _ := ⟨hb⟩
  obtain ⟨Z0, hZ0⟩ : ∃ Z, Z = List.replicate 16 0 := ⟨_, rfl⟩
  have LZ : Kept (Z0.length = 16) := ⟨by rw [hZ0]; rfl⟩
  have HLZ : Kept (L.length = Z0.length) := ⟨by rw [LL.out, LZ.out]⟩
  have EI : Kept ((#[.int .u8 0, .int .u8 0, .int .u8 0, .int .u8 0, .int .u8 0, .int .u8 0, .int .u8 0, .int .u8 0, .int .u8 0, .int .u8 0, .int .u8 0, .int .u8 0, .int .u8 0, .int .u8 0, .int .u8 0, .int .u8 0] : Array Value) = ints .u8 Z0) := ⟨by rw [hZ0]; exact z16b_eq⟩
  clear hL hl hm ha hb hZ0
  go_enter Try.func13, Try.ntmps13
  go_wp2_with fail
  generalize hW : (((w.alloc (.cells (ints .u8 a) 25)).alloc (.cells (ints .u8 b) 25)).alloc (.cells #[.int .u8 0, .int .u8 0, .int .u8 0, .int .u8 0, .int .u8 0, .int .u8 0, .int .u8 0, .int .u8 0, .int .u8 0, .int .u8 0, .int .u8 0, .int .u8 0, .int .u8 0, .int .u8 0, .int .u8 0, .int .u8 0] 25)).alloc (.cells #[.int .u8 0, .int .u8 0, .int .u8 0, .int .u8 0, .int .u8 0, .int .u8 0, .int .u8 0, .int .u8 0, .int .u8 0, .int .u8 0, .int .u8 0, .int .u8 0, .int .u8 0, .int .u8 0, .int .u8 0, .int .u8 0] 25) = W
  have B0 : Blk W w.heap.size 25 (ints .u8 a) := by subst hW; exact (((blk_new w _ _).alloc _).alloc _).alloc _
  have B1 : Blk W (w.heap.size + 1) 25 (ints .u8 b) := by subst hW; exact ((blk_top _ _ _ _ (by simp)).alloc _).alloc _
  have B2 : Blk W (w.heap.size + 2) 25 (ints .u8 Z0) := by subst hW; rw [← EI.out]; exact (blk_top _ _ _ _ (by simp)).alloc _
  have B3 : Blk W (w.heap.size + 3) 25 (ints .u8 (mix L Z0 0)) := by subst hW; rw [mix_zero, ← EI.out]; exact blk_top _ _ _ _ (by simp)
  have QB : Below w.heap.size w W := by subst hW; exact ((((Below.refl _ _).alloc (Nat.le_refl _) _).alloc (by simp) _).alloc (by simp; omega) _).alloc (by simp; omega) _
  clear hW EI
  go_loopg [6, 9] 16 (fun k s6 s9 wr => ∃ i c : Nat, i + k = 16 ∧ s6 = .int .i64 (c : Int) ∧ s9 = .int .i64 (i : Int) ∧ Kept (c = bor (val a + 340282366920938463463374607431768211456) (val b) i) ∧ Below w.heap.size w wr ∧ Blk wr w.heap.size 25 (ints .u8 a) ∧ Blk wr (w.heap.size + 1) 25 (ints .u8 b) ∧ Blk wr (w.heap.size + 2) 25 (ints .u8 Z0) ∧ Blk wr (w.heap.size + 3) 25 (ints .u8 (mix L Z0 i)))
  case atStart => exact ⟨0, 0, by omega, rfl, rfl, ⟨(bor_zero _ _).symm⟩, QB, B0, B1, B2, B3⟩
  case round =>
    obtain ⟨i, c, hik, rfl, rfl, HC, HB, A0, A1, A2, A3⟩ := hrel
    clear QB B0 B1 B2 B3
    by_cases hil : i < 16
    case neg =>
      have hlt : ¬ ((i : Int) < 16) := by omega
      have e : mix L Z0 i = L := by rw [show i = Z0.length by rw [LZ.out]; omega]; exact mix_all L Z0 HLZ.out
      rw [e] at A3
      clear A0 A1 e HC
      go_wp2_with (first | (refine wl_load rfl 25 (.tmp 5) rfl (w.heap.size + 3) rfl (ints .u8 L) 16 5 Try.underlying25 (by rw [ints_size, LL.out]; exact a16_info) A3 ?_) | (refine wl_store rfl 25 (.tmp 4) (.tmp 32) rfl (w.heap.size + 2) (ints .u8 L) rfl rfl _ A2 (by rw [ints_size, LL.out]; exact a16_info) (by rw [ints_size, ints_size, HLZ.out]) (ints_one _ _) ?_))
      intro w3 A4 P3
      go_wp2
      exact bodyPost_ret (v := .agg (ints .u8 L)) (results_cell_row Try.results13 _ _ _ 25 (ints .u8 L) (0, 0) _ rfl A4 Try.underlying25 rfl (by rw [ints_size, LL.out]; exact a16_info)) rfl ⟨rfl, HB.trans (P3.below (by omega))⟩
    case pos =>
      have hlt : ((i : Int) < 16) := by omega
      obtain ⟨x, hx⟩ : ∃ x, a[i]? = some x := ⟨_, List.getElem?_eq_getElem (by have := LA.out; omega)⟩
      obtain ⟨y, hy⟩ : ∃ y, b[i]? = some y := ⟨_, List.getElem?_eq_getElem (by have := LB.out; omega)⟩
      have x8 : x < 256 := KA.out i x hx
      have y8 : y < 256 := KB.out i y hy
      have hf := minus_facts a b i x y LA.out LB.out KA.out KB.out hil hx hy
      rw [← HC.out] at hf
      have c1 : c ≤ 1 := by rw [HC.out]; exact bor_le _ _ _
      have gx : Kept ((ints .u8 a)[i]? = some (.int .u8 (x : Int))) := ⟨ints_get hx⟩
      have gy : Kept ((ints .u8 b)[i]? = some (.int .u8 (y : Int))) := ⟨ints_get hy⟩
      obtain ⟨z, hz⟩ : ∃ z, z = minusN a b / 256 ^ i % 256 := ⟨_, rfl⟩
      have gz : Kept (L[i]? = some z) := ⟨by rw [EL.out, hz]; exact digs_get _ 16 i hil⟩
      have z8 : z < 256 := by rw [hz]; exact Nat.mod_lt _ (by decide)
      have LM : Kept (i < (ints .u8 (mix L Z0 i)).size) := ⟨by rw [ints_size, mix_len L Z0 i HLZ.out, LZ.out]; exact hil⟩
      rw [← hz] at hf
      clear hz hx hy HC
      by_cases hneg : x < y + c
      case pos =>
        obtain ⟨e1, e2⟩ := hf.1 hneg
        have E2 : Kept _ := ⟨e2⟩
        obtain ⟨d, hd⟩ : ∃ d : Int, d = (x : Int) - (y : Int) - (c : Int) := ⟨_, rfl⟩
        have d0 : d < 0 := by omega
        have dl : -1000 < d := by omega
        have Ed : Kept _ := ⟨hd⟩
        have Hz : Kept ((z : Int) = d + 256) := ⟨by omega⟩
        clear hf e1 e2 hd
        go_wp2_with fail
        refine region_ownL wr 11 [(12, .int .i64 (i : Int)), (13, .pointer (some ⟨w.heap.size, i, none⟩)), (14, .int .u8 (x : Int)), (15, .int .i64 (x : Int)), (16, .int .i64 (i : Int)), (17, .pointer (some ⟨w.heap.size + 1, i, none⟩)), (18, .int .u8 (y : Int)), (19, .int .i64 (y : Int)), (20, .int .i64 ((x : Int) - (y : Int))), (21, .int .i64 (c : Int)), (22, .int .i64 (d))] [] [] [] rfl (by kernel_rfl) (by kernel_rfl) (by kernel_rfl) (by kernel_rfl) (by kernel_rfl) (by kernel_rfl) (by kernel_rfl) (by kernel_rfl) (by kernel_rfl) (by kernel_rfl) (by kernel_rfl) ?hst1 ?hst2 (Below.refl _ _) (fun hA => ⟨ow_val hA (wants_none rfl) 12 (.int .i64 (i : Int)) (by kernel_rfl) rfl rfl rfl rfl (by kernel_rfl) (fun w => by kernel_rfl), ow_val hA (wants_none rfl) 13 (.pointer (some ⟨w.heap.size, i, none⟩)) (by kernel_rfl) rfl rfl rfl rfl (by kernel_rfl) (fun w => run_idx rfl (by kernel_rfl) (by kernel_rfl) Try.underlying25 hil sz_u8 w), ow_elem hA (wants_none rfl) 14 (.int .u8 (x : Int)) (by kernel_rfl) rfl rfl rfl rfl (by kernel_rfl) 5 ag_u8 (.tmp 13) rfl (⟨w.heap.size, i, none⟩) (by kernel_rfl) (fun w1 hb => (A0.under hb).cell gx.out), ow_val hA (wants_none rfl) 15 (.int .i64 (x : Int)) (by kernel_rfl) rfl rfl rfl rfl (by kernel_rfl) (fun w => run_conv83 rfl (by kernel_rfl) x8 w), ow_val hA (wants_none rfl) 16 (.int .i64 (i : Int)) (by kernel_rfl) rfl rfl rfl rfl (by kernel_rfl) (fun w => by kernel_rfl), ow_val hA (wants_none rfl) 17 (.pointer (some ⟨w.heap.size + 1, i, none⟩)) (by kernel_rfl) rfl rfl rfl rfl (by kernel_rfl) (fun w => run_idx rfl (by kernel_rfl) (by kernel_rfl) Try.underlying25 hil sz_u8 w), ow_elem hA (wants_none rfl) 18 (.int .u8 (y : Int)) (by kernel_rfl) rfl rfl rfl rfl (by kernel_rfl) 5 ag_u8 (.tmp 17) rfl (⟨w.heap.size + 1, i, none⟩) (by kernel_rfl) (fun w1 hb => (A1.under hb).cell gy.out), ow_val hA (wants_none rfl) 19 (.int .i64 (y : Int)) (by kernel_rfl) rfl rfl rfl rfl (by kernel_rfl) (fun w => run_conv83 rfl (by kernel_rfl) y8 w), ow_val hA (wants_none rfl) 20 (.int .i64 ((x : Int) - (y : Int))) (by kernel_rfl) rfl rfl rfl rfl (by kernel_rfl) (fun w => run_subII rfl (by kernel_rfl) (by kernel_rfl) rfl (by omega) (by omega) w), ow_val hA (wants_none rfl) 21 (.int .i64 (c : Int)) (by kernel_rfl) rfl rfl rfl rfl (by kernel_rfl) (fun w => by kernel_rfl), ow_val hA (wants_none rfl) 22 (.int .i64 (d)) (by kernel_rfl) rfl rfl rfl rfl (by kernel_rfl) (fun w => run_subII rfl (by kernel_rfl) (by kernel_rfl) Ed.out (by omega) (by omega) w), trivial⟩) ?_
        case hst1 => intro q hq; cases hq
        case hst2 => intro q hq; cases hq
        intro fv wt hf hD hwt
        simp only [putR, List.foldl_cons, List.foldl_nil, List.map_cons, List.map_nil, Act.put, List.setIfInBounds_toArray, List.set_cons_succ, List.set_cons_zero]
        have B0 := A0.under hwt
        have B1 := A1.under hwt
        have B2 := A2.under hwt
        have B3 := A3.under hwt
        have HB2 := HB.trans (hwt.mono HB.size)
        clear hf hD A0 A1 A2 A3 HB hwt gx gy
        go_wp2_with (first | ((with_reducible refine wv_val (d := 26) ?hd ?hw (.int .i64 (z : Int)) ?hr ?_); (case hd => rfl); (case hw => kernel_rfl); (case hr => intro w; exact run_add256 rfl (by kernel_rfl) Hz.out (by omega) w); simp only [Act.put, List.setIfInBounds_toArray, List.set_cons_succ, List.set_cons_zero]) | ((with_reducible refine wv_val (d := 29) ?hd ?hw (.int .u8 (z : Int)) ?hr ?_); (case hd => rfl); (case hw => kernel_rfl); (case hr => intro w; exact run_c38 rfl (by kernel_rfl) z8 w); simp only [Act.put, List.setIfInBounds_toArray, List.set_cons_succ, List.set_cons_zero]) | ((with_reducible refine wv_val (d := 30) ?hd ?hw (.pointer (some ⟨w.heap.size + 3, i, none⟩)) ?hr ?_); (case hd => rfl); (case hw => kernel_rfl); (case hr => intro w; exact run_idx rfl (by kernel_rfl) (by kernel_rfl) Try.underlying25 hil sz_u8 w); simp only [Act.put, List.setIfInBounds_toArray, List.set_cons_succ, List.set_cons_zero]) | (refine wl_setElem rfl 5 sz_u8 (.tmp 30) (.tmp 29) rfl (w.heap.size + 3) i .u8 (z : Int) rfl rfl _ B3 LM.out ?_))
        intro w4 D3 P4
        rw [ints_set, mix_set L Z0 i z HLZ.out gz.out] at D3
        have D0 := P4.blk B0 (by omega)
        have D1 := P4.blk B1 (by omega)
        have D2 := P4.blk B2 (by omega)
        have HB4 := HB2.trans (P4.below (by omega))
        clear B0 B1 B2 B3 HB2 P4 gz
        go_wp2_with fail
        go_roundg (gk - 1)
        case measure => omega
        case rel => exact ⟨i + 1, 1, by omega, rfl, by simp, ⟨E2.out.symm⟩, HB4, D0, D1, D2, D3⟩
      case neg =>
        obtain ⟨e1, e2⟩ := hf.2 hneg
        have E2 : Kept _ := ⟨e2⟩
        have Ed : Kept ((z : Int) = (x : Int) - (y : Int) - (c : Int)) := ⟨by omega⟩
        have z0 : ¬ (z : Int) < 0 := by omega
        clear hf e1 e2
        go_wp2_with fail
        refine region_ownL wr 11 [(12, .int .i64 (i : Int)), (13, .pointer (some ⟨w.heap.size, i, none⟩)), (14, .int .u8 (x : Int)), (15, .int .i64 (x : Int)), (16, .int .i64 (i : Int)), (17, .pointer (some ⟨w.heap.size + 1, i, none⟩)), (18, .int .u8 (y : Int)), (19, .int .i64 (y : Int)), (20, .int .i64 ((x : Int) - (y : Int))), (21, .int .i64 (c : Int)), (22, .int .i64 ((z : Int)))] [] [] [] rfl (by kernel_rfl) (by kernel_rfl) (by kernel_rfl) (by kernel_rfl) (by kernel_rfl) (by kernel_rfl) (by kernel_rfl) (by kernel_rfl) (by kernel_rfl) (by kernel_rfl) (by kernel_rfl) ?hst1 ?hst2 (Below.refl _ _) (fun hA => ⟨ow_val hA (wants_none rfl) 12 (.int .i64 (i : Int)) (by kernel_rfl) rfl rfl rfl rfl (by kernel_rfl) (fun w => by kernel_rfl), ow_val hA (wants_none rfl) 13 (.pointer (some ⟨w.heap.size, i, none⟩)) (by kernel_rfl) rfl rfl rfl rfl (by kernel_rfl) (fun w => run_idx rfl (by kernel_rfl) (by kernel_rfl) Try.underlying25 hil sz_u8 w), ow_elem hA (wants_none rfl) 14 (.int .u8 (x : Int)) (by kernel_rfl) rfl rfl rfl rfl (by kernel_rfl) 5 ag_u8 (.tmp 13) rfl (⟨w.heap.size, i, none⟩) (by kernel_rfl) (fun w1 hb => (A0.under hb).cell gx.out), ow_val hA (wants_none rfl) 15 (.int .i64 (x : Int)) (by kernel_rfl) rfl rfl rfl rfl (by kernel_rfl) (fun w => run_conv83 rfl (by kernel_rfl) x8 w), ow_val hA (wants_none rfl) 16 (.int .i64 (i : Int)) (by kernel_rfl) rfl rfl rfl rfl (by kernel_rfl) (fun w => by kernel_rfl), ow_val hA (wants_none rfl) 17 (.pointer (some ⟨w.heap.size + 1, i, none⟩)) (by kernel_rfl) rfl rfl rfl rfl (by kernel_rfl) (fun w => run_idx rfl (by kernel_rfl) (by kernel_rfl) Try.underlying25 hil sz_u8 w), ow_elem hA (wants_none rfl) 18 (.int .u8 (y : Int)) (by kernel_rfl) rfl rfl rfl rfl (by kernel_rfl) 5 ag_u8 (.tmp 17) rfl (⟨w.heap.size + 1, i, none⟩) (by kernel_rfl) (fun w1 hb => (A1.under hb).cell gy.out), ow_val hA (wants_none rfl) 19 (.int .i64 (y : Int)) (by kernel_rfl) rfl rfl rfl rfl (by kernel_rfl) (fun w => run_conv83 rfl (by kernel_rfl) y8 w), ow_val hA (wants_none rfl) 20 (.int .i64 ((x : Int) - (y : Int))) (by kernel_rfl) rfl rfl rfl rfl (by kernel_rfl) (fun w => run_subII rfl (by kernel_rfl) (by kernel_rfl) rfl (by omega) (by omega) w), ow_val hA (wants_none rfl) 21 (.int .i64 (c : Int)) (by kernel_rfl) rfl rfl rfl rfl (by kernel_rfl) (fun w => by kernel_rfl), ow_val hA (wants_none rfl) 22 (.int .i64 ((z : Int))) (by kernel_rfl) rfl rfl rfl rfl (by kernel_rfl) (fun w => run_subII rfl (by kernel_rfl) (by kernel_rfl) Ed.out (by omega) (by omega) w), trivial⟩) ?_
        case hst1 => intro q hq; cases hq
        case hst2 => intro q hq; cases hq
        intro fv wt hf hD hwt
        simp only [putR, List.foldl_cons, List.foldl_nil, List.map_cons, List.map_nil, Act.put, List.setIfInBounds_toArray, List.set_cons_succ, List.set_cons_zero]
        have B0 := A0.under hwt
        have B1 := A1.under hwt
        have B2 := A2.under hwt
        have B3 := A3.under hwt
        have HB2 := HB.trans (hwt.mono HB.size)
        clear hf hD A0 A1 A2 A3 HB hwt gx gy
        go_wp2_with (first | ((with_reducible refine wv_val (d := 29) ?hd ?hw (.int .u8 (z : Int)) ?hr ?_); (case hd => rfl); (case hw => kernel_rfl); (case hr => intro w; exact run_c38 rfl (by kernel_rfl) z8 w); simp only [Act.put, List.setIfInBounds_toArray, List.set_cons_succ, List.set_cons_zero]) | ((with_reducible refine wv_val (d := 30) ?hd ?hw (.pointer (some ⟨w.heap.size + 3, i, none⟩)) ?hr ?_); (case hd => rfl); (case hw => kernel_rfl); (case hr => intro w; exact run_idx rfl (by kernel_rfl) (by kernel_rfl) Try.underlying25 hil sz_u8 w); simp only [Act.put, List.setIfInBounds_toArray, List.set_cons_succ, List.set_cons_zero]) | (refine wl_setElem rfl 5 sz_u8 (.tmp 30) (.tmp 29) rfl (w.heap.size + 3) i .u8 (z : Int) rfl rfl _ B3 LM.out ?_))
        intro w4 D3 P4
        rw [ints_set, mix_set L Z0 i z HLZ.out gz.out] at D3
        have D0 := P4.blk B0 (by omega)
        have D1 := P4.blk B1 (by omega)
        have D2 := P4.blk B2 (by omega)
        have HB4 := HB2.trans (P4.below (by omega))
        clear B0 B1 B2 B3 HB2 P4 gz
        go_wp2_with fail
        go_roundg (gk - 1)
        case measure => omega
        case rel => exact ⟨i + 1, 0, by omega, rfl, by simp, ⟨E2.out.symm⟩, HB4, D0, D1, D2, D3⟩
end Go.Proofs.Ytfcinakpdnblfaa.sh
