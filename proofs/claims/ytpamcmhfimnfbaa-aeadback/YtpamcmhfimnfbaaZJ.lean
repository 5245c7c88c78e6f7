/-
  AeadBack, walked.
-/
import Derived.Test.YtpamcmhfimnfbaaZE
import Derived.Test.YtpamcmhfimnfbaaZF
namespace Go.Proofs.Ytpamcmhfimnfbaa.sh
open Go Go.RowKit
set_option linter.unusedVariables false
set_option linter.unusedSimpArgs false

theorem run_rem16K {o : Oper} {a : Act} {x : Operand} {m z : Nat} (c : Nat) (hc : 0 < c) (ho : o.op = .binOp .rem 34 x (.const (.int .u16 (c : Int))) 34) (hx : a.eval x = .int .u16 (m : Int)) (hz : z = m % c) (w : World) : (execOp a.eval o).run Try.prog w = .ok (.value (.int .u16 (z : Int))) w := by
  have e3 : a.eval (.const (.int .u16 (c : Int))) = .int .u16 (c : Int) := rfl
  have h3 : (m : Int).tmod (c : Int) = (z : Int) := by rw [hz, Int.tmod_eq_emod_of_nonneg (by omega)]; exact (Int.natCast_emod _ _).symm
  unfold execOp
  simp only [ho, hx, e3]
  simp [go_sem, h3, show ¬ c = 0 by omega]
theorem run_quo16K {o : Oper} {a : Act} {x : Operand} {m z : Nat} (c : Nat) (hc : 0 < c) (ho : o.op = .binOp .quo 34 x (.const (.int .u16 (c : Int))) 34) (hx : a.eval x = .int .u16 (m : Int)) (hz : z = m / c) (hm : m < 65536) (w : World) : (execOp a.eval o).run Try.prog w = .ok (.value (.int .u16 (z : Int))) w := by
  have e3 : a.eval (.const (.int .u16 (c : Int))) = .int .u16 (c : Int) := rfl
  have h3 : (m : Int).tdiv (c : Int) = (z : Int) := by rw [hz, Int.tdiv_eq_ediv_of_nonneg (by omega)]; exact (Int.natCast_ediv _ _).symm
  have hz2 : z ≤ m := by rw [hz]; exact Nat.div_le_self _ _
  have h4 : IntKind.u16.wrap (z : Int) = (z : Int) := by rw [IntKind.wrap_u16]; omega
  unfold execOp
  simp only [ho, hx, e3]
  simp [go_sem, h3, show ¬ c = 0 by omega, h4]
theorem run_bit {o : Oper} {a : Act} {y : Operand} {c z : Nat} (ho : o.op = .binOp .shl 5 (.const (.int .u8 1)) y 34) (hy : a.eval y = .int .u16 (c : Int)) (hc : c < 8) (hz : z = 2 ^ c) (w : World) : (execOp a.eval o).run Try.prog w = .ok (.value (.int .u8 (z : Int))) w := by
  have e3 : a.eval (.const (.int .u8 1)) = .int .u8 1 := rfl
  unfold execOp
  simp only [ho, hy, e3]
  rw [hz]
  clear hz
  rcases (by omega : c = 0 ∨ c = 1 ∨ c = 2 ∨ c = 3 ∨ c = 4 ∨ c = 5 ∨ c = 6 ∨ c = 7) with rfl | rfl | rfl | rfl | rfl | rfl | rfl | rfl <;> simp [go_sem, Op.shift, IntKind.bits, IntKind.wrap_u8']
theorem run_idxG {o : Oper} {a : Act} {x y : Operand} {i l c g : Nat} {t e : TypeId} (ho : o.op = .indexAddr t x y) (hx : a.eval x = .slice (some ⟨g, 0, none⟩) l c) (hy : a.eval y = .int .i64 (i : Int)) (ht : Try.prog.underlying t = some (.slice e)) (hi : i < l) (sz : ∀ w, (sizeOf e).run Try.prog w = .ok 1 w) (w : World) : (execOp a.eval o).run Try.prog w = .ok (.value (.pointer (some ⟨g, i, none⟩))) w := by
  have h := run_idxS ho hx hy ht hi sz w
  rw [addr_add, Nat.zero_add] at h
  exact h
theorem set_other (T : List Nat) (r x z : Nat) (h : T[r]? = some x) (hne : z ≠ x) : T ≠ T.set r z := by
  intro e
  have h2 := congrArg (fun l => l[r]?) e
  simp only [h] at h2
  have hr : r < T.length := (List.getElem?_eq_some_iff.1 h).1
  rw [List.getElem?_set_self hr] at h2
  exact hne (Option.some.inj h2).symm
theorem bit_turns (x s : Nat) : x ^^^ 2 ^ s ≠ x := by
  intro h
  have h2 : x ^^^ (x ^^^ 2 ^ s) = x ^^^ x := by rw [h]
  rw [← Nat.xor_assoc, Nat.xor_self, Nat.zero_xor] at h2
  have := Nat.two_pow_pos s
  omega

set_option maxRecDepth 100000 in
set_option maxHeartbeats 4000000 in
theorem back7 (key : List Nat) (n : Nat) (va : Value) (a : List Nat) (vb : Value) (b : List Nat) (t0 : Int) (w : World) (hk : key.length = 32) (hy : Bytes key) (hn : n < 18446744073709551616) (hva : BytesV va w a) (hya : Bytes a) (hla : a.length ≤ maxLen) (hvb : BytesV vb w b) (hyb : Bytes b) (hlb : b.length ≤ maxLen) (htt : (Lit.int .u16 t0).wf = true) :
    Calls Try.prog 4 #[.agg (lockA key n va), vb, .int .u16 t0] w fun e w' => e = .returned (.bool true) ∧ Below w.heap.size w w' := by
  obtain ⟨t, rfl, ht16⟩ : ∃ t : Nat, t0 = (t : Int) ∧ t < 65536 := by have := bounds_u16 htt; exact ⟨t0.toNat, by omega, by omega⟩
  have KA : Kept _ := ⟨hva⟩
  have KB : Kept _ := ⟨hvb⟩
  obtain ⟨na, hna⟩ : ∃ n, n = a.length := ⟨_, rfl⟩
  obtain ⟨nb, hnb⟩ : ∃ n, n = b.length := ⟨_, rfl⟩
  obtain ⟨pa, ca, rfl⟩ := slice_form hva hna.symm
  obtain ⟨pb, cb, rfl⟩ := slice_form hvb hnb.symm
  have LK : Kept _ := ⟨hk⟩
  have A0 : Blk (w.alloc (.cells (lockA key n (.slice pa na ca)) 26)) w.heap.size 26 (lockA key n (.slice pa na ca)) := blk_new _ _ _
  have Q0 := lock_below w (lockA key n (.slice pa na ca))
  by_cases hA : 1000 < na
  case pos =>
    have hA' : (1000 : Int) < (na : Int) := by omega
    clear hk hy hn hva hya hla hna hvb hyb hlb hnb htt KA KB
    go_enter Try.func4, Try.ntmps4
    go_wp2_with fail
    refine (alive7 _).mono ?_
    rintro e w1 ⟨rfl, hb1⟩
    have B0 := A0.under hb1
    go_wp2_with (first | ((with_reducible refine wv_val (d := 18) ?hd ?hw (.pointer (some ⟨w.heap.size, 33, none⟩)) ?hr ?_); (case hd => rfl); (case hw => kernel_rfl); (case hr => intro w; kernel_rfl); simp only [Act.put, List.setIfInBounds_toArray, List.set_cons_succ, List.set_cons_zero]) | ((with_reducible refine wv_elem (d := 19) ?hd ?hw 24 ag_bytes (.tmp 18) ?ho (⟨w.heap.size, 33, none⟩) ?hx (.slice pa na ca) ?hc ?_); (case hd => rfl); (case hw => kernel_rfl); (case ho => rfl); (case hx => kernel_rfl); (case hc => exact B0.cell (lock_ad _ _ _ LK.out)); simp only [Act.put, List.setIfInBounds_toArray, List.set_cons_succ, List.set_cons_zero]))
    go_ret
    exact ⟨rfl, Q0.trans (hb1.mono Q0.size)⟩
  case neg =>
  have hA' : ¬ (1000 : Int) < (na : Int) := by omega
  by_cases hB : 1000 < nb
  case pos =>
    have hB' : (1000 : Int) < (nb : Int) := by omega
    clear hk hy hn hva hya hla hna hvb hyb hlb hnb htt KA KB
    go_enter Try.func4, Try.ntmps4
    go_wp2_with fail
    refine (alive7 _).mono ?_
    rintro e w1 ⟨rfl, hb1⟩
    have B0 := A0.under hb1
    go_wp2_with (first | ((with_reducible refine wv_val (d := 18) ?hd ?hw (.pointer (some ⟨w.heap.size, 33, none⟩)) ?hr ?_); (case hd => rfl); (case hw => kernel_rfl); (case hr => intro w; kernel_rfl); simp only [Act.put, List.setIfInBounds_toArray, List.set_cons_succ, List.set_cons_zero]) | ((with_reducible refine wv_elem (d := 19) ?hd ?hw 24 ag_bytes (.tmp 18) ?ho (⟨w.heap.size, 33, none⟩) ?hx (.slice pa na ca) ?hc ?_); (case hd => rfl); (case hw => kernel_rfl); (case ho => rfl); (case hx => kernel_rfl); (case hc => exact B0.cell (lock_ad _ _ _ LK.out)); simp only [Act.put, List.setIfInBounds_toArray, List.set_cons_succ, List.set_cons_zero]))
    go_ret
    exact ⟨rfl, Q0.trans (hb1.mono Q0.size)⟩
  case neg =>
    have hB' : ¬ (1000 : Int) < (nb : Int) := by omega
    obtain ⟨NN, hNN⟩ : ∃ l, l = nonceL n := ⟨_, rfl⟩
    obtain ⟨E, hE⟩ : ∃ l, l = encL key NN 1 b := ⟨_, rfl⟩
    obtain ⟨T, hT⟩ : ∃ l, l = markL key n a E := ⟨_, rfl⟩
    obtain ⟨X, hX⟩ : ∃ l, l = E ++ T := ⟨_, rfl⟩
    have EX : sealL key n a b = X := by rw [hX, hT, hE, hNN]; rfl
    have LE : E.length = nb := by rw [hE, encL_len, ← hnb]
    have LT : T.length = 16 := by rw [hT]; exact markL_len _ _ _ _
    obtain ⟨nx, hnx⟩ : ∃ q, q = nb + 16 := ⟨_, rfl⟩
    have LX : Kept (X.length = nx) := ⟨by rw [hX, List.length_append, LE, LT, hnx]⟩
    have YX : Kept (Bytes X) := ⟨by rw [← EX]; exact sealL_bytes _ _ _ hyb⟩
    obtain ⟨r, hr⟩ : ∃ r, r = t % 16 := ⟨_, rfl⟩
    obtain ⟨q, hq⟩ : ∃ r, r = t / 16 := ⟨_, rfl⟩
    obtain ⟨s, hs⟩ : ∃ r, r = q % 8 := ⟨_, rfl⟩
    obtain ⟨j, hj⟩ : ∃ j, j = nb + r := ⟨_, rfl⟩
    obtain ⟨y, hy2⟩ : ∃ y, y = 2 ^ s := ⟨_, rfl⟩
    have s8 : s < 8 := by omega
    have r16 : r < 16 := by omega
    obtain ⟨x, hx⟩ : ∃ x, T[r]? = some x := ⟨_, List.getElem?_eq_getElem (by omega)⟩
    have hxX : X[j]? = some x := by rw [hX, hj, ← LE, List.getElem?_append_right (by omega), Nat.add_sub_cancel_left]; exact hx
    have hx8 : x < 256 := YX.out j x hxX
    have hy8 : y < 256 := by rw [hy2]; exact Nat.lt_of_lt_of_le (Nat.pow_lt_pow_right (by decide) s8) (by decide)
    obtain ⟨z, hz⟩ : ∃ z, z = x ^^^ y := ⟨_, rfl⟩
    have hz8 : z < 256 := by rw [hz]; exact xor_lt8 hx8 hy8
    obtain ⟨X2, hX2⟩ : ∃ l, l = X.set j z := ⟨_, rfl⟩
    have EX2 : X2 = E ++ T.set r z := by rw [hX2, hX, hj, ← LE, List.set_append_right _ _ (by omega), Nat.add_sub_cancel_left]
    have YX2 : Bytes X2 := by
      rw [hX2]
      intro i v hv
      by_cases hij : j = i
      · subst hij
        rw [List.getElem?_set_self (by have := (List.getElem?_eq_some_iff.1 hxX).1; exact this)] at hv
        cases hv; exact hz8
      · rw [List.getElem?_set_ne hij] at hv
        exact YX.out i v hv
    have hbad : openP key n a X2 = ([], 5) := by
      rw [EX2, hE, hNN]
      refine openP_bad key n a b _ (by omega) (by omega) (by rw [List.length_set, LT]) ?_
      rw [← hNN, ← hE, ← hT]
      exact set_other T r x z hx (by rw [hz, hy2]; exact bit_turns x s)
    have CS : Kept (∀ (w' : World), Below w.heap.size w w' → Calls Try.prog 9 #[.agg (ints .u8 key), .int .u64 (n : Int), .slice pa na ca, .slice pb nb cb] w' fun e w2 => ∃ v, e = .returned (.tuple #[v, .int .i64 0]) ∧ BytesV v w2 X ∧ Below w'.heap.size w' w2) := ⟨fun w' hb => by
      have h := SealD key n a b _ _ w' hk hy hn (KA.out.under hb) (KB.out.under hb) hya hyb
      rw [sealP_ok _ _ _ _ (by omega) (by omega), EX] at h
      exact h⟩
    have CO : Kept (∀ (v : Value) (w' : World), Below w.heap.size w w' → BytesV v w' X → Calls Try.prog 11 #[.agg (ints .u8 key), .int .u64 (n : Int), .slice pa na ca, v] w' fun e w2 => ∃ v, e = .returned (.tuple #[v, .int .i64 0]) ∧ BytesV v w2 b ∧ Below w'.heap.size w' w2) := ⟨fun v w' hb hv => by
      have h := OpenD key n a X _ v w' hk hy hn (KA.out.under hb) hv hya YX.out
      rw [← EX, openP_seal _ _ _ _ (by omega) (by omega)] at h
      exact h⟩
    have CBD : Kept (∀ (v : Value) (w' : World), Below w.heap.size w w' → BytesV v w' X2 → Calls Try.prog 11 #[.agg (ints .u8 key), .int .u64 (n : Int), .slice pa na ca, v] w' fun e w2 => ∃ v, e = .returned (.tuple #[v, .int .i64 5]) ∧ BytesV v w2 [] ∧ Below w'.heap.size w' w2) := ⟨fun v w' hb hv => by
      have h := OpenD key n a X2 _ v w' hk hy hn (KA.out.under hb) hv hya YX2
      rw [hbad] at h
      exact h⟩
    have CSQ : Kept (∀ (v : Value) (l : List Nat) (w' : World), Below w.heap.size w w' → BytesV v w' l → l.length = r → Calls Try.prog 11 [.agg (ints .u8 key), .int .u64 (n : Int), .slice pa na ca, v].toArray w' fun e w2 => e = .returned (.tuple #[.slice none 0 0, .int .i64 4]) ∧ Below w'.heap.size w' w2) := ⟨fun v l w' hb hv hl => Open_short key n a l _ v w' (KA.out.under hb) hv (by omega) (by omega)⟩
    have GX : Kept _ := ⟨hxX⟩
    have Er : Kept _ := ⟨hr⟩
    have Eq : Kept _ := ⟨hq⟩
    have Es : Kept _ := ⟨hs⟩
    have Ej : Kept _ := ⟨hj⟩
    have Ey : Kept _ := ⟨hy2⟩
    have Ez : Kept _ := ⟨hz⟩
    have Enx : Kept _ := ⟨hnx⟩
    have EX2' : Kept _ := ⟨hX2⟩
    have q65 : q < 65536 := by omega
    have j62 : j < 4611686018427387904 := by omega
    have nx62 : nx < 4611686018427387904 := by omega
    have hjx : j < nx := by omega
    have nx0 : 0 < nx := by omega
    have nx10 : nx ≤ 1016 := by omega
    have hrx : r ≤ nx := by omega
    clear hk hy hn hva hya hla hna hvb hyb hlb hnb htt KA hNN hE hT hX EX LE LT hnx hr hq hs hj hy2 hx hxX hz hz8 hX2 EX2 YX2 hbad
    go_enter Try.func4, Try.ntmps4
    go_wp2_with fail
    refine (alive7 _).mono ?_
    rintro e w1 ⟨rfl, hb1⟩
    have B0 := A0.under hb1
    have Q1 := Q0.trans (hb1.mono Q0.size)
    have C := CS.out w1 Q1
    clear A0 Q0 hb1 CS
    go_wp2_with (first | ((with_reducible refine wv_val (d := 18) ?hd ?hw (.pointer (some ⟨w.heap.size, 33, none⟩)) ?hr ?_); (case hd => rfl); (case hw => kernel_rfl); (case hr => intro w; kernel_rfl); simp only [Act.put, List.setIfInBounds_toArray, List.set_cons_succ, List.set_cons_zero]) | ((with_reducible refine wv_elem (d := 19) ?hd ?hw 24 ag_bytes (.tmp 18) ?ho (⟨w.heap.size, 33, none⟩) ?hx (.slice pa na ca) ?hc ?_); (case hd => rfl); (case hw => kernel_rfl); (case ho => rfl); (case hx => kernel_rfl); (case hc => exact B0.cell (lock_ad _ _ _ LK.out)); simp only [Act.put, List.setIfInBounds_toArray, List.set_cons_succ, List.set_cons_zero]) | ((with_reducible refine wv_val (d := 28) ?hd ?hw (.pointer (some ⟨w.heap.size, 0, none⟩)) ?hr ?_); (case hd => rfl); (case hw => kernel_rfl); (case hr => intro w; kernel_rfl); simp only [Act.put, List.setIfInBounds_toArray, List.set_cons_succ, List.set_cons_zero]) | ((with_reducible refine wv_partA (d := 29) ?hd ?hw 22 (.tmp 28) ?ho (w.heap.size) 0 ?hx (t' := 26) (lockA key n (.slice pa na ca)) (ints .u8 key) 32 5 Try.underlying22 ?hs ?hg ?hp ?_); (case hd => rfl); (case hw => kernel_rfl); (case ho => rfl); (case hx => kernel_rfl); (case hs => rw [ints_size, LK.out]; exact t32_info); (case hg => exact B0); (case hp => exact lock_key _ _ _); simp only [Act.put, List.setIfInBounds_toArray, List.set_cons_succ, List.set_cons_zero]) | ((with_reducible refine wv_val (d := 30) ?hd ?hw (.pointer (some ⟨w.heap.size, 32, none⟩)) ?hr ?_); (case hd => rfl); (case hw => kernel_rfl); (case hr => intro w; kernel_rfl); simp only [Act.put, List.setIfInBounds_toArray, List.set_cons_succ, List.set_cons_zero]) | ((with_reducible refine wv_elem (d := 31) ?hd ?hw 23 ag_u64 (.tmp 30) ?ho (⟨w.heap.size, 32, none⟩) ?hx (.int .u64 (n : Int)) ?hc ?_); (case hd => rfl); (case hw => kernel_rfl); (case ho => rfl); (case hx => kernel_rfl); (case hc => exact B0.cell (lock_num _ _ _ LK.out)); simp only [Act.put, List.setIfInBounds_toArray, List.set_cons_succ, List.set_cons_zero]) | ((with_reducible refine wv_val (d := 32) ?hd ?hw (.pointer (some ⟨w.heap.size, 33, none⟩)) ?hr ?_); (case hd => rfl); (case hw => kernel_rfl); (case hr => intro w; kernel_rfl); simp only [Act.put, List.setIfInBounds_toArray, List.set_cons_succ, List.set_cons_zero]) | ((with_reducible refine wv_elem (d := 33) ?hd ?hw 24 ag_bytes (.tmp 32) ?ho (⟨w.heap.size, 33, none⟩) ?hx (.slice pa na ca) ?hc ?_); (case hd => rfl); (case hw => kernel_rfl); (case ho => rfl); (case hx => kernel_rfl); (case hc => exact B0.cell (lock_ad _ _ _ LK.out)); simp only [Act.put, List.setIfInBounds_toArray, List.set_cons_succ, List.set_cons_zero]))
    refine C.mono ?_
    rintro e w2 ⟨v1, rfl, h1, hb2⟩
    have B2 := B0.under hb2
    have Q2 := Q1.trans (hb2.mono Q1.size)
    obtain ⟨px, cx, rfl⟩ := slice_form h1 LX.out
    have VX : Kept _ := ⟨h1⟩
    have C2 := CO.out _ w2 Q2 h1
    clear B0 Q1 hb2 h1 C CO
    go_wp2_with (first | ((with_reducible refine wv_val (d := 39) ?hd ?hw (.pointer (some ⟨w.heap.size, 0, none⟩)) ?hr ?_); (case hd => rfl); (case hw => kernel_rfl); (case hr => intro w; kernel_rfl); simp only [Act.put, List.setIfInBounds_toArray, List.set_cons_succ, List.set_cons_zero]) | ((with_reducible refine wv_partA (d := 40) ?hd ?hw 22 (.tmp 39) ?ho (w.heap.size) 0 ?hx (t' := 26) (lockA key n (.slice pa na ca)) (ints .u8 key) 32 5 Try.underlying22 ?hs ?hg ?hp ?_); (case hd => rfl); (case hw => kernel_rfl); (case ho => rfl); (case hx => kernel_rfl); (case hs => rw [ints_size, LK.out]; exact t32_info); (case hg => exact B2); (case hp => exact lock_key _ _ _); simp only [Act.put, List.setIfInBounds_toArray, List.set_cons_succ, List.set_cons_zero]) | ((with_reducible refine wv_val (d := 41) ?hd ?hw (.pointer (some ⟨w.heap.size, 32, none⟩)) ?hr ?_); (case hd => rfl); (case hw => kernel_rfl); (case hr => intro w; kernel_rfl); simp only [Act.put, List.setIfInBounds_toArray, List.set_cons_succ, List.set_cons_zero]) | ((with_reducible refine wv_elem (d := 42) ?hd ?hw 23 ag_u64 (.tmp 41) ?ho (⟨w.heap.size, 32, none⟩) ?hx (.int .u64 (n : Int)) ?hc ?_); (case hd => rfl); (case hw => kernel_rfl); (case ho => rfl); (case hx => kernel_rfl); (case hc => exact B2.cell (lock_num _ _ _ LK.out)); simp only [Act.put, List.setIfInBounds_toArray, List.set_cons_succ, List.set_cons_zero]) | ((with_reducible refine wv_val (d := 43) ?hd ?hw (.pointer (some ⟨w.heap.size, 33, none⟩)) ?hr ?_); (case hd => rfl); (case hw => kernel_rfl); (case hr => intro w; kernel_rfl); simp only [Act.put, List.setIfInBounds_toArray, List.set_cons_succ, List.set_cons_zero]) | ((with_reducible refine wv_elem (d := 44) ?hd ?hw 24 ag_bytes (.tmp 43) ?ho (⟨w.heap.size, 33, none⟩) ?hx (.slice pa na ca) ?hc ?_); (case hd => rfl); (case hw => kernel_rfl); (case ho => rfl); (case hx => kernel_rfl); (case hc => exact B2.cell (lock_ad _ _ _ LK.out)); simp only [Act.put, List.setIfInBounds_toArray, List.set_cons_succ, List.set_cons_zero]))
    refine C2.mono ?_
    rintro e w3 ⟨v2, rfl, h2, hb3⟩
    have B3 := B2.under hb3
    have Q3 := Q2.trans (hb3.mono Q2.size)
    have VX3 : Kept _ := ⟨VX.out.under hb3⟩
    have V2 : Kept _ := ⟨h2⟩
    have VB3 : Kept _ := ⟨KB.out.under Q3⟩
    have RN : Kept (Row w3.heap.size 5 .u8 [] (.slice none 0 0) w3) := ⟨row_nil _ _ _ _⟩
    have SN : Kept (([] : List Nat).length + X.length ≤ 8796093022208) := ⟨by rw [LX.out]; simp; omega⟩
    have SB : w3.heap.size ≤ w3.heap.size := Nat.le_refl _
    clear B2 Q2 hb3 h2 C2 VX KB
    go_wp2_with (first | ((with_reducible refine wv_str (d := 57) ?hd ?hw (.tmp 56) ?ho (v2) ?hx (b) ?hl ?_); (case hd => rfl); (case hw => kernel_rfl); (case ho => rfl); (case hx => kernel_rfl); (case hl => exact V2.out); simp only [Act.put, List.setIfInBounds_toArray, List.set_cons_succ, List.set_cons_zero]) | ((with_reducible refine wv_str (d := 59) ?hd ?hw (.tmp 58) ?ho (.slice pb nb cb) ?hx (b) ?hl ?_); (case hd => rfl); (case hw => kernel_rfl); (case ho => rfl); (case hx => kernel_rfl); (case hl => exact VB3.out); simp only [Act.put, List.setIfInBounds_toArray, List.set_cons_succ, List.set_cons_zero]) | ((with_reducible refine wv_val (d := 60) ?hd ?hw (.bool false) ?hr ?_); (case hd => rfl); (case hw => kernel_rfl); (case hr => intro w; exact run_neq_str (s := strOf b) rfl (by kernel_rfl) (by kernel_rfl) w); simp only [Act.put, List.setIfInBounds_toArray, List.set_cons_succ, List.set_cons_zero]) | ((with_reducible refine wv_val (d := 67) ?hd ?hw (.int .i64 (nx : Int)) ?hr ?_); (case hd => rfl); (case hw => kernel_rfl); (case hr => intro w; exact run_addZ 16 rfl (by kernel_rfl) Enx.out nx62 w); simp only [Act.put, List.setIfInBounds_toArray, List.set_cons_succ, List.set_cons_zero]) | (refine wl_app (by kernel_rfl) (.const (.slice none 0 0)) (.tmp 70) 24 5 .u8 1 rfl Try.underlying24 inf_u8 (by decide) w3.heap.size [] X _ _ rfl rfl RN.out VX3.out SN.out SB ?_))
    intro v4 w4 r4 g4 _
    have Q34 := app_below (Below.refl w3.heap.size w3) SB RN.out g4
    have r4 : Row w3.heap.size 5 .u8 X v4 w4 := r4
    obtain ⟨g, cap, cur, rfl, hg3, hBg, hcs, hcx⟩ := r4.form (by rw [LX.out]; exact nx0)
    rw [LX.out] at r4 hcs ⊢
    have R4 : Kept _ := ⟨r4⟩
    have KG : Kept _ := ⟨hBg⟩
    have B4 := B3.below Q34 B3.lt
    have Q4 := Q3.trans (Q34.mono Q3.size)
    have VX4 : Kept _ := ⟨VX3.out.under Q34⟩
    have CX : Kept (w4.cell? ⟨g, j, none⟩ = some (.int .u8 (x : Int))) := ⟨hBg.cell (hcx j x GX.out)⟩
    have hjs : j < cur.size := by omega
    have hgw : w.heap.size < g := Nat.lt_of_lt_of_le B3.lt hg3
    have hgr : Kept (∀ b, blkOf (.slice px nx cx) = some b → b < w3.heap.size) := ⟨fun b hb => by
      obtain ⟨_, _, e1, _, e3⟩ := VX3.out
      simp only [Value.slice.injEq] at e1
      obtain ⟨A, e4, e5, _⟩ := e3 (by intro e; have := LX.out; rw [e] at this; simp at this; omega)
      rw [← e1.1] at e4
      subst e4
      cases hb
      exact e5⟩
    clear B3 Q3 VX3 V2 VB3 RN SN SB g4 r4 hBg hcs hcx Q34
    go_wp2_with (first | ((with_reducible refine wv_val (d := 76) ?hd ?hw (.int .u16 (r : Int)) ?hr ?_); (case hd => rfl); (case hw => kernel_rfl); (case hr => intro w; exact run_rem16K 16 (by decide) rfl (by kernel_rfl) Er.out w); simp only [Act.put, List.setIfInBounds_toArray, List.set_cons_succ, List.set_cons_zero]) | ((with_reducible refine wv_val (d := 77) ?hd ?hw (.int .i64 (r : Int)) ?hr ?_); (case hd => rfl); (case hw => kernel_rfl); (case hr => intro w; exact run_c163 rfl (by kernel_rfl) (by omega) w); simp only [Act.put, List.setIfInBounds_toArray, List.set_cons_succ, List.set_cons_zero]) | ((with_reducible refine wv_val (d := 78) ?hd ?hw (.int .i64 (j : Int)) ?hr ?_); (case hd => rfl); (case hw => kernel_rfl); (case hr => intro w; exact run_addN rfl (by kernel_rfl) (by kernel_rfl) Ej.out j62 w); simp only [Act.put, List.setIfInBounds_toArray, List.set_cons_succ, List.set_cons_zero]) | ((with_reducible refine wv_val (d := 79) ?hd ?hw (.pointer (some ⟨g, j, none⟩)) ?hr ?_); (case hd => rfl); (case hw => kernel_rfl); (case hr => intro w; exact run_idxG rfl (by kernel_rfl) (by kernel_rfl) Try.underlying24 hjx sz_u8 w); simp only [Act.put, List.setIfInBounds_toArray, List.set_cons_succ, List.set_cons_zero]) | ((with_reducible refine wv_elem (d := 80) ?hd ?hw 5 ag_u8 (.tmp 79) ?ho (⟨g, j, none⟩) ?hx (.int .u8 (x : Int)) ?hc ?_); (case hd => rfl); (case hw => kernel_rfl); (case ho => rfl); (case hx => kernel_rfl); (case hc => exact CX.out); simp only [Act.put, List.setIfInBounds_toArray, List.set_cons_succ, List.set_cons_zero]) | ((with_reducible refine wv_val (d := 82) ?hd ?hw (.int .u16 (q : Int)) ?hr ?_); (case hd => rfl); (case hw => kernel_rfl); (case hr => intro w; exact run_quo16K 16 (by decide) rfl (by kernel_rfl) Eq.out ht16 w); simp only [Act.put, List.setIfInBounds_toArray, List.set_cons_succ, List.set_cons_zero]) | ((with_reducible refine wv_val (d := 83) ?hd ?hw (.int .u16 (s : Int)) ?hr ?_); (case hd => rfl); (case hw => kernel_rfl); (case hr => intro w; exact run_rem16K 8 (by decide) rfl (by kernel_rfl) Es.out w); simp only [Act.put, List.setIfInBounds_toArray, List.set_cons_succ, List.set_cons_zero]) | ((with_reducible refine wv_val (d := 84) ?hd ?hw (.int .u8 (y : Int)) ?hr ?_); (case hd => rfl); (case hw => kernel_rfl); (case hr => intro w; exact run_bit rfl (by kernel_rfl) s8 Ey.out w); simp only [Act.put, List.setIfInBounds_toArray, List.set_cons_succ, List.set_cons_zero]) | ((with_reducible refine wv_val (d := 85) ?hd ?hw (.int .u8 (z : Int)) ?hr ?_); (case hd => rfl); (case hw => kernel_rfl); (case hr => intro w; exact run_xorV rfl (by kernel_rfl) (by kernel_rfl) hx8 hy8 Ez.out w); simp only [Act.put, List.setIfInBounds_toArray, List.set_cons_succ, List.set_cons_zero]) | ((with_reducible refine wv_val (d := 86) ?hd ?hw (.pointer (some ⟨g, j, none⟩)) ?hr ?_); (case hd => rfl); (case hw => kernel_rfl); (case hr => intro w; exact run_idxG rfl (by kernel_rfl) (by kernel_rfl) Try.underlying24 hjx sz_u8 w); simp only [Act.put, List.setIfInBounds_toArray, List.set_cons_succ, List.set_cons_zero]) | (refine wl_setElem rfl 5 sz_u8 (.tmp 86) (.tmp 85) rfl g j .u8 (z : Int) rfl rfl _ KG.out hjs ?_))
    intro w5 AG P5
    have R5 : Row w3.heap.size 5 .u8 X2 (.slice (some ⟨g, 0, none⟩) nx cap) w5 := by rw [EX2'.out]; exact row_set R4.out KG.out j z AG
    have B5 := P5.blk B4 (by omega)
    have Q5 := Q4.trans (P5.below (by omega))
    have VX5 : Kept (BytesV (.slice px nx cx) w5 X) := ⟨IntsV.keeps VX4.out P5.grown (by
      cases hbk : blkOf (.slice px nx cx) with
      | none => exact .inl rfl
      | some b => exact .inr (fun e => by have := hgr.out b hbk; have := Option.some.inj e; omega))⟩
    have C5 := CBD.out _ w5 Q5 (row_bytes R5)
    clear B4 Q4 VX4 R4 KG AG P5 R5 CBD CX
    go_wp2_with (first | ((with_reducible refine wv_val (d := 88) ?hd ?hw (.pointer (some ⟨w.heap.size, 0, none⟩)) ?hr ?_); (case hd => rfl); (case hw => kernel_rfl); (case hr => intro w; kernel_rfl); simp only [Act.put, List.setIfInBounds_toArray, List.set_cons_succ, List.set_cons_zero]) | ((with_reducible refine wv_partA (d := 89) ?hd ?hw 22 (.tmp 88) ?ho (w.heap.size) 0 ?hx (t' := 26) (lockA key n (.slice pa na ca)) (ints .u8 key) 32 5 Try.underlying22 ?hs ?hg ?hp ?_); (case hd => rfl); (case hw => kernel_rfl); (case ho => rfl); (case hx => kernel_rfl); (case hs => rw [ints_size, LK.out]; exact t32_info); (case hg => exact B5); (case hp => exact lock_key _ _ _); simp only [Act.put, List.setIfInBounds_toArray, List.set_cons_succ, List.set_cons_zero]) | ((with_reducible refine wv_val (d := 90) ?hd ?hw (.pointer (some ⟨w.heap.size, 32, none⟩)) ?hr ?_); (case hd => rfl); (case hw => kernel_rfl); (case hr => intro w; kernel_rfl); simp only [Act.put, List.setIfInBounds_toArray, List.set_cons_succ, List.set_cons_zero]) | ((with_reducible refine wv_elem (d := 91) ?hd ?hw 23 ag_u64 (.tmp 90) ?ho (⟨w.heap.size, 32, none⟩) ?hx (.int .u64 (n : Int)) ?hc ?_); (case hd => rfl); (case hw => kernel_rfl); (case ho => rfl); (case hx => kernel_rfl); (case hc => exact B5.cell (lock_num _ _ _ LK.out)); simp only [Act.put, List.setIfInBounds_toArray, List.set_cons_succ, List.set_cons_zero]) | ((with_reducible refine wv_val (d := 92) ?hd ?hw (.pointer (some ⟨w.heap.size, 33, none⟩)) ?hr ?_); (case hd => rfl); (case hw => kernel_rfl); (case hr => intro w; kernel_rfl); simp only [Act.put, List.setIfInBounds_toArray, List.set_cons_succ, List.set_cons_zero]) | ((with_reducible refine wv_elem (d := 93) ?hd ?hw 24 ag_bytes (.tmp 92) ?ho (⟨w.heap.size, 33, none⟩) ?hx (.slice pa na ca) ?hc ?_); (case hd => rfl); (case hw => kernel_rfl); (case ho => rfl); (case hx => kernel_rfl); (case hc => exact B5.cell (lock_ad _ _ _ LK.out)); simp only [Act.put, List.setIfInBounds_toArray, List.set_cons_succ, List.set_cons_zero]))
    refine C5.mono ?_
    rintro e w6 ⟨v6, rfl, h6, hb6⟩
    have B6 := B5.under hb6
    have Q6 := Q5.trans (hb6.mono Q5.size)
    obtain ⟨p6, c6, rfl⟩ := slice_form h6 (show ([] : List Nat).length = 0 from rfl)
    have VX6 : Kept _ := ⟨VX5.out.under hb6⟩
    have hrc : r ≤ cx := by obtain ⟨_, _, e1, e2, _⟩ := VX6.out; simp only [Value.slice.injEq] at e1; have := LX.out; omega
    have CSH : Kept (∀ w', Below w6.heap.size w6 w' → Calls Try.prog 11 [.agg (ints .u8 key), .int .u64 (n : Int), .slice pa na ca, .slice px r cx].toArray w' fun e w2 => e = .returned (.tuple #[.slice none 0 0, .int .i64 4]) ∧ Below w'.heap.size w' w2) := ⟨fun w' hb => CSQ.out _ (X.take r) w' (Q6.trans (hb.mono Q6.size)) ((bytesV_ints (VX6.out.under hb)).take (by rw [LX.out]; exact hrx)) (by rw [List.length_take, LX.out]; omega)⟩
    clear B5 Q5 hb6 h6 C5 VX5 CSQ
    go_wp2_with fail
    refine region_ownL w6 17 [(99, .pointer (some ⟨w.heap.size, 0, none⟩)), (100, .agg (ints .u8 key)), (101, .pointer (some ⟨w.heap.size, 32, none⟩)), (102, .int .u64 (n : Int)), (103, .pointer (some ⟨w.heap.size, 33, none⟩)), (104, .slice pa na ca), (105, .slice px nx cx), (106, .int .u16 (t : Int)), (107, .int .i64 (t : Int)), (108, .int .i64 (r : Int)), (109, .slice px r cx), (110, .tuple #[.slice none 0 0, .int .i64 4]), (98, .tuple #[.slice none 0 0, .int .i64 4]), (111, .slice none 0 0), (112, .int .i64 4), (14, .slice none 0 0), (15, .int .i64 4)] [] [] [] rfl (by kernel_rfl) (by kernel_rfl) (by kernel_rfl) (by kernel_rfl) (by kernel_rfl) (by kernel_rfl) (by kernel_rfl) (by kernel_rfl) (by kernel_rfl) (by kernel_rfl) (by kernel_rfl) ?hst1 ?hst2 (Below.refl _ _) (fun hA => ⟨ow_val hA (wants_none rfl) 99 (.pointer (some ⟨w.heap.size, 0, none⟩)) (by kernel_rfl) rfl rfl rfl rfl (by kernel_rfl) (fun w => by kernel_rfl), ow_partA hA (wants_none rfl) 100 (.agg (ints .u8 key)) (by kernel_rfl) rfl rfl rfl rfl (by kernel_rfl) 22 (.tmp 99) rfl (w.heap.size) 0 (by kernel_rfl) 26 (lockA key n (.slice pa na ca)) (ints .u8 key) 32 5 Try.underlying22 (by rw [ints_size, LK.out]; exact t32_info) (fun w1 hb => B6.under hb) (lock_key _ _ _) rfl, ow_val hA (wants_none rfl) 101 (.pointer (some ⟨w.heap.size, 32, none⟩)) (by kernel_rfl) rfl rfl rfl rfl (by kernel_rfl) (fun w => by kernel_rfl), ow_elem hA (wants_none rfl) 102 (.int .u64 (n : Int)) (by kernel_rfl) rfl rfl rfl rfl (by kernel_rfl) 23 ag_u64 (.tmp 101) rfl (⟨w.heap.size, 32, none⟩) (by kernel_rfl) (fun w1 hb => (B6.under hb).cell (lock_num _ _ _ LK.out)), ow_val hA (wants_none rfl) 103 (.pointer (some ⟨w.heap.size, 33, none⟩)) (by kernel_rfl) rfl rfl rfl rfl (by kernel_rfl) (fun w => by kernel_rfl), ow_elem hA (wants_none rfl) 104 (.slice pa na ca) (by kernel_rfl) rfl rfl rfl rfl (by kernel_rfl) 24 ag_bytes (.tmp 103) rfl (⟨w.heap.size, 33, none⟩) (by kernel_rfl) (fun w1 hb => (B6.under hb).cell (lock_ad _ _ _ LK.out)), ow_val hA (wants_none rfl) 105 (.slice px nx cx) (by kernel_rfl) rfl rfl rfl rfl (by kernel_rfl) (fun w => by kernel_rfl), ow_val hA (wants_none rfl) 106 (.int .u16 (t : Int)) (by kernel_rfl) rfl rfl rfl rfl (by kernel_rfl) (fun w => by kernel_rfl), ow_val hA (wants_none rfl) 107 (.int .i64 (t : Int)) (by kernel_rfl) rfl rfl rfl rfl (by kernel_rfl) (fun w => run_c163 rfl (by kernel_rfl) ht16 w), ow_val hA (wants_none rfl) 108 (.int .i64 (r : Int)) (by kernel_rfl) rfl rfl rfl rfl (by kernel_rfl) (fun w => run_remK 16 (by decide) rfl (by kernel_rfl) Er.out w), ow_val hA (wants_none rfl) 109 (.slice px r cx) (by kernel_rfl) rfl rfl rfl rfl (by kernel_rfl) (fun w => cutTo_run (p := px) (l := nx) (c := cx) (m := r) rfl (by kernel_rfl) (by kernel_rfl) Try.underlying24 sz_u8 hrc w), ow_calld hA (wants_none rfl) 110 (.tuple #[.slice none 0 0, .int .i64 4]) (by kernel_rfl) rfl rfl rfl rfl (by kernel_rfl) 11 Try.f11 _ [.tmp 100, .tmp 102, .tmp 104, .tmp 109] _ [.agg (ints .u8 key), .int .u64 (n : Int), .slice pa na ca, .slice px r cx] rfl (by kernel_rfl) Try.func11 (by kernel_rfl) rfl (CSH.out), ow_val hA (wants_none rfl) 98 (.tuple #[.slice none 0 0, .int .i64 4]) (by kernel_rfl) rfl rfl rfl rfl (by kernel_rfl) (fun w => by kernel_rfl), ow_val hA (wants_none rfl) 111 (.slice none 0 0) (by kernel_rfl) rfl rfl rfl rfl (by kernel_rfl) (fun w => by kernel_rfl), ow_val hA (wants_none rfl) 112 (.int .i64 4) (by kernel_rfl) rfl rfl rfl rfl (by kernel_rfl) (fun w => by kernel_rfl), ow_val hA (wants_none rfl) 14 (.slice none 0 0) (by kernel_rfl) rfl rfl rfl rfl (by kernel_rfl) (fun w => by kernel_rfl), ow_val hA (wants_none rfl) 15 (.int .i64 4) (by kernel_rfl) rfl rfl rfl rfl (by kernel_rfl) (fun w => by kernel_rfl), trivial⟩) ?_
    case hst1 => intro q hq; cases hq
    case hst2 => intro q hq; cases hq
    intro fv w7 hf hD hb7
    simp only [putR, List.foldl_cons, List.foldl_nil, List.map_cons, List.map_nil, Act.put, List.setIfInBounds_toArray, List.set_cons_succ, List.set_cons_zero]
    refine (show wpList _ _ _ [] _ _ from ?_)
    refine wpList_nil ?_
    have Q7 := Q6.trans (hb7.mono Q6.size)
    clear hf hD CSH VX6 B6 Q6 hb7
    go_wp2_with fail
    go_ret
    exact ⟨rfl, Q7⟩
end Go.Proofs.Ytpamcmhfimnfbaa.sh
