/-
  The reference's words.
-/
import Derived.Test.YthnkipicehppmaaDoorTJ
namespace Go.Proofs.YthnkipicehppmaaDoor.sh
open Go Go.RowKit
set_option linter.unusedVariables false
set_option linter.unusedSimpArgs false


theorem run_idx0 {o : Oper} {a : Act} {x y : Operand} {i l c g : Nat} {t e : TypeId} (ho : o.op = .indexAddr t x y) (hx : a.eval x = .slice (some ⟨g, 0, none⟩) l c) (hy : a.eval y = .int .i64 (i : Int)) (ht : Tryd.prog.underlying t = some (.slice e)) (hi : i < l) (sz : ∀ w, (sizeOf e).run Tryd.prog w = .ok 1 w) (w : World) : (execOp a.eval o).run Tryd.prog w = .ok (.value (.pointer (some ⟨g, i, none⟩))) w := by
  rw [run_idxS ho hx hy ht hi sz, addr_add, Nat.zero_add]
theorem build_one {o : Oper} {a : Act} {x : Operand} {s : Nat} {w : World} (ho : o.op = .buildSlice 64 1 #[(0, x)]) (hx : a.eval x = .int .u32 (s : Int)) : (execOp a.eval o).run Tryd.prog w = .ok (.value (.slice (some ⟨w.heap.size, 0, none⟩) 1 1)) (w.alloc (.cells #[.int .u32 (s : Int)] 47)) := by
  have h1 : ∀ w, (Instr.buildSlice 64 1 #[(0, .int .u32 (s : Int))]).run Tryd.prog w = .ok (.slice (some ⟨w.heap.size, 0, none⟩) 1 1) (w.alloc (.cells #[.int .u32 (s : Int)] 47)) := fun w => by kernel_rfl
  unfold execOp
  simp only [ho]
  simp [hx, h1]
theorem run_conv832 {o : Oper} {a : Act} {x : Operand} {z : Nat} (ho : o.op = .convert 5 47 x) (hx : a.eval x = .int .u8 (z : Int)) (hz : z < 256) (w : World) : (execOp a.eval o).run Tryd.prog w = .ok (.value (.int .u32 (z : Int))) w := by
  unfold execOp
  simp only [ho, hx]
  simp [go_sem, IntKind.wrap_u32']
  omega
theorem run_mulI {o : Oper} {a : Act} {x : Operand} {i z : Nat} (ho : o.op = .binOp .mul 3 (.const (.int .i64 4)) x 3) (hx : a.eval x = .int .i64 (i : Int)) (hi : i < 100000) (hz : z = 4 * i) (w : World) : (execOp a.eval o).run Tryd.prog w = .ok (.value (.int .i64 (z : Int))) w := by
  have e3 : a.eval (.const (.int .i64 4)) = .int .i64 4 := rfl
  unfold execOp
  simp only [ho, hx, e3]
  simp [go_sem, IntKind.wrap_i64, wrap64]
  omega
theorem turn2 (n m1 m2 : Nat) : turnN n [m1, m2] = rotr n m1 ^^^ rotr n m2 := by
  unfold turnN
  rw [List.foldl_cons, List.foldl_cons, List.foldl_nil, Nat.zero_xor]
/-- The number of so many bytes of a word. -/
def wordTo (b : List Nat) (i : Nat) : Nat → Nat
  | 0 => 0
  | k + 1 => wordTo b i k * 256 + b.getD (4 * i + k) 0
theorem getD_byte {b : List Nat} (h : Bytes b) (i : Nat) : b.getD i 0 < 256 := by
  cases hq : b[i]? with
  | none => simp [List.getD_eq_getElem?_getD, hq]
  | some y => simp [List.getD_eq_getElem?_getD, hq]; exact h i y hq
theorem wordTo_lt (b : List Nat) (h : Bytes b) (i : Nat) : ∀ k, wordTo b i k < 256 ^ k
  | 0 => by simp [wordTo]
  | k + 1 => by
    have := wordTo_lt b h i k
    have := getD_byte h (4 * i + k)
    rw [wordTo, Nat.pow_succ]
    omega
def w16 (b : List Nat) (n : Nat) : List Nat := (List.range n).map fun i => wordTo b i 4
/-- The words, so many further ones reckoned. -/
def wsTo (b : List Nat) : Nat → List Nat
  | 0 => w16 b 16
  | j + 1 => wsTo b j ++ [extN ((wsTo b j).getD (16 + j - 2) 0) ((wsTo b j).getD (16 + j - 7) 0) ((wsTo b j).getD (16 + j - 15) 0) ((wsTo b j).getD (16 + j - 16) 0)]
theorem wsTo_zero (b : List Nat) : wsTo b 0 = w16 b 16 := rfl
theorem wsTo_len (b : List Nat) : ∀ j, (wsTo b j).length = 16 + j
  | 0 => by simp [wsTo, w16]
  | j + 1 => by rw [wsTo, List.length_append, wsTo_len b j]; simp; omega
theorem wsTo_small (b : List Nat) (h : Bytes b) : ∀ j, Small (wsTo b j)
  | 0 => fun i x hx => by
    unfold wsTo w16 at hx
    rw [List.getElem?_map] at hx
    obtain ⟨y, _, rfl⟩ := Option.map_eq_some_iff.1 hx
    exact wordTo_lt b h y 4
  | j + 1 => fun i x hx => by
    rw [wsTo, List.getElem?_append] at hx
    split at hx
    · exact wsTo_small b h j i x hx
    · have := List.mem_of_getElem? hx
      simp at this
      rw [this]
      exact extN_lt _ _ _ _
set_option maxRecDepth 100000 in
set_option maxHeartbeats 4000000 in
theorem words_any (b : List Nat) (v : Value) (w : World) (hv : BytesV v w b) (hy : Bytes b) (hl : b.length = 64) :
    Calls Tryd.prog 42 #[v] w fun e w' => ∃ u, e = .returned u ∧ Row w.heap.size 47 .u32 (wsTo b 48) u w' ∧ Below w.heap.size w w' := by
  have KB : Kept _ := ⟨hv⟩
  have YB : Kept _ := ⟨hy⟩
  have HL : Kept _ := ⟨hl⟩
  obtain ⟨p0, c0, rfl, _, hcl⟩ := hv
  obtain ⟨A0, rfl, _, _⟩ := hcl (by intro e; rw [e] at hl; simp at hl)
  rw [hl] at KB
  rw [hl]
  clear hy hl hcl
  obtain ⟨W, hW⟩ : ∃ W, W = wsTo b 48 := ⟨_, rfl⟩
  rw [← hW]
  have EW : Kept _ := ⟨hW⟩
  clear hW
  go_enter Tryd.func42, Tryd.ntmps42
  go_wp2_with fail
  go_loopg [3, 4] 16 (fun m s3 s4 wr => ∃ i : Nat, i + m = 16 ∧ s4 = .int .i64 (i : Int) ∧ Kept (Below w.heap.size w wr ∧ Row w.heap.size 47 .u32 (w16 b i) s3 wr))
  case atStart => exact ⟨0, by omega, rfl, ⟨⟨Below.refl _ _, row_nil _ _ _ _⟩⟩⟩
  case round =>
    obtain ⟨i, hik, rfl, KK⟩ := hrel
    obtain ⟨HB, RO⟩ := KK.out
    have KO : Kept _ := ⟨RO⟩
    clear KK RO
    by_cases hi : i < 16
    case pos =>
      have hi' : (i : Int) < 16 := by omega
      go_wp2_with fail
      rename World => wz
      go_loopg [5, 6] 4 (fun m s5 s6 wq => ∃ k x : Nat, k + m = 4 ∧ s5 = .int .u32 (x : Int) ∧ s6 = .int .i64 (k : Int) ∧ Kept (x = wordTo b i k) ∧ wq = wz)
      case atStart => exact ⟨0, 0, by omega, rfl, rfl, ⟨rfl⟩, rfl⟩
      case round =>
        obtain ⟨k, x, hk, rfl, rfl, KX, hwr⟩ := hrel
        obtain rfl := hwr.symm
        by_cases hk4 : k < 4
        case pos =>
          have hk' : (k : Int) < 4 := by omega
          obtain ⟨q, hq⟩ : ∃ q, q = 4 * i := ⟨_, rfl⟩
          have Eq : Kept _ := ⟨hq⟩
          obtain ⟨y, hy⟩ : ∃ y, b[q + k]? = some y := ⟨_, List.getElem?_eq_getElem (by have := HL.out; omega)⟩
          obtain ⟨A', eA, _, hc⟩ := (IntsV.under (k := .u8) KB.out HB).cell hy
          cases eA
          have y8 : y < 256 := YB.out _ _ hy
          have x24 : x < 16777216 := by
            rw [KX.out]
            exact Nat.lt_of_lt_of_le (wordTo_lt b YB.out i k) (Nat.pow_le_pow_right (by decide) (show k ≤ 3 by omega))
          obtain ⟨m1, hm1⟩ : ∃ m, m = x * 256 % 4294967296 := ⟨_, rfl⟩
          obtain ⟨m2, hm2⟩ : ∃ m, m = (m1 + y) % 4294967296 := ⟨_, rfl⟩
          have Em1 : Kept _ := ⟨hm1⟩
          have Em2 : Kept _ := ⟨hm2⟩
          have KN : Kept (m2 = wordTo b i (k + 1)) := ⟨by
            rw [wordTo, ← KX.out, ← hq, List.getD_eq_getElem?_getD, hy, hm2, hm1]
            simp only [Option.getD_some]
            omega⟩
          have q62 : q + k < 4611686018427387904 := by omega
          have qk : q + k < 64 := by omega
          clear hm1 hm2 hy hq
          go_wp2_with (first | ((with_reducible refine wv_val (d := 19) ?hd ?hw (.int .u32 (m1 : Int)) ?hr ?_); (case hd => rfl); (case hw => kernel_rfl); (case hr => intro w; exact run_mul32 (n := 256) rfl (by kernel_rfl) (by kernel_rfl) Em1.out w); simp only [Act.put, List.setIfInBounds_toArray, List.set_cons_succ, List.set_cons_zero]) | ((with_reducible refine wv_val (d := 22) ?hd ?hw (.int .i64 (q : Int)) ?hr ?_); (case hd => rfl); (case hw => kernel_rfl); (case hr => intro w; exact run_mulI rfl (by kernel_rfl) (by omega) Eq.out w); simp only [Act.put, List.setIfInBounds_toArray, List.set_cons_succ, List.set_cons_zero]) | ((with_reducible refine wv_val (d := 24) ?hd ?hw (.int .i64 ((q + k : Nat) : Int)) ?hr ?_); (case hd => rfl); (case hw => kernel_rfl); (case hr => intro w; exact run_addV rfl (by kernel_rfl) (by kernel_rfl) q62 w); simp only [Act.put, List.setIfInBounds_toArray, List.set_cons_succ, List.set_cons_zero]) | ((with_reducible refine wv_val (d := 25) ?hd ?hw (.pointer (some (A0.add (q + k)))) ?hr ?_); (case hd => rfl); (case hw => kernel_rfl); (case hr => intro w; exact run_idxS (c := c0) rfl (by kernel_rfl) (by kernel_rfl) Tryd.underlying22 qk sz_u8 w); simp only [Act.put, List.setIfInBounds_toArray, List.set_cons_succ, List.set_cons_zero]) | ((with_reducible refine wv_elem (d := 26) ?hd ?hw 5 ag_u8 (.tmp 25) ?ho (A0.add (q + k)) ?hx (.int .u8 (y : Int)) ?hg ?_); (case hd => rfl); (case hw => kernel_rfl); (case ho => rfl); (case hx => first | rfl | kernel_rfl); (case hg => exact hc); simp only [Act.put, List.setIfInBounds_toArray, List.set_cons_succ, List.set_cons_zero]) | ((with_reducible refine wv_val (d := 27) ?hd ?hw (.int .u32 (y : Int)) ?hr ?_); (case hd => rfl); (case hw => kernel_rfl); (case hr => intro w; exact run_conv832 rfl (by kernel_rfl) y8 w); simp only [Act.put, List.setIfInBounds_toArray, List.set_cons_succ, List.set_cons_zero]) | ((with_reducible refine wv_val (d := 28) ?hd ?hw (.int .u32 (m2 : Int)) ?hr ?_); (case hd => rfl); (case hw => kernel_rfl); (case hr => intro w; exact run_add32 rfl (by kernel_rfl) (by kernel_rfl) Em2.out w); simp only [Act.put, List.setIfInBounds_toArray, List.set_cons_succ, List.set_cons_zero]))
          go_roundg (gk - 1)
          case measure => omega
          case rel => exact ⟨k + 1, m2, by omega, rfl, by rfl, KN, rfl⟩
        obtain rfl : k = 4 := by omega
        have SN : Kept ((w16 b i).length + [x].length ≤ 8796093022208) := ⟨by simp [w16]; omega⟩
        have RS : Kept (w16 b (i + 1) = w16 b i ++ [x]) := ⟨by unfold w16; rw [List.range_succ, List.map_append, KX.out]; rfl⟩
        go_wp2_with (first | (refine wl_app (by kernel_rfl) (.tmp 29) (.tmp 31) 64 47 .u32 4 rfl Tryd.underlying64 inf_u32 (by decide) w.heap.size (w16 b i) [x] u3 _ rfl rfl (KO.out.alloc _) (one32 _ _) SN.out (by simp; have := HB.size; omega) ?_))
        intro v3 w3 R3 G3 _
        have HB3 : Below w.heap.size w w3 := (HB.alloc HB.size _).trans (grown_mono G3 (by simp; have := HB.size; omega) (fun b hb => (KO.out.range b hb).1))
        have R3 : Kept _ := ⟨R3⟩
        clear G3 HB KO
        go_wp2_with fail
        go_roundg (16 - i - 1)
        case measure => omega
        case rel => exact ⟨i + 1, by omega, by rfl, ⟨⟨HB3, by rw [RS.out]; exact R3.out⟩⟩⟩
    obtain rfl : i = 16 := by omega
    clear hik hi
    go_wp2_with fail
    rename World => wy
    go_loopg [3, 7] 48 (fun m s3 s7 wq => ∃ j : Nat, j + m = 48 ∧ s7 = .int .i64 ((16 + j : Nat) : Int) ∧ Kept (Below w.heap.size w wq ∧ Row w.heap.size 47 .u32 (wsTo b j) s3 wq))
    case atStart => exact ⟨0, by omega, rfl, ⟨⟨HB, by rw [wsTo_zero]; exact KO.out⟩⟩⟩
    case round =>
      clear HB KO
      obtain ⟨j, hj, rfl, KK⟩ := hrel
      obtain ⟨HB, RO⟩ := KK.out
      have KO : Kept _ := ⟨RO⟩
      obtain ⟨L, hL⟩ : ∃ L, L = wsTo b j := ⟨_, rfl⟩
      rw [← hL] at KO RO
      have LL : Kept (L.length = 16 + j) := ⟨by rw [hL]; exact wsTo_len b j⟩
      have KS : Kept (Small L) := ⟨by rw [hL]; exact wsTo_small b YB.out j⟩
      have EL : Kept _ := ⟨hL⟩
      obtain ⟨g3, c3, cur, e3, gb, A3, _, hcell⟩ := RO.form (by have := LL.out; omega)
      rw [LL.out] at e3
      subst e3
      have KC : Kept _ := ⟨hcell⟩
      clear KK RO hL hcell
      by_cases hj48 : j < 48
      case neg =>
        have j48 : j = 48 := by omega
        have hj' : ¬ (16 : Int) + (j : Int) < 64 := by omega
        have RF : Kept (Row w.heap.size 47 .u32 W (.slice (some ⟨g3, 0, none⟩) (16 + j) c3) wr) := ⟨by rw [EW.out, ← j48, ← EL.out]; exact KO.out⟩
        clear j48
        go_wp2_with fail
        go_ret
        exact ⟨_, rfl, RF.out, HB⟩
      have hj' : (16 : Int) + (j : Int) < 64 := by omega
      obtain ⟨a, ha⟩ : ∃ x, L[16 + j - 2]? = some x := ⟨_, List.getElem?_eq_getElem (by have := LL.out; omega)⟩
      obtain ⟨c, hc⟩ : ∃ x, L[16 + j - 7]? = some x := ⟨_, List.getElem?_eq_getElem (by have := LL.out; omega)⟩
      obtain ⟨r, hr⟩ : ∃ x, L[16 + j - 15]? = some x := ⟨_, List.getElem?_eq_getElem (by have := LL.out; omega)⟩
      obtain ⟨d, hd⟩ : ∃ x, L[16 + j - 16]? = some x := ⟨_, List.getElem?_eq_getElem (by have := LL.out; omega)⟩
      have Ha : Kept _ := ⟨ha⟩
      have Hc : Kept _ := ⟨hc⟩
      have Hr : Kept _ := ⟨hr⟩
      have Hd : Kept _ := ⟨hd⟩
      have GD : Kept (L.getD (16 + j - 2) 0 = a ∧ L.getD (16 + j - 7) 0 = c ∧ L.getD (16 + j - 15) 0 = r ∧ L.getD (16 + j - 16) 0 = d) := ⟨by simp only [List.getD_eq_getElem?_getD, ha, hc, hr, hd, Option.getD_some, and_self]⟩
      clear ha hc hr hd
      have a32 : a < 4294967296 := KS.out _ _ Ha.out
      obtain ⟨a0, ha0⟩ : ∃ z, z = rotr a 17 := ⟨_, rfl⟩
      obtain ⟨a1, ha1⟩ : ∃ z, z = rotr a 19 := ⟨_, rfl⟩
      obtain ⟨a2, ha2⟩ : ∃ z, z = a / 2 ^ 10 := ⟨_, rfl⟩
      obtain ⟨ax1, hax1⟩ : ∃ z, z = a0 ^^^ a1 := ⟨_, rfl⟩
      obtain ⟨ax2, hax2⟩ : ∃ z, z = ax1 ^^^ a2 := ⟨_, rfl⟩
      have La0 : Kept (a0 < 4294967296) := ⟨by rw [ha0]; exact rotr_lt a 17 a32⟩
      have La1 : Kept (a1 < 4294967296) := ⟨by rw [ha1]; exact rotr_lt a 19 a32⟩
      have La2 : Kept (a2 < 4294967296) := ⟨by rw [ha2]; exact Nat.lt_of_le_of_lt (Nat.div_le_self _ _) a32⟩
      have Lax1 : Kept (ax1 < 4294967296) := ⟨by rw [hax1]; exact Nat.xor_lt_two_pow (n := 32) La0.out La1.out⟩
      have Eax1 : Kept _ := ⟨hax1⟩
      have Eax2 : Kept _ := ⟨hax2⟩
      have Ca0 : Kept (∀ w', Calls Tryd.prog 43 [.int .u32 (a : Int), .int .i64 17].toArray w' fun e w2 => e = .returned (.int .u32 (a0 : Int)) ∧ Below w'.heap.size w' w2) := ⟨fun w' => by rw [ha0]; exact (turn_any a 17 w' a32 (by decide)).mono fun e w2 hh => ⟨hh.1, by rw [hh.2]; exact Below.refl _ _⟩⟩
      have Ca1 : Kept (∀ w', Calls Tryd.prog 43 [.int .u32 (a : Int), .int .i64 19].toArray w' fun e w2 => e = .returned (.int .u32 (a1 : Int)) ∧ Below w'.heap.size w' w2) := ⟨fun w' => by rw [ha1]; exact (turn_any a 19 w' a32 (by decide)).mono fun e w2 hh => ⟨hh.1, by rw [hh.2]; exact Below.refl _ _⟩⟩
      have Ca2 : Kept (∀ w', Calls Tryd.prog 48 [.int .u32 (a : Int), .int .i64 10].toArray w' fun e w2 => e = .returned (.int .u32 (a2 : Int)) ∧ Below w'.heap.size w' w2) := ⟨fun w' => by rw [ha2]; exact (shift_any a 10 w' a32 (by decide)).mono fun e w2 hh => ⟨hh.1, by rw [hh.2]; exact Below.refl _ _⟩⟩
      have Xa : Kept (ax2 = turnN a [17, 19] ^^^ a / 2 ^ 10) := ⟨by rw [hax2, hax1, ha0, ha1, ha2, turn2]⟩
      clear ha0 ha1 ha2 hax1 hax2

      have r32 : r < 4294967296 := KS.out _ _ Hr.out
      obtain ⟨r0, hr0⟩ : ∃ z, z = rotr r 7 := ⟨_, rfl⟩
      obtain ⟨r1, hr1⟩ : ∃ z, z = rotr r 18 := ⟨_, rfl⟩
      obtain ⟨r2, hr2⟩ : ∃ z, z = r / 2 ^ 3 := ⟨_, rfl⟩
      obtain ⟨rx1, hrx1⟩ : ∃ z, z = r0 ^^^ r1 := ⟨_, rfl⟩
      obtain ⟨rx2, hrx2⟩ : ∃ z, z = rx1 ^^^ r2 := ⟨_, rfl⟩
      have Lr0 : Kept (r0 < 4294967296) := ⟨by rw [hr0]; exact rotr_lt r 7 r32⟩
      have Lr1 : Kept (r1 < 4294967296) := ⟨by rw [hr1]; exact rotr_lt r 18 r32⟩
      have Lr2 : Kept (r2 < 4294967296) := ⟨by rw [hr2]; exact Nat.lt_of_le_of_lt (Nat.div_le_self _ _) r32⟩
      have Lrx1 : Kept (rx1 < 4294967296) := ⟨by rw [hrx1]; exact Nat.xor_lt_two_pow (n := 32) Lr0.out Lr1.out⟩
      have Erx1 : Kept _ := ⟨hrx1⟩
      have Erx2 : Kept _ := ⟨hrx2⟩
      have Cr0 : Kept (∀ w', Calls Tryd.prog 43 [.int .u32 (r : Int), .int .i64 7].toArray w' fun e w2 => e = .returned (.int .u32 (r0 : Int)) ∧ Below w'.heap.size w' w2) := ⟨fun w' => by rw [hr0]; exact (turn_any r 7 w' r32 (by decide)).mono fun e w2 hh => ⟨hh.1, by rw [hh.2]; exact Below.refl _ _⟩⟩
      have Cr1 : Kept (∀ w', Calls Tryd.prog 43 [.int .u32 (r : Int), .int .i64 18].toArray w' fun e w2 => e = .returned (.int .u32 (r1 : Int)) ∧ Below w'.heap.size w' w2) := ⟨fun w' => by rw [hr1]; exact (turn_any r 18 w' r32 (by decide)).mono fun e w2 hh => ⟨hh.1, by rw [hh.2]; exact Below.refl _ _⟩⟩
      have Cr2 : Kept (∀ w', Calls Tryd.prog 48 [.int .u32 (r : Int), .int .i64 3].toArray w' fun e w2 => e = .returned (.int .u32 (r2 : Int)) ∧ Below w'.heap.size w' w2) := ⟨fun w' => by rw [hr2]; exact (shift_any r 3 w' r32 (by decide)).mono fun e w2 hh => ⟨hh.1, by rw [hh.2]; exact Below.refl _ _⟩⟩
      have Xr : Kept (rx2 = turnN r [7, 18] ^^^ r / 2 ^ 3) := ⟨by rw [hrx2, hrx1, hr0, hr1, hr2, turn2]⟩
      clear hr0 hr1 hr2 hrx1 hrx2

      obtain ⟨s1, hs1⟩ : ∃ z, z = (ax2 + c) % 4294967296 := ⟨_, rfl⟩
      obtain ⟨s2, hs2⟩ : ∃ z, z = (s1 + rx2) % 4294967296 := ⟨_, rfl⟩
      obtain ⟨s3, hs3⟩ : ∃ z, z = (s2 + d) % 4294967296 := ⟨_, rfl⟩
      have Es1 : Kept _ := ⟨hs1⟩
      have Es2 : Kept _ := ⟨hs2⟩
      have Es3 : Kept _ := ⟨hs3⟩
      have WS : Kept (wsTo b j ++ [s3] = wsTo b (j + 1)) := ⟨by rw [wsTo, ← EL.out, GD.out.1, GD.out.2.1, GD.out.2.2.1, GD.out.2.2.2, hs3, hs2, hs1, Xa.out, Xr.out]; rfl⟩
      clear hs1 hs2 hs3
      go_wp2_with fail
      refine region_ownL wr 20 [(37, .slice (some ⟨g3, 0, none⟩) (16 + j) c3), (38, .int .i64 ((16 + j : Nat) : Int)), (39, .int .i64 ((16 + j - 2 : Nat) : Int)), (40, .pointer (some ⟨g3, 16 + j - 2, none⟩)), (41, .int .u32 (a : Int)), (42, .int .u32 (a0 : Int)), (43, .slice (some ⟨g3, 0, none⟩) (16 + j) c3), (44, .int .i64 ((16 + j : Nat) : Int)), (45, .int .i64 ((16 + j - 2 : Nat) : Int)), (46, .pointer (some ⟨g3, 16 + j - 2, none⟩)), (47, .int .u32 (a : Int)), (48, .int .u32 (a1 : Int)), (49, .int .u32 (ax1 : Int)), (50, .slice (some ⟨g3, 0, none⟩) (16 + j) c3), (51, .int .i64 ((16 + j : Nat) : Int)), (52, .int .i64 ((16 + j - 2 : Nat) : Int)), (53, .pointer (some ⟨g3, 16 + j - 2, none⟩)), (54, .int .u32 (a : Int)), (55, .int .u32 (a2 : Int)), (56, .int .u32 (ax2 : Int))] [] [] [] rfl (by kernel_rfl) (by kernel_rfl) (by kernel_rfl) (by kernel_rfl) (by kernel_rfl) (by kernel_rfl) (by kernel_rfl) (by kernel_rfl) (by kernel_rfl) (by kernel_rfl) (by kernel_rfl) ?hst1 ?hst2 (Below.refl _ _) (fun hA => ⟨ow_val hA (wants_none rfl) 37 (.slice (some ⟨g3, 0, none⟩) (16 + j) c3) (by kernel_rfl) rfl rfl rfl rfl (by kernel_rfl) (fun w => by kernel_rfl), ow_val hA (wants_none rfl) 38 (.int .i64 ((16 + j : Nat) : Int)) (by kernel_rfl) rfl rfl rfl rfl (by kernel_rfl) (fun w => by kernel_rfl), ow_val hA (wants_none rfl) 39 (.int .i64 ((16 + j - 2 : Nat) : Int)) (by kernel_rfl) rfl rfl rfl rfl (by kernel_rfl) (fun w => run_subI 2 rfl (by kernel_rfl) (by omega) (by omega) w), ow_val hA (wants_none rfl) 40 (.pointer (some ⟨g3, 16 + j - 2, none⟩)) (by kernel_rfl) rfl rfl rfl rfl (by kernel_rfl) (fun w => run_idx0 (l := 16 + j) (c := c3) rfl (by kernel_rfl) (by kernel_rfl) Tryd.underlying64 (by omega) sz_u32 w), ow_elem hA (wants_none rfl) 41 (.int .u32 (a : Int)) (by kernel_rfl) rfl rfl rfl rfl (by kernel_rfl) 47 ag_u32 (.tmp 40) rfl (⟨g3, 16 + j - 2, none⟩) (by kernel_rfl) (fun w1 hb => (Blk.under A3 hb).cell (KC.out _ _ Ha.out)), ow_calld hA (wants_none rfl) 42 (.int .u32 (a0 : Int)) (by kernel_rfl) rfl rfl rfl rfl (by kernel_rfl) 43 Tryd.f43 _ [.tmp 41, .const (.int .i64 17)] _ [.int .u32 (a : Int), .int .i64 17] rfl (by kernel_rfl) Tryd.func43 (by kernel_rfl) rfl (fun w3 hb => Ca0.out w3), ow_val hA (wants_none rfl) 43 (.slice (some ⟨g3, 0, none⟩) (16 + j) c3) (by kernel_rfl) rfl rfl rfl rfl (by kernel_rfl) (fun w => by kernel_rfl), ow_val hA (wants_none rfl) 44 (.int .i64 ((16 + j : Nat) : Int)) (by kernel_rfl) rfl rfl rfl rfl (by kernel_rfl) (fun w => by kernel_rfl), ow_val hA (wants_none rfl) 45 (.int .i64 ((16 + j - 2 : Nat) : Int)) (by kernel_rfl) rfl rfl rfl rfl (by kernel_rfl) (fun w => run_subI 2 rfl (by kernel_rfl) (by omega) (by omega) w), ow_val hA (wants_none rfl) 46 (.pointer (some ⟨g3, 16 + j - 2, none⟩)) (by kernel_rfl) rfl rfl rfl rfl (by kernel_rfl) (fun w => run_idx0 (l := 16 + j) (c := c3) rfl (by kernel_rfl) (by kernel_rfl) Tryd.underlying64 (by omega) sz_u32 w), ow_elem hA (wants_none rfl) 47 (.int .u32 (a : Int)) (by kernel_rfl) rfl rfl rfl rfl (by kernel_rfl) 47 ag_u32 (.tmp 46) rfl (⟨g3, 16 + j - 2, none⟩) (by kernel_rfl) (fun w1 hb => (Blk.under A3 hb).cell (KC.out _ _ Ha.out)), ow_calld hA (wants_none rfl) 48 (.int .u32 (a1 : Int)) (by kernel_rfl) rfl rfl rfl rfl (by kernel_rfl) 43 Tryd.f43 _ [.tmp 47, .const (.int .i64 19)] _ [.int .u32 (a : Int), .int .i64 19] rfl (by kernel_rfl) Tryd.func43 (by kernel_rfl) rfl (fun w3 hb => Ca1.out w3), ow_val hA (wants_none rfl) 49 (.int .u32 (ax1 : Int)) (by kernel_rfl) rfl rfl rfl rfl (by kernel_rfl) (fun w => run_xor32 rfl (by kernel_rfl) (by kernel_rfl) La0.out La1.out Eax1.out w), ow_val hA (wants_none rfl) 50 (.slice (some ⟨g3, 0, none⟩) (16 + j) c3) (by kernel_rfl) rfl rfl rfl rfl (by kernel_rfl) (fun w => by kernel_rfl), ow_val hA (wants_none rfl) 51 (.int .i64 ((16 + j : Nat) : Int)) (by kernel_rfl) rfl rfl rfl rfl (by kernel_rfl) (fun w => by kernel_rfl), ow_val hA (wants_none rfl) 52 (.int .i64 ((16 + j - 2 : Nat) : Int)) (by kernel_rfl) rfl rfl rfl rfl (by kernel_rfl) (fun w => run_subI 2 rfl (by kernel_rfl) (by omega) (by omega) w), ow_val hA (wants_none rfl) 53 (.pointer (some ⟨g3, 16 + j - 2, none⟩)) (by kernel_rfl) rfl rfl rfl rfl (by kernel_rfl) (fun w => run_idx0 (l := 16 + j) (c := c3) rfl (by kernel_rfl) (by kernel_rfl) Tryd.underlying64 (by omega) sz_u32 w), ow_elem hA (wants_none rfl) 54 (.int .u32 (a : Int)) (by kernel_rfl) rfl rfl rfl rfl (by kernel_rfl) 47 ag_u32 (.tmp 53) rfl (⟨g3, 16 + j - 2, none⟩) (by kernel_rfl) (fun w1 hb => (Blk.under A3 hb).cell (KC.out _ _ Ha.out)), ow_calld hA (wants_none rfl) 55 (.int .u32 (a2 : Int)) (by kernel_rfl) rfl rfl rfl rfl (by kernel_rfl) 48 Tryd.f48 _ [.tmp 54, .const (.int .i64 10)] _ [.int .u32 (a : Int), .int .i64 10] rfl (by kernel_rfl) Tryd.func48 (by kernel_rfl) rfl (fun w3 hb => Ca2.out w3), ow_val hA (wants_none rfl) 56 (.int .u32 (ax2 : Int)) (by kernel_rfl) rfl rfl rfl rfl (by kernel_rfl) (fun w => run_xor32 rfl (by kernel_rfl) (by kernel_rfl) Lax1.out La2.out Eax2.out w), trivial⟩) ?_
      case hst1 => intro q hq; cases hq
      case hst2 => intro q hq; cases hq
      intro fv wr2 hf hD hb2
      simp only [putR, List.foldl_cons, List.foldl_nil, List.map_cons, List.map_nil, Act.put, List.setIfInBounds_toArray, List.set_cons_succ, List.set_cons_zero]
      have A32 := A3.under hb2
      have HB2 := HB.trans (hb2.mono HB.size)
      have KO2 : Kept _ := ⟨KO.out.under hb2⟩
      clear hf hD A3 HB KO hb2
      go_wp2_with fail
      refine region_ownL wr2 20 [(57, .slice (some ⟨g3, 0, none⟩) (16 + j) c3), (58, .int .i64 ((16 + j : Nat) : Int)), (59, .int .i64 ((16 + j - 15 : Nat) : Int)), (60, .pointer (some ⟨g3, 16 + j - 15, none⟩)), (61, .int .u32 (r : Int)), (62, .int .u32 (r0 : Int)), (63, .slice (some ⟨g3, 0, none⟩) (16 + j) c3), (64, .int .i64 ((16 + j : Nat) : Int)), (65, .int .i64 ((16 + j - 15 : Nat) : Int)), (66, .pointer (some ⟨g3, 16 + j - 15, none⟩)), (67, .int .u32 (r : Int)), (68, .int .u32 (r1 : Int)), (69, .int .u32 (rx1 : Int)), (70, .slice (some ⟨g3, 0, none⟩) (16 + j) c3), (71, .int .i64 ((16 + j : Nat) : Int)), (72, .int .i64 ((16 + j - 15 : Nat) : Int)), (73, .pointer (some ⟨g3, 16 + j - 15, none⟩)), (74, .int .u32 (r : Int)), (75, .int .u32 (r2 : Int)), (76, .int .u32 (rx2 : Int))] [] [] [] rfl (by kernel_rfl) (by kernel_rfl) (by kernel_rfl) (by kernel_rfl) (by kernel_rfl) (by kernel_rfl) (by kernel_rfl) (by kernel_rfl) (by kernel_rfl) (by kernel_rfl) (by kernel_rfl) ?hst1 ?hst2 (Below.refl _ _) (fun hA => ⟨ow_val hA (wants_none rfl) 57 (.slice (some ⟨g3, 0, none⟩) (16 + j) c3) (by kernel_rfl) rfl rfl rfl rfl (by kernel_rfl) (fun w => by kernel_rfl), ow_val hA (wants_none rfl) 58 (.int .i64 ((16 + j : Nat) : Int)) (by kernel_rfl) rfl rfl rfl rfl (by kernel_rfl) (fun w => by kernel_rfl), ow_val hA (wants_none rfl) 59 (.int .i64 ((16 + j - 15 : Nat) : Int)) (by kernel_rfl) rfl rfl rfl rfl (by kernel_rfl) (fun w => run_subI 15 rfl (by kernel_rfl) (by omega) (by omega) w), ow_val hA (wants_none rfl) 60 (.pointer (some ⟨g3, 16 + j - 15, none⟩)) (by kernel_rfl) rfl rfl rfl rfl (by kernel_rfl) (fun w => run_idx0 (l := 16 + j) (c := c3) rfl (by kernel_rfl) (by kernel_rfl) Tryd.underlying64 (by omega) sz_u32 w), ow_elem hA (wants_none rfl) 61 (.int .u32 (r : Int)) (by kernel_rfl) rfl rfl rfl rfl (by kernel_rfl) 47 ag_u32 (.tmp 60) rfl (⟨g3, 16 + j - 15, none⟩) (by kernel_rfl) (fun w1 hb => (Blk.under A32 hb).cell (KC.out _ _ Hr.out)), ow_calld hA (wants_none rfl) 62 (.int .u32 (r0 : Int)) (by kernel_rfl) rfl rfl rfl rfl (by kernel_rfl) 43 Tryd.f43 _ [.tmp 61, .const (.int .i64 7)] _ [.int .u32 (r : Int), .int .i64 7] rfl (by kernel_rfl) Tryd.func43 (by kernel_rfl) rfl (fun w3 hb => Cr0.out w3), ow_val hA (wants_none rfl) 63 (.slice (some ⟨g3, 0, none⟩) (16 + j) c3) (by kernel_rfl) rfl rfl rfl rfl (by kernel_rfl) (fun w => by kernel_rfl), ow_val hA (wants_none rfl) 64 (.int .i64 ((16 + j : Nat) : Int)) (by kernel_rfl) rfl rfl rfl rfl (by kernel_rfl) (fun w => by kernel_rfl), ow_val hA (wants_none rfl) 65 (.int .i64 ((16 + j - 15 : Nat) : Int)) (by kernel_rfl) rfl rfl rfl rfl (by kernel_rfl) (fun w => run_subI 15 rfl (by kernel_rfl) (by omega) (by omega) w), ow_val hA (wants_none rfl) 66 (.pointer (some ⟨g3, 16 + j - 15, none⟩)) (by kernel_rfl) rfl rfl rfl rfl (by kernel_rfl) (fun w => run_idx0 (l := 16 + j) (c := c3) rfl (by kernel_rfl) (by kernel_rfl) Tryd.underlying64 (by omega) sz_u32 w), ow_elem hA (wants_none rfl) 67 (.int .u32 (r : Int)) (by kernel_rfl) rfl rfl rfl rfl (by kernel_rfl) 47 ag_u32 (.tmp 66) rfl (⟨g3, 16 + j - 15, none⟩) (by kernel_rfl) (fun w1 hb => (Blk.under A32 hb).cell (KC.out _ _ Hr.out)), ow_calld hA (wants_none rfl) 68 (.int .u32 (r1 : Int)) (by kernel_rfl) rfl rfl rfl rfl (by kernel_rfl) 43 Tryd.f43 _ [.tmp 67, .const (.int .i64 18)] _ [.int .u32 (r : Int), .int .i64 18] rfl (by kernel_rfl) Tryd.func43 (by kernel_rfl) rfl (fun w3 hb => Cr1.out w3), ow_val hA (wants_none rfl) 69 (.int .u32 (rx1 : Int)) (by kernel_rfl) rfl rfl rfl rfl (by kernel_rfl) (fun w => run_xor32 rfl (by kernel_rfl) (by kernel_rfl) Lr0.out Lr1.out Erx1.out w), ow_val hA (wants_none rfl) 70 (.slice (some ⟨g3, 0, none⟩) (16 + j) c3) (by kernel_rfl) rfl rfl rfl rfl (by kernel_rfl) (fun w => by kernel_rfl), ow_val hA (wants_none rfl) 71 (.int .i64 ((16 + j : Nat) : Int)) (by kernel_rfl) rfl rfl rfl rfl (by kernel_rfl) (fun w => by kernel_rfl), ow_val hA (wants_none rfl) 72 (.int .i64 ((16 + j - 15 : Nat) : Int)) (by kernel_rfl) rfl rfl rfl rfl (by kernel_rfl) (fun w => run_subI 15 rfl (by kernel_rfl) (by omega) (by omega) w), ow_val hA (wants_none rfl) 73 (.pointer (some ⟨g3, 16 + j - 15, none⟩)) (by kernel_rfl) rfl rfl rfl rfl (by kernel_rfl) (fun w => run_idx0 (l := 16 + j) (c := c3) rfl (by kernel_rfl) (by kernel_rfl) Tryd.underlying64 (by omega) sz_u32 w), ow_elem hA (wants_none rfl) 74 (.int .u32 (r : Int)) (by kernel_rfl) rfl rfl rfl rfl (by kernel_rfl) 47 ag_u32 (.tmp 73) rfl (⟨g3, 16 + j - 15, none⟩) (by kernel_rfl) (fun w1 hb => (Blk.under A32 hb).cell (KC.out _ _ Hr.out)), ow_calld hA (wants_none rfl) 75 (.int .u32 (r2 : Int)) (by kernel_rfl) rfl rfl rfl rfl (by kernel_rfl) 48 Tryd.f48 _ [.tmp 74, .const (.int .i64 3)] _ [.int .u32 (r : Int), .int .i64 3] rfl (by kernel_rfl) Tryd.func48 (by kernel_rfl) rfl (fun w3 hb => Cr2.out w3), ow_val hA (wants_none rfl) 76 (.int .u32 (rx2 : Int)) (by kernel_rfl) rfl rfl rfl rfl (by kernel_rfl) (fun w => run_xor32 rfl (by kernel_rfl) (by kernel_rfl) Lrx1.out Lr2.out Erx2.out w), trivial⟩) ?_
      case hst1 => intro q hq; cases hq
      case hst2 => intro q hq; cases hq
      intro fv wr3 hf hD hb3
      simp only [putR, List.foldl_cons, List.foldl_nil, List.map_cons, List.map_nil, Act.put, List.setIfInBounds_toArray, List.set_cons_succ, List.set_cons_zero]
      have A33 := A32.under hb3
      have HB3 := HB2.trans (hb3.mono HB2.size)
      have KO3 : Kept _ := ⟨KO2.out.under hb3⟩
      clear hf hD A32 HB2 KO2 hb3
      go_wp2_with fail
      refine region_ownL wr3 17 [(77, .slice (some ⟨g3, 0, none⟩) (16 + j) c3), (78, .int .u32 (ax2 : Int)), (79, .slice (some ⟨g3, 0, none⟩) (16 + j) c3), (80, .int .i64 ((16 + j : Nat) : Int)), (81, .int .i64 ((16 + j - 7 : Nat) : Int)), (82, .pointer (some ⟨g3, 16 + j - 7, none⟩)), (83, .int .u32 (c : Int)), (84, .int .u32 (s1 : Int)), (85, .int .u32 (rx2 : Int)), (86, .int .u32 (s2 : Int)), (87, .slice (some ⟨g3, 0, none⟩) (16 + j) c3), (88, .int .i64 ((16 + j : Nat) : Int)), (89, .int .i64 ((16 + j - 16 : Nat) : Int)), (90, .pointer (some ⟨g3, 16 + j - 16, none⟩)), (91, .int .u32 (d : Int)), (92, .int .u32 (s3 : Int))] [(93, Const 47 .u32 [s3])] [93] [] rfl (by kernel_rfl) (by kernel_rfl) (by kernel_rfl) (by kernel_rfl) (by kernel_rfl) (by kernel_rfl) (by kernel_rfl) (by kernel_rfl) (by kernel_rfl) (by kernel_rfl) (by kernel_rfl) ?hst1 ?hst2 (Below.refl _ _) (fun hA => ⟨ow_val hA (wants_none rfl) 77 (.slice (some ⟨g3, 0, none⟩) (16 + j) c3) (by kernel_rfl) rfl rfl rfl rfl (by kernel_rfl) (fun w => by kernel_rfl), ow_val hA (wants_none rfl) 78 (.int .u32 (ax2 : Int)) (by kernel_rfl) rfl rfl rfl rfl (by kernel_rfl) (fun w => by kernel_rfl), ow_val hA (wants_none rfl) 79 (.slice (some ⟨g3, 0, none⟩) (16 + j) c3) (by kernel_rfl) rfl rfl rfl rfl (by kernel_rfl) (fun w => by kernel_rfl), ow_val hA (wants_none rfl) 80 (.int .i64 ((16 + j : Nat) : Int)) (by kernel_rfl) rfl rfl rfl rfl (by kernel_rfl) (fun w => by kernel_rfl), ow_val hA (wants_none rfl) 81 (.int .i64 ((16 + j - 7 : Nat) : Int)) (by kernel_rfl) rfl rfl rfl rfl (by kernel_rfl) (fun w => run_subI 7 rfl (by kernel_rfl) (by omega) (by omega) w), ow_val hA (wants_none rfl) 82 (.pointer (some ⟨g3, 16 + j - 7, none⟩)) (by kernel_rfl) rfl rfl rfl rfl (by kernel_rfl) (fun w => run_idx0 (l := 16 + j) (c := c3) rfl (by kernel_rfl) (by kernel_rfl) Tryd.underlying64 (by omega) sz_u32 w), ow_elem hA (wants_none rfl) 83 (.int .u32 (c : Int)) (by kernel_rfl) rfl rfl rfl rfl (by kernel_rfl) 47 ag_u32 (.tmp 82) rfl (⟨g3, 16 + j - 7, none⟩) (by kernel_rfl) (fun w1 hb => (Blk.under A33 hb).cell (KC.out _ _ Hc.out)), ow_val hA (wants_none rfl) 84 (.int .u32 (s1 : Int)) (by kernel_rfl) rfl rfl rfl rfl (by kernel_rfl) (fun w => run_add32 rfl (by kernel_rfl) (by kernel_rfl) Es1.out w), ow_val hA (wants_none rfl) 85 (.int .u32 (rx2 : Int)) (by kernel_rfl) rfl rfl rfl rfl (by kernel_rfl) (fun w => by kernel_rfl), ow_val hA (wants_none rfl) 86 (.int .u32 (s2 : Int)) (by kernel_rfl) rfl rfl rfl rfl (by kernel_rfl) (fun w => run_add32 rfl (by kernel_rfl) (by kernel_rfl) Es2.out w), ow_val hA (wants_none rfl) 87 (.slice (some ⟨g3, 0, none⟩) (16 + j) c3) (by kernel_rfl) rfl rfl rfl rfl (by kernel_rfl) (fun w => by kernel_rfl), ow_val hA (wants_none rfl) 88 (.int .i64 ((16 + j : Nat) : Int)) (by kernel_rfl) rfl rfl rfl rfl (by kernel_rfl) (fun w => by kernel_rfl), ow_val hA (wants_none rfl) 89 (.int .i64 ((16 + j - 16 : Nat) : Int)) (by kernel_rfl) rfl rfl rfl rfl (by kernel_rfl) (fun w => run_subI 16 rfl (by kernel_rfl) (by omega) (by omega) w), ow_val hA (wants_none rfl) 90 (.pointer (some ⟨g3, 16 + j - 16, none⟩)) (by kernel_rfl) rfl rfl rfl rfl (by kernel_rfl) (fun w => run_idx0 (l := 16 + j) (c := c3) rfl (by kernel_rfl) (by kernel_rfl) Tryd.underlying64 (by omega) sz_u32 w), ow_elem hA (wants_none rfl) 91 (.int .u32 (d : Int)) (by kernel_rfl) rfl rfl rfl rfl (by kernel_rfl) 47 ag_u32 (.tmp 90) rfl (⟨g3, 16 + j - 16, none⟩) (by kernel_rfl) (fun w1 hb => (Blk.under A33 hb).cell (KC.out _ _ Hd.out)), ow_val hA (wants_none rfl) 92 (.int .u32 (s3 : Int)) (by kernel_rfl) rfl rfl rfl rfl (by kernel_rfl) (fun w => run_add32 rfl (by kernel_rfl) (by kernel_rfl) Es3.out w), ow_run (wants_none rfl) 93 rfl (fun a w1 hF hb hgot => ⟨.slice (some ⟨w1.heap.size, 0, none⟩) 1 1, w1.alloc (.cells #[.int .u32 (s3 : Int)] 47), none, build_one rfl (gotE_det (v := .int .u32 (s3 : Int)) hA hgot (by kernel_rfl) rfl rfl (by kernel_rfl)), rel_spec (Const 47 .u32 [s3]) rfl ⟨w1.heap.size, (0, 0), rfl, heap_new w1 _⟩, grown_none ((Below.refl _ _).alloc (Nat.le_refl _) _), fun b hb => (by cases hb), fun _ b hb => .inl (by cases hb; exact ⟨Nat.le_refl _, by simp⟩)⟩), trivial⟩) ?_
      case hst1 =>
        intro q hq hO
        simp only [List.mem_cons, List.not_mem_nil, or_false] at hq
        rcases hq with rfl
        cases hO
      case hst2 =>
        intro q hq hO v wc wd row k1 k2 k3 k4
        simp only [List.mem_cons, List.not_mem_nil, or_false] at hq
        rcases hq with rfl
        exact Const.keeps k1 k2 k3
      intro fv wr4 hf hD hb4
      have K93 : Kept _ := ⟨(hf 93 _ rfl rfl).1.ints⟩
      simp only [putR, List.foldl_cons, List.foldl_nil, List.map_cons, List.map_nil, Act.put, List.setIfInBounds_toArray, List.set_cons_succ, List.set_cons_zero]
      have HB4 := HB3.trans (hb4.mono HB3.size)
      have KO4 : Kept _ := ⟨KO3.out.under hb4⟩
      have SN : Kept (L.length + [s3].length ≤ 8796093022208) := ⟨by have := LL.out; simp; omega⟩
      clear hf hD A33 HB3 KO3 hb4
      refine wl_app (by kernel_rfl) (.tmp 77) (.tmp 93) 64 47 .u32 4 rfl Tryd.underlying64 inf_u32 (by decide) w.heap.size L [s3] (.slice (some ⟨g3, 0, none⟩) (16 + j) c3) (fv 93) (by kernel_rfl) (by kernel_rfl) KO4.out K93.out SN.out HB4.size ?_
      intro v3 w5 R5 G5 _
      have HB5 : Below w.heap.size w w5 := HB4.trans (grown_mono G5 HB4.size (fun b hb => (KO4.out.range b hb).1))
      have R5 : Kept (Row w.heap.size 47 .u32 (wsTo b (j + 1)) v3 w5) := ⟨by rw [← WS.out, ← EL.out]; exact R5⟩
      clear G5 HB4 KO4
      go_wp2_with fail
      go_roundg (gk - 1)
      case measure => omega
      case rel => exact ⟨j + 1, by omega, by rfl, ⟨⟨HB5, R5.out⟩⟩⟩
end Go.Proofs.YthnkipicehppmaaDoor.sh
