/-
  General pieces, joined: SY.
-/
import Derived.Test.YtkibojjbghopkaaDoorG20
import Derived.Test.YtkibojjbghopkaaDoorG21
/-
  The words of a block.
-/
namespace Go.Proofs.YtkibojjbghopkaaDoor.sh
open Go Go.RowKit
set_option linter.unusedVariables false
set_option linter.unusedSimpArgs false

/-- All below 2^32. -/
def Small (l : List Nat) : Prop := ∀ (i x : Nat), l[i]? = some x → x < 4294967296
theorem Small.set {l : List Nat} (h : Small l) (i v : Nat) (hv : v < 4294967296) : Small (l.set i v) := by
  intro j x hx
  by_cases hij : i = j
  · subst hij
    rw [List.getElem?_set_self'] at hx
    cases hq : l[i]? with
    | none => simp [hq] at hx
    | some y => simp [hq] at hx; omega
  · rw [List.getElem?_set_ne hij] at hx
    exact h j x hx
theorem Small.getD {l : List Nat} (h : Small l) (i : Nat) : l.getD i 0 < 4294967296 := by
  cases hq : l[i]? with
  | none => simp [List.getD_eq_getElem?_getD, hq]
  | some y => simp [List.getD_eq_getElem?_getD, hq]; exact h i y hq

/-- The first words, behind so many bytes. -/
def packTo (b : List Nat) : Nat → List Nat
  | 0 => List.replicate 64 0
  | i + 1 => (packTo b i).set (i / 4) (((packTo b i).getD (i / 4) 0 * 256 % 4294967296) ||| b.getD i 0)
theorem packTo_len (b : List Nat) : ∀ i, (packTo b i).length = 64
  | 0 => by simp [packTo]
  | i + 1 => by rw [packTo, List.length_set]; exact packTo_len b i
theorem packTo_small (b : List Nat) (hb : ∀ (i x : Nat), b[i]? = some x → x < 256) : ∀ i, Small (packTo b i)
  | 0 => fun j x hx => by
    rw [packTo, List.getElem?_replicate] at hx
    split at hx <;> simp at hx
    omega
  | i + 1 => by
    refine (packTo_small b hb i).set _ _ (Nat.or_lt_two_pow (n := 32) (Nat.mod_lt _ (by decide)) ?_)
    cases hq : b[i]? with
    | none => simp [List.getD_eq_getElem?_getD, hq]
    | some y => simp [List.getD_eq_getElem?_getD, hq]; have := hb i y hq; omega
theorem packTo_zero (b : List Nat) : packTo b 0 = List.replicate 64 0 := rfl
/-- A further word: of the one 2, 7, 15 and 16 ahead of it. -/
def extN (near p7 far p16 : Nat) : Nat := ((((turnN near [17, 19] ^^^ near / 2 ^ 10) + p7) % 4294967296 + (turnN far [7, 18] ^^^ far / 2 ^ 3)) % 4294967296 + p16) % 4294967296
theorem extN_lt (a b c d : Nat) : extN a b c d < 4294967296 := Nat.mod_lt _ (by decide)
def extAt (P : List Nat) (i : Nat) : List Nat := P.set i (extN (P.getD (i - 2) 0) (P.getD (i - 7) 0) (P.getD (i - 15) 0) (P.getD (i - 16) 0))
/-- All words, the first 16 given, so many further ones reckoned. -/
def extTo (P : List Nat) : Nat → List Nat
  | 0 => P
  | n + 1 => extAt (extTo P n) (16 + n)
theorem extTo_zero (P : List Nat) : extTo P 0 = P := rfl
theorem extTo_succ (P : List Nat) (n : Nat) : extTo P (n + 1) = extAt (extTo P n) (16 + n) := rfl
theorem extTo_len (P : List Nat) : ∀ n, (extTo P n).length = P.length
  | 0 => rfl
  | n + 1 => by rw [extTo_succ]; unfold extAt; rw [List.length_set]; exact extTo_len P n
theorem extTo_small (P : List Nat) (h : Small P) : ∀ n, Small (extTo P n)
  | 0 => h
  | n + 1 => by rw [extTo_succ]; exact (extTo_small P h n).set _ _ (extN_lt _ _ _ _)
/-- The words W of a block. -/
def spreadL (b : List Nat) : List Nat := extTo (packTo b 64) 48
theorem amounts3 (i m : Nat) (h : [17, 19][i]? = some m) : 0 < m ∧ m < 32 := by
  rcases i with _ | _ | i <;> simp at h <;> omega
theorem amounts4 (i m : Nat) (h : [7, 18][i]? = some m) : 0 < m ∧ m < 32 := by
  rcases i with _ | _ | i <;> simp at h <;> omega
theorem turned_at (n : Nat) (ms : List Nat) (cap : Nat) (hn : n < 4294967296) (hms : ∀ (i m : Nat), ms[i]? = some m → 0 < m ∧ m < 32) (hl : ms.length < 100) (w : World) (v : Value) (hv : SliceAt 3 .i64 ms cap v w) (t : Nat) (ht : t = turnN n ms) :
    Calls Tryd.prog 87 #[.int .u32 (n : Int), v] w fun e w' => e = .returned (.int .u32 (t : Int)) ∧ Below w.heap.size w w' := by
  obtain ⟨g, rfl, hb⟩ := hv
  refine (turned_any n ms g cap 3 w hn hms hb hl).mono fun e w' hh => ?_
  rw [hh.1, hh.2, ht]
  exact ⟨rfl, Below.refl _ _⟩
theorem zero64 : (#[.int .u32 0, .int .u32 0, .int .u32 0, .int .u32 0, .int .u32 0, .int .u32 0, .int .u32 0, .int .u32 0, .int .u32 0, .int .u32 0, .int .u32 0, .int .u32 0, .int .u32 0, .int .u32 0, .int .u32 0, .int .u32 0, .int .u32 0, .int .u32 0, .int .u32 0, .int .u32 0, .int .u32 0, .int .u32 0, .int .u32 0, .int .u32 0, .int .u32 0, .int .u32 0, .int .u32 0, .int .u32 0, .int .u32 0, .int .u32 0, .int .u32 0, .int .u32 0, .int .u32 0, .int .u32 0, .int .u32 0, .int .u32 0, .int .u32 0, .int .u32 0, .int .u32 0, .int .u32 0, .int .u32 0, .int .u32 0, .int .u32 0, .int .u32 0, .int .u32 0, .int .u32 0, .int .u32 0, .int .u32 0, .int .u32 0, .int .u32 0, .int .u32 0, .int .u32 0, .int .u32 0, .int .u32 0, .int .u32 0, .int .u32 0, .int .u32 0, .int .u32 0, .int .u32 0, .int .u32 0, .int .u32 0, .int .u32 0, .int .u32 0, .int .u32 0] : Array Value) = ints .u32 (List.replicate 64 0) := by kernel_rfl
theorem w64_info : (Tryd.prog.info? 123).map (·.size) = some 64 := by kernel_rfl
theorem b64_info : (Tryd.prog.info? 56).map (·.size) = some 64 := by kernel_rfl

theorem index_run {o : Oper} {a : Act} {x y : Operand} {t e : TypeId} {len i : Nat} {A : Array Value} {v : Value} (ho : o.op = .index t x y) (hx : a.eval x = .agg A) (hy : a.eval y = .int .i64 (i : Int)) (ht : Tryd.prog.underlying t = some (.array len e)) (hi : i < len) (ag : ∀ w, (isAgg e).run Tryd.prog w = .ok false w) (sz : ∀ w, (sizeOf e).run Tryd.prog w = .ok 1 w) (hv : A[i]? = some v) (w : World) : (execOp a.eval o).run Tryd.prog w = .ok (.value v) w := by
  have h1 : ((i : Int) < (len : Int)) := by omega
  unfold execOp
  simp only [ho, hx, hy, Instr.index]
  simp [asIntOf, run_underlying ht, h1, sz, go_sem, part, ag, hv]
  intro h
  omega

set_option maxHeartbeats 1000000 in
theorem spread_any (b : List Nat) (w : World) (hl : b.length = 64) (hb : ∀ (i x : Nat), b[i]? = some x → x < 256) :
    Calls Tryd.prog 84 #[.agg (ints .u8 b)] w fun e w' => e = .returned (.agg (ints .u32 (spreadL b))) ∧ Below w.heap.size w w' := by
  have KB : Kept _ := ⟨hb⟩
  clear hb
  obtain ⟨L, hRL⟩ : ∃ L, L = spreadL b := ⟨_, rfl⟩
  rw [← hRL]
  have ERL : Kept _ := ⟨hRL⟩
  clear hRL
  have B0 : Blk (((w.alloc (.cells (ints .u8 b) 56)).alloc (.cells #[.int .u32 0, .int .u32 0, .int .u32 0, .int .u32 0, .int .u32 0, .int .u32 0, .int .u32 0, .int .u32 0, .int .u32 0, .int .u32 0, .int .u32 0, .int .u32 0, .int .u32 0, .int .u32 0, .int .u32 0, .int .u32 0, .int .u32 0, .int .u32 0, .int .u32 0, .int .u32 0, .int .u32 0, .int .u32 0, .int .u32 0, .int .u32 0, .int .u32 0, .int .u32 0, .int .u32 0, .int .u32 0, .int .u32 0, .int .u32 0, .int .u32 0, .int .u32 0, .int .u32 0, .int .u32 0, .int .u32 0, .int .u32 0, .int .u32 0, .int .u32 0, .int .u32 0, .int .u32 0, .int .u32 0, .int .u32 0, .int .u32 0, .int .u32 0, .int .u32 0, .int .u32 0, .int .u32 0, .int .u32 0, .int .u32 0, .int .u32 0, .int .u32 0, .int .u32 0, .int .u32 0, .int .u32 0, .int .u32 0, .int .u32 0, .int .u32 0, .int .u32 0, .int .u32 0, .int .u32 0, .int .u32 0, .int .u32 0, .int .u32 0, .int .u32 0] 123)).alloc (.cells #[.int .u32 0, .int .u32 0, .int .u32 0, .int .u32 0, .int .u32 0, .int .u32 0, .int .u32 0, .int .u32 0, .int .u32 0, .int .u32 0, .int .u32 0, .int .u32 0, .int .u32 0, .int .u32 0, .int .u32 0, .int .u32 0, .int .u32 0, .int .u32 0, .int .u32 0, .int .u32 0, .int .u32 0, .int .u32 0, .int .u32 0, .int .u32 0, .int .u32 0, .int .u32 0, .int .u32 0, .int .u32 0, .int .u32 0, .int .u32 0, .int .u32 0, .int .u32 0, .int .u32 0, .int .u32 0, .int .u32 0, .int .u32 0, .int .u32 0, .int .u32 0, .int .u32 0, .int .u32 0, .int .u32 0, .int .u32 0, .int .u32 0, .int .u32 0, .int .u32 0, .int .u32 0, .int .u32 0, .int .u32 0, .int .u32 0, .int .u32 0, .int .u32 0, .int .u32 0, .int .u32 0, .int .u32 0, .int .u32 0, .int .u32 0, .int .u32 0, .int .u32 0, .int .u32 0, .int .u32 0, .int .u32 0, .int .u32 0, .int .u32 0, .int .u32 0] 123)) w.heap.size 56 (ints .u8 b) := ((blk_new w _ _).alloc _).alloc _
  go_enter Tryd.func84, Tryd.ntmps84
  go_wp2_with (first | (refine wl_load rfl 56 (.tmp 1) rfl _ rfl (ints .u8 b) 64 5 Tryd.underlying56 (by rw [ints_size, hl]; exact b64_info) B0 ?_))
  generalize hW : ((w.alloc (.cells (ints .u8 b) 56)).alloc (.cells #[.int .u32 0, .int .u32 0, .int .u32 0, .int .u32 0, .int .u32 0, .int .u32 0, .int .u32 0, .int .u32 0, .int .u32 0, .int .u32 0, .int .u32 0, .int .u32 0, .int .u32 0, .int .u32 0, .int .u32 0, .int .u32 0, .int .u32 0, .int .u32 0, .int .u32 0, .int .u32 0, .int .u32 0, .int .u32 0, .int .u32 0, .int .u32 0, .int .u32 0, .int .u32 0, .int .u32 0, .int .u32 0, .int .u32 0, .int .u32 0, .int .u32 0, .int .u32 0, .int .u32 0, .int .u32 0, .int .u32 0, .int .u32 0, .int .u32 0, .int .u32 0, .int .u32 0, .int .u32 0, .int .u32 0, .int .u32 0, .int .u32 0, .int .u32 0, .int .u32 0, .int .u32 0, .int .u32 0, .int .u32 0, .int .u32 0, .int .u32 0, .int .u32 0, .int .u32 0, .int .u32 0, .int .u32 0, .int .u32 0, .int .u32 0, .int .u32 0, .int .u32 0, .int .u32 0, .int .u32 0, .int .u32 0, .int .u32 0, .int .u32 0, .int .u32 0] 123)).alloc (.cells #[.int .u32 0, .int .u32 0, .int .u32 0, .int .u32 0, .int .u32 0, .int .u32 0, .int .u32 0, .int .u32 0, .int .u32 0, .int .u32 0, .int .u32 0, .int .u32 0, .int .u32 0, .int .u32 0, .int .u32 0, .int .u32 0, .int .u32 0, .int .u32 0, .int .u32 0, .int .u32 0, .int .u32 0, .int .u32 0, .int .u32 0, .int .u32 0, .int .u32 0, .int .u32 0, .int .u32 0, .int .u32 0, .int .u32 0, .int .u32 0, .int .u32 0, .int .u32 0, .int .u32 0, .int .u32 0, .int .u32 0, .int .u32 0, .int .u32 0, .int .u32 0, .int .u32 0, .int .u32 0, .int .u32 0, .int .u32 0, .int .u32 0, .int .u32 0, .int .u32 0, .int .u32 0, .int .u32 0, .int .u32 0, .int .u32 0, .int .u32 0, .int .u32 0, .int .u32 0, .int .u32 0, .int .u32 0, .int .u32 0, .int .u32 0, .int .u32 0, .int .u32 0, .int .u32 0, .int .u32 0, .int .u32 0, .int .u32 0, .int .u32 0, .int .u32 0] 123) = W0 at *
  have B1 : Blk W0 (w.heap.size + 1) 123 #[.int .u32 0, .int .u32 0, .int .u32 0, .int .u32 0, .int .u32 0, .int .u32 0, .int .u32 0, .int .u32 0, .int .u32 0, .int .u32 0, .int .u32 0, .int .u32 0, .int .u32 0, .int .u32 0, .int .u32 0, .int .u32 0, .int .u32 0, .int .u32 0, .int .u32 0, .int .u32 0, .int .u32 0, .int .u32 0, .int .u32 0, .int .u32 0, .int .u32 0, .int .u32 0, .int .u32 0, .int .u32 0, .int .u32 0, .int .u32 0, .int .u32 0, .int .u32 0, .int .u32 0, .int .u32 0, .int .u32 0, .int .u32 0, .int .u32 0, .int .u32 0, .int .u32 0, .int .u32 0, .int .u32 0, .int .u32 0, .int .u32 0, .int .u32 0, .int .u32 0, .int .u32 0, .int .u32 0, .int .u32 0, .int .u32 0, .int .u32 0, .int .u32 0, .int .u32 0, .int .u32 0, .int .u32 0, .int .u32 0, .int .u32 0, .int .u32 0, .int .u32 0, .int .u32 0, .int .u32 0, .int .u32 0, .int .u32 0, .int .u32 0, .int .u32 0] := by subst hW; exact (blk_top _ _ _ _ (by simp)).alloc _
  have B2 : Blk W0 (w.heap.size + 2) 123 (ints .u32 (packTo b 0)) := by subst hW; rw [packTo_zero, ← zero64]; exact blk_top _ _ _ _ (by simp)
  have QB : Below w.heap.size w W0 := by subst hW; exact (((Below.refl _ _).alloc (Nat.le_refl _) _).alloc (by simp) _).alloc (by simp; omega) _
  clear hW B0
  go_loopg [10] 64 (fun k s10 wr => ∃ i : Nat, i + k = 64 ∧ s10 = .int .i64 (i : Int) ∧ Below w.heap.size w wr ∧ Blk wr (w.heap.size + 1) 123 #[.int .u32 0, .int .u32 0, .int .u32 0, .int .u32 0, .int .u32 0, .int .u32 0, .int .u32 0, .int .u32 0, .int .u32 0, .int .u32 0, .int .u32 0, .int .u32 0, .int .u32 0, .int .u32 0, .int .u32 0, .int .u32 0, .int .u32 0, .int .u32 0, .int .u32 0, .int .u32 0, .int .u32 0, .int .u32 0, .int .u32 0, .int .u32 0, .int .u32 0, .int .u32 0, .int .u32 0, .int .u32 0, .int .u32 0, .int .u32 0, .int .u32 0, .int .u32 0, .int .u32 0, .int .u32 0, .int .u32 0, .int .u32 0, .int .u32 0, .int .u32 0, .int .u32 0, .int .u32 0, .int .u32 0, .int .u32 0, .int .u32 0, .int .u32 0, .int .u32 0, .int .u32 0, .int .u32 0, .int .u32 0, .int .u32 0, .int .u32 0, .int .u32 0, .int .u32 0, .int .u32 0, .int .u32 0, .int .u32 0, .int .u32 0, .int .u32 0, .int .u32 0, .int .u32 0, .int .u32 0, .int .u32 0, .int .u32 0, .int .u32 0, .int .u32 0] ∧ Blk wr (w.heap.size + 2) 123 (ints .u32 (packTo b i)))
  case atStart => exact ⟨0, by omega, rfl, QB, B1, B2⟩
  case round =>
    obtain ⟨i, hik, rfl, HB, A1, A2⟩ := hrel
    clear QB B1 B2
    by_cases hk0 : gk = 0
    · obtain rfl : i = 64 := by omega
      clear hik hk0
      obtain ⟨P0, hP0⟩ : ∃ P0, P0 = packTo b 64 := ⟨_, rfl⟩
      rw [← hP0] at A2
      have SP0 : Kept (Small P0) := ⟨by rw [hP0]; exact packTo_small b KB.out 64⟩
      have LP0 : Kept (P0.length = 64) := ⟨by rw [hP0]; exact packTo_len b 64⟩
      have EP : Kept (extTo P0 48 = L) := ⟨by rw [ERL.out, hP0]; rfl⟩
      clear hP0
      rw [← extTo_zero P0] at A2
      go_wp2_with fail
      go_loopg [6] 48 (fun k s6 wr => ∃ n : Nat, n + k = 48 ∧ s6 = .int .i64 ((16 + n : Nat) : Int) ∧ Below w.heap.size w wr ∧ Blk wr (w.heap.size + 1) 123 #[.int .u32 0, .int .u32 0, .int .u32 0, .int .u32 0, .int .u32 0, .int .u32 0, .int .u32 0, .int .u32 0, .int .u32 0, .int .u32 0, .int .u32 0, .int .u32 0, .int .u32 0, .int .u32 0, .int .u32 0, .int .u32 0, .int .u32 0, .int .u32 0, .int .u32 0, .int .u32 0, .int .u32 0, .int .u32 0, .int .u32 0, .int .u32 0, .int .u32 0, .int .u32 0, .int .u32 0, .int .u32 0, .int .u32 0, .int .u32 0, .int .u32 0, .int .u32 0, .int .u32 0, .int .u32 0, .int .u32 0, .int .u32 0, .int .u32 0, .int .u32 0, .int .u32 0, .int .u32 0, .int .u32 0, .int .u32 0, .int .u32 0, .int .u32 0, .int .u32 0, .int .u32 0, .int .u32 0, .int .u32 0, .int .u32 0, .int .u32 0, .int .u32 0, .int .u32 0, .int .u32 0, .int .u32 0, .int .u32 0, .int .u32 0, .int .u32 0, .int .u32 0, .int .u32 0, .int .u32 0, .int .u32 0, .int .u32 0, .int .u32 0, .int .u32 0] ∧ Blk wr (w.heap.size + 2) 123 (ints .u32 (extTo P0 n)))
      case atStart => exact ⟨0, by omega, rfl, HB, A1, A2⟩
      case round =>
        obtain ⟨n, hnk, rfl, HB, A1, A2⟩ := hrel
        by_cases hk1 : gk = 0
        · obtain rfl : n = 48 := by omega
          rw [EP.out] at A2
          have HL : Kept (L.length = 64) := ⟨by rw [← EP.out, extTo_len, LP0.out]⟩
          go_wp2_with (first | (refine wl_load rfl 123 (.tmp 3) rfl _ rfl (ints .u32 L) 64 45 Tryd.underlying123 (by rw [ints_size, HL.out]; exact w64_info) A2 ?_) | (refine wl_store rfl 123 (.tmp 2) (.tmp 63) rfl _ (ints .u32 L) rfl rfl _ A1 (by rw [ints_size, HL.out]; exact w64_info) (by rw [ints_size, HL.out]; rfl) (ints_one _ _) ?_))
          intro w3 A3 P3
          go_wp2
          exact bodyPost_ret (v := .agg (ints .u32 L)) (results_cell_row Tryd.results84 _ _ _ 123 (ints .u32 L) (0, 0) _ rfl A3 Tryd.underlying123 rfl (by rw [ints_size, HL.out]; exact w64_info)) rfl ⟨rfl, HB.trans (P3.below (by omega))⟩
        · obtain ⟨i, hi⟩ : ∃ i, i = 16 + n := ⟨_, rfl⟩
          rw [← hi]
          have hi16 : 16 ≤ i := by omega
          have hi64 : i < 64 := by omega
          have hlt : ((i : Int) < 64) := by omega
          have i2 : i - 2 < 64 := by omega
          have i15 : i - 15 < 64 := by omega
          obtain ⟨P, hP⟩ : ∃ P, P = extTo P0 n := ⟨_, rfl⟩
          rw [← hP] at A2
          have LP : Kept (P.length = 64) := ⟨by rw [hP, extTo_len, LP0.out]⟩
          have SP : Kept (Small P) := ⟨by rw [hP]; exact extTo_small P0 SP0.out n⟩
          obtain ⟨near, hnear⟩ : ∃ x, P[i - 2]? = some x := ⟨_, List.getElem?_eq_getElem (by have := LP.out; omega)⟩
          obtain ⟨p7, hp7⟩ : ∃ x, P[i - 7]? = some x := ⟨_, List.getElem?_eq_getElem (by have := LP.out; omega)⟩
          obtain ⟨far, hfar⟩ : ∃ x, P[i - 15]? = some x := ⟨_, List.getElem?_eq_getElem (by have := LP.out; omega)⟩
          obtain ⟨p16, hp16⟩ : ∃ x, P[i - 16]? = some x := ⟨_, List.getElem?_eq_getElem (by have := LP.out; omega)⟩
          obtain ⟨t1, ht1⟩ : ∃ x, x = turnN near [17, 19] := ⟨_, rfl⟩
          obtain ⟨t2, ht2⟩ : ∃ x, x = turnN far [7, 18] := ⟨_, rfl⟩
          obtain ⟨n10, hn10⟩ : ∃ x, x = near / 2 ^ 10 := ⟨_, rfl⟩
          obtain ⟨f3, hf3⟩ : ∃ x, x = far / 2 ^ 3 := ⟨_, rfl⟩
          obtain ⟨y1, hy1⟩ : ∃ x, x = t1 ^^^ n10 := ⟨_, rfl⟩
          obtain ⟨y2, hy2⟩ : ∃ x, x = (y1 + p7) % 4294967296 := ⟨_, rfl⟩
          obtain ⟨y3, hy3⟩ : ∃ x, x = t2 ^^^ f3 := ⟨_, rfl⟩
          obtain ⟨y4, hy4⟩ : ∃ x, x = (y2 + y3) % 4294967296 := ⟨_, rfl⟩
          obtain ⟨z, hz⟩ : ∃ x, x = (y4 + p16) % 4294967296 := ⟨_, rfl⟩
          have lnear := SP.out _ _ hnear
          have lfar := SP.out _ _ hfar
          have KN : Kept (P.set i z = extTo P0 (n + 1)) := ⟨by
            rw [extTo_succ, ← hP, ← hi]
            unfold extAt extN
            simp only [List.getD_eq_getElem?_getD, hnear, hp7, hfar, hp16, Option.getD_some]
            rw [hz, hy4, hy3, hy2, hy1, hn10, hf3, ht1, ht2]⟩
          have C1 : Kept (∀ (w' : World) (vy : Value), SliceAt 3 .i64 [17, 19] 2 vy w' → Calls Tryd.prog 87 #[.int .u32 (near : Int), vy] w' fun e w2 => e = .returned (.int .u32 (t1 : Int)) ∧ Below w'.heap.size w' w2) := ⟨fun w' vy hp => turned_at near [17, 19] 2 lnear amounts3 (by decide) w' vy hp t1 ht1⟩
          have C2 : Kept (∀ (w' : World) (vy : Value), SliceAt 3 .i64 [7, 18] 2 vy w' → Calls Tryd.prog 87 #[.int .u32 (far : Int), vy] w' fun e w2 => e = .returned (.int .u32 (t2 : Int)) ∧ Below w'.heap.size w' w2) := ⟨fun w' vy hp => turned_at far [7, 18] 2 lfar amounts4 (by decide) w' vy hp t2 ht2⟩
          have Lt1 : Kept (t1 < 4294967296) := ⟨by rw [ht1]; exact turnN_lt _ _ lnear⟩
          have Lt2 : Kept (t2 < 4294967296) := ⟨by rw [ht2]; exact turnN_lt _ _ lfar⟩
          have Ln10 : Kept (n10 < 4294967296) := ⟨by rw [hn10]; exact Nat.lt_of_le_of_lt (Nat.div_le_self _ _) lnear⟩
          have Lf3 : Kept (f3 < 4294967296) := ⟨by rw [hf3]; exact Nat.lt_of_le_of_lt (Nat.div_le_self _ _) lfar⟩
          have E43 : Kept _ := ⟨hn10⟩
          have E44 : Kept _ := ⟨hy1⟩
          have E49 : Kept _ := ⟨hy2⟩
          have E54 : Kept _ := ⟨hf3⟩
          have E55 : Kept _ := ⟨hy3⟩
          have E56 : Kept _ := ⟨hy4⟩
          have E61 : Kept _ := ⟨hz⟩
          have hnk' : 16 + (n + 1) = i + 1 := by omega
          clear hP ht1 ht2 hn10 hf3 hy1 hy2 hy3 hy4 hz lnear lfar hi
          go_wp2_with fail
          refine wp_region_quiet (C := fun w' => Below wr.heap.size wr w') (by kernel_rfl) (by kernel_rfl) (Below.drew (Below.refl _ _)) ?_
          refine q_val (by kernel_rfl) (.int .i64 (i : Int)) (fun w' => by kernel_rfl) ?_
          simp only [Act.put, List.setIfInBounds_toArray, List.set_cons_succ, List.set_cons_zero]
          refine q_val (by kernel_rfl) (.int .i64 ((i - 2 : Nat) : Int)) (fun w' => run_subI 2 rfl (by kernel_rfl) (by omega) (by omega) w') ?_
          simp only [Act.put, List.setIfInBounds_toArray, List.set_cons_succ, List.set_cons_zero]
          refine q_val (by kernel_rfl) (.pointer (some ⟨w.heap.size + 1 + 1, i - 2, none⟩)) (fun w' => run_idx rfl (by kernel_rfl) (by kernel_rfl) Tryd.underlying123 i2 sz_u32 w') ?_
          simp only [Act.put, List.setIfInBounds_toArray, List.set_cons_succ, List.set_cons_zero]
          refine q_elem (by kernel_rfl) 45 ag_u32 (.tmp 32) rfl (w.heap.size + 1 + 1) (i - 2) (by kernel_rfl) 123 (ints .u32 P) (.int .u32 (near : Int)) (fun w' hb => Blk.under A2 hb) (ints_get hnear) ?_
          simp only [Act.put, List.setIfInBounds_toArray, List.set_cons_succ, List.set_cons_zero]
          refine q_val (by kernel_rfl) (.int .i64 (i : Int)) (fun w' => by kernel_rfl) ?_
          simp only [Act.put, List.setIfInBounds_toArray, List.set_cons_succ, List.set_cons_zero]
          refine q_val (by kernel_rfl) (.int .i64 ((i - 15 : Nat) : Int)) (fun w' => run_subI 15 rfl (by kernel_rfl) (by omega) (by omega) w') ?_
          simp only [Act.put, List.setIfInBounds_toArray, List.set_cons_succ, List.set_cons_zero]
          refine q_val (by kernel_rfl) (.pointer (some ⟨w.heap.size + 1 + 1, i - 15, none⟩)) (fun w' => run_idx rfl (by kernel_rfl) (by kernel_rfl) Tryd.underlying123 i15 sz_u32 w') ?_
          simp only [Act.put, List.setIfInBounds_toArray, List.set_cons_succ, List.set_cons_zero]
          refine q_elem (by kernel_rfl) 45 ag_u32 (.tmp 36) rfl (w.heap.size + 1 + 1) (i - 15) (by kernel_rfl) 123 (ints .u32 P) (.int .u32 (far : Int)) (fun w' hb => Blk.under A2 hb) (ints_get hfar) ?_
          simp only [Act.put, List.setIfInBounds_toArray, List.set_cons_succ, List.set_cons_zero]
          refine q_val (by kernel_rfl) (.int .u32 (near : Int)) (fun w' => by kernel_rfl) ?_
          simp only [Act.put, List.setIfInBounds_toArray, List.set_cons_succ, List.set_cons_zero]
          refine q_val (by kernel_rfl) (.int .u32 (far : Int)) (fun w' => by kernel_rfl) ?_
          simp only [Act.put, List.setIfInBounds_toArray, List.set_cons_succ, List.set_cons_zero]
          refine wpQuiet_nil ?_
          intro w3 hb3
          have A1' := A1.under hb3
          have A2' := A2.under hb3
          have HB' := HB.trans (hb3.mono HB.size)
          clear A1 A2 HB hb3
          have A1 := A1'
          have A2 := A2'
          have HB := HB'
          clear A1' A2' HB'
          go_wp2_with fail
          refine region_list w3 25 [(38, .int .i64 (i : Int)), (39, .int .u32 (near : Int)), (41, .int .u32 (t1 : Int)), (42, .int .u32 (near : Int)), (43, .int .u32 (n10 : Int)), (44, .int .u32 (y1 : Int)), (45, .int .i64 (i : Int)), (46, .int .i64 ((i - 7 : Nat) : Int)), (47, .pointer (some ⟨w.heap.size + 1 + 1, i - 7, none⟩)), (48, .int .u32 (p7 : Int)), (49, .int .u32 (y2 : Int)), (50, .int .u32 (far : Int)), (52, .int .u32 (t2 : Int)), (53, .int .u32 (far : Int)), (54, .int .u32 (f3 : Int)), (55, .int .u32 (y3 : Int)), (56, .int .u32 (y4 : Int)), (57, .int .i64 (i : Int)), (58, .int .i64 ((i - 16 : Nat) : Int)), (59, .pointer (some ⟨w.heap.size + 1 + 1, i - 16, none⟩)), (60, .int .u32 (p16 : Int)), (61, .int .u32 (z : Int)), (62, .pointer (some ⟨w.heap.size + 1 + 1, i, none⟩))] [(40, SliceAt 3 .i64 [17, 19] 2), (51, SliceAt 3 .i64 [7, 18] 2)] rfl (by kernel_rfl) (by kernel_rfl) (by kernel_rfl) (by kernel_rfl) (by kernel_rfl) (by kernel_rfl) (by kernel_rfl) (by kernel_rfl) ?hst (Below.refl _ _) (fun hA => ⟨rel_val hA (by kernel_rfl) rfl rfl 38 (.int .i64 (i : Int)) rfl rfl (by kernel_rfl) (fun w => by kernel_rfl), rel_val hA (by kernel_rfl) rfl rfl 39 (.int .u32 (near : Int)) rfl rfl (by kernel_rfl) (fun w => by kernel_rfl), rel_new rfl 40 rfl (fun a w => ⟨_, _, by kernel_rfl, rel_spec (SliceAt 3 .i64 [17, 19] 2) rfl ⟨w.heap.size, rfl, blk_new w 3 _⟩, (Below.refl _ _).alloc (Nat.le_refl _) _⟩), rel_call_ds hA rfl 41 87 Tryd.f87 _ 39 40 _ rfl rfl Tryd.func87 (by kernel_rfl) rfl (.int .u32 (near : Int)) (by kernel_rfl) rfl (by kernel_rfl) (SliceAt 3 .i64 [17, 19] 2) (by kernel_rfl) rfl (fun w' vy hb hp => (C1.out w' vy hp).mono fun e w2 hh => ⟨_, hh.1, rel_det hA rfl (by kernel_rfl), hh.2⟩), rel_val hA (by kernel_rfl) rfl rfl 42 (.int .u32 (near : Int)) rfl rfl (by kernel_rfl) (fun w => by kernel_rfl), rel_val hA (by kernel_rfl) rfl rfl 43 (.int .u32 (n10 : Int)) rfl rfl (by kernel_rfl) (fun w => run_shr32 10 rfl (by kernel_rfl) (by decide) E43.out w), rel_val hA (by kernel_rfl) rfl rfl 44 (.int .u32 (y1 : Int)) rfl rfl (by kernel_rfl) (fun w => run_xor32 rfl (by kernel_rfl) (by kernel_rfl) Lt1.out Ln10.out E44.out w), rel_val hA (by kernel_rfl) rfl rfl 45 (.int .i64 (i : Int)) rfl rfl (by kernel_rfl) (fun w => by kernel_rfl), rel_val hA (by kernel_rfl) rfl rfl 46 (.int .i64 ((i - 7 : Nat) : Int)) rfl rfl (by kernel_rfl) (fun w => run_subI 7 rfl (by kernel_rfl) (by omega) (by omega) w), rel_val hA (by kernel_rfl) rfl rfl 47 (.pointer (some ⟨w.heap.size + 1 + 1, i - 7, none⟩)) rfl rfl (by kernel_rfl) (fun w => run_idx rfl (by kernel_rfl) (by kernel_rfl) Tryd.underlying123 (by omega) sz_u32 w), rel_elem hA (by kernel_rfl) rfl rfl 48 (.int .u32 (p7 : Int)) rfl rfl (by kernel_rfl) 45 ag_u32 (.tmp 47) rfl (w.heap.size + 1 + 1) (i - 7) (by kernel_rfl) 123 (ints .u32 P) (fun w' hb => Blk.under A2 hb) (ints_get hp7), rel_val hA (by kernel_rfl) rfl rfl 49 (.int .u32 (y2 : Int)) rfl rfl (by kernel_rfl) (fun w => run_add32 rfl (by kernel_rfl) (by kernel_rfl) E49.out w), rel_val hA (by kernel_rfl) rfl rfl 50 (.int .u32 (far : Int)) rfl rfl (by kernel_rfl) (fun w => by kernel_rfl), rel_new rfl 51 rfl (fun a w => ⟨_, _, by kernel_rfl, rel_spec (SliceAt 3 .i64 [7, 18] 2) rfl ⟨w.heap.size, rfl, blk_new w 3 _⟩, (Below.refl _ _).alloc (Nat.le_refl _) _⟩), rel_call_ds hA rfl 52 87 Tryd.f87 _ 50 51 _ rfl rfl Tryd.func87 (by kernel_rfl) rfl (.int .u32 (far : Int)) (by kernel_rfl) rfl (by kernel_rfl) (SliceAt 3 .i64 [7, 18] 2) (by kernel_rfl) rfl (fun w' vy hb hp => (C2.out w' vy hp).mono fun e w2 hh => ⟨_, hh.1, rel_det hA rfl (by kernel_rfl), hh.2⟩), rel_val hA (by kernel_rfl) rfl rfl 53 (.int .u32 (far : Int)) rfl rfl (by kernel_rfl) (fun w => by kernel_rfl), rel_val hA (by kernel_rfl) rfl rfl 54 (.int .u32 (f3 : Int)) rfl rfl (by kernel_rfl) (fun w => run_shr32 3 rfl (by kernel_rfl) (by decide) E54.out w), rel_val hA (by kernel_rfl) rfl rfl 55 (.int .u32 (y3 : Int)) rfl rfl (by kernel_rfl) (fun w => run_xor32 rfl (by kernel_rfl) (by kernel_rfl) Lt2.out Lf3.out E55.out w), rel_val hA (by kernel_rfl) rfl rfl 56 (.int .u32 (y4 : Int)) rfl rfl (by kernel_rfl) (fun w => run_add32 rfl (by kernel_rfl) (by kernel_rfl) E56.out w), rel_val hA (by kernel_rfl) rfl rfl 57 (.int .i64 (i : Int)) rfl rfl (by kernel_rfl) (fun w => by kernel_rfl), rel_val hA (by kernel_rfl) rfl rfl 58 (.int .i64 ((i - 16 : Nat) : Int)) rfl rfl (by kernel_rfl) (fun w => run_subI 16 rfl (by kernel_rfl) (by omega) (by omega) w), rel_val hA (by kernel_rfl) rfl rfl 59 (.pointer (some ⟨w.heap.size + 1 + 1, i - 16, none⟩)) rfl rfl (by kernel_rfl) (fun w => run_idx rfl (by kernel_rfl) (by kernel_rfl) Tryd.underlying123 (by omega) sz_u32 w), rel_elem hA (by kernel_rfl) rfl rfl 60 (.int .u32 (p16 : Int)) rfl rfl (by kernel_rfl) 45 ag_u32 (.tmp 59) rfl (w.heap.size + 1 + 1) (i - 16) (by kernel_rfl) 123 (ints .u32 P) (fun w' hb => Blk.under A2 hb) (ints_get hp16), rel_val hA (by kernel_rfl) rfl rfl 61 (.int .u32 (z : Int)) rfl rfl (by kernel_rfl) (fun w => run_add32 rfl (by kernel_rfl) (by kernel_rfl) E61.out w), rel_val hA (by kernel_rfl) rfl rfl 62 (.pointer (some ⟨w.heap.size + 1 + 1, i, none⟩)) rfl rfl (by kernel_rfl) (fun w => run_idx rfl (by kernel_rfl) (by kernel_rfl) Tryd.underlying123 (by omega) sz_u32 w), trivial⟩) ?_
          case hst =>
            intro q hq v w1 w2 h1 h2
            simp only [List.mem_cons, List.not_mem_nil, or_false] at hq
            rcases hq with rfl | rfl <;> exact SliceAt.under h1 h2
          intro fv w4 hf hb4
          simp only [putR, List.foldl_cons, List.foldl_nil, List.map_cons, List.map_nil, Act.put, List.setIfInBounds_toArray, List.set_cons_succ, List.set_cons_zero]
          have A1' := A1.under hb4
          have A2' := A2.under hb4
          have HB' := HB.trans (hb4.mono HB.size)
          clear A1 A2 HB hb4 hf C1 C2
          refine wl_setElem rfl 45 sz_u32 (.tmp 62) (.tmp 61) rfl (w.heap.size + 1 + 1) i .u32 (z : Int) (by kernel_rfl) (by kernel_rfl) _ A2' (by rw [ints_size, LP.out]; exact hi64) ?_
          intro w5 A5 P5
          rw [ints_set, KN.out] at A5
          have A15 := P5.blk A1' (by omega)
          have HB5 := HB'.trans (P5.below (by omega))
          clear A1' A2' HB' P5 hnear hp7 hfar hp16 KN
          go_wp2_with fail
          go_roundg (gk - 1)
          case measure => omega
          case rel => exact ⟨n + 1, by omega, by rw [hnk']; simp, HB5, A15, A5⟩
    · have hil : i < 64 := by omega
      have hlt : ((i : Int) < 64) := by omega
      obtain ⟨x, hx⟩ : ∃ x, b[i]? = some x := ⟨_, List.getElem?_eq_getElem (by omega)⟩
      have lx := KB.out i x hx
      obtain ⟨P, hP⟩ : ∃ P, P = packTo b i := ⟨_, rfl⟩
      rw [← hP] at A2
      have LP : Kept (P.length = 64) := ⟨by rw [hP]; exact packTo_len b i⟩
      obtain ⟨y, hy⟩ : ∃ y, P[i / 4]? = some y := ⟨_, List.getElem?_eq_getElem (by have := LP.out; omega)⟩
      have ly : y < 4294967296 := by rw [hP] at hy; exact packTo_small b KB.out i _ _ hy
      obtain ⟨z, hz⟩ : ∃ z, z = (y * 256 % 4294967296) ||| x := ⟨_, rfl⟩
      have ez : bits .or .u32 ((y : Int) * 256 % 4294967296) ((x : Int) % 4294967296) = (z : Int) := by
        rw [show (y : Int) * 256 % 4294967296 = ((y * 256 % 4294967296 : Nat) : Int) from by omega, show (x : Int) % 4294967296 = (x : Int) from by omega, u32_or_nat _ _ (Nat.mod_lt _ (by decide)) (by omega), hz]
      have KN : Kept (P.set (i / 4) z = packTo b (i + 1)) := ⟨by rw [packTo, ← hP, hz]; simp [List.getD_eq_getElem?_getD, hy, hx]⟩
      have l2 : i / 4 < (ints .u32 P).size := by rw [ints_size, LP.out]; omega
      have KX : Kept _ := ⟨lx⟩
      have KY : Kept _ := ⟨ly⟩
      clear hP hz lx ly
      go_wp2_with (first | (refine wl_at (d := 13) rfl rfl (.int .u8 (x : Int)) ?h1 ?_; (case h1 => exact index_run rfl rfl rfl Tryd.underlying56 hil ag_u8 sz_u8 (ints_get hx) _); simp only [Act.put, List.setIfInBounds_toArray, List.set_cons_succ, List.set_cons_zero]) | (refine wl_elem rfl 45 ag_u32 (.tmp 18) rfl (w.heap.size + 2) (i / 4) rfl (ints .u32 P) (.int .u32 (y : Int)) A2 (ints_get hy) ?_) | (refine wl_setElem rfl 45 sz_u32 (.tmp 24) (.tmp 23) rfl (w.heap.size + 1 + 1) (i / 4) .u32 (bits .or .u32 ((y : Int) * 256 % 4294967296) ((x : Int) % 4294967296)) rfl rfl _ A2 l2 ?_) | (refine wl_setElem rfl 45 sz_u32 (.tmp 24) (.tmp 23) rfl (w.heap.size + 1 + 1) (i / 4) .u32 (z : Int) rfl rfl _ A2 l2 ?_))
      try rw [ez]
      intro w4 A4 P4
      rw [ints_set, KN.out] at A4
      have A14 := P4.blk A1 (by omega)
      have HB4 := HB.trans (P4.below (by omega))
      clear A1 A2 HB P4 hx hy KN ez l2
      go_wp2_with fail
      go_roundg (gk - 1)
      case measure => omega
      case rel => exact ⟨i + 1, by omega, by simp, HB4, A14, A4⟩
end Go.Proofs.YtkibojjbghopkaaDoor.sh
