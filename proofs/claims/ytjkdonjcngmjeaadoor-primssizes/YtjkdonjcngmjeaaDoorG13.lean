/-
  General pieces, joined: SY SZ.
-/
import Derived.Test.YtjkdonjcngmjeaaDoorG11
import Derived.Test.YtjkdonjcngmjeaaDoorG12
/-
  The words of a block.
-/
namespace Go.Proofs.YtjkdonjcngmjeaaDoor.sh
open Go Go.RowKit
set_option linter.unusedVariables false
set_option linter.unusedSimpArgs false

/-- All below 2^32. -/
def Small (l : List Nat) : Prop := ∀ (i x : Nat), l[i]? = some x → x < 4294967296
theorem Small.set {l : List Nat} (h : Small l) (i v : Nat) (hv : v < 4294967296) : Small (l.set i v) := by
  intro j x hx
  by_cases hij : i = j
  · subst hij
    rw [List.getElem?_set_self'] at hx
    cases hq : l[i]? with
    | none => simp [hq] at hx
    | some y => simp [hq] at hx; omega
  · rw [List.getElem?_set_ne hij] at hx
    exact h j x hx
theorem Small.getD {l : List Nat} (h : Small l) (i : Nat) : l.getD i 0 < 4294967296 := by
  cases hq : l[i]? with
  | none => simp [List.getD_eq_getElem?_getD, hq]
  | some y => simp [List.getD_eq_getElem?_getD, hq]; exact h i y hq

/-- The first words, behind so many bytes. -/
def packTo (b : List Nat) : Nat → List Nat
  | 0 => List.replicate 64 0
  | i + 1 => (packTo b i).set (i / 4) (((packTo b i).getD (i / 4) 0 * 256 % 4294967296) ||| b.getD i 0)
theorem packTo_len (b : List Nat) : ∀ i, (packTo b i).length = 64
  | 0 => by simp [packTo]
  | i + 1 => by rw [packTo, List.length_set]; exact packTo_len b i
theorem packTo_small (b : List Nat) (hb : ∀ (i x : Nat), b[i]? = some x → x < 256) : ∀ i, Small (packTo b i)
  | 0 => fun j x hx => by
    rw [packTo, List.getElem?_replicate] at hx
    split at hx <;> simp at hx
    omega
  | i + 1 => by
    refine (packTo_small b hb i).set _ _ (Nat.or_lt_two_pow (n := 32) (Nat.mod_lt _ (by decide)) ?_)
    cases hq : b[i]? with
    | none => simp [List.getD_eq_getElem?_getD, hq]
    | some y => simp [List.getD_eq_getElem?_getD, hq]; have := hb i y hq; omega
theorem packTo_zero (b : List Nat) : packTo b 0 = List.replicate 64 0 := rfl
/-- A further word: of the one 2, 7, 15 and 16 ahead of it. -/
def extN (near p7 far p16 : Nat) : Nat := ((((turnN near [17, 19] ^^^ near / 2 ^ 10) + p7) % 4294967296 + (turnN far [7, 18] ^^^ far / 2 ^ 3)) % 4294967296 + p16) % 4294967296
theorem extN_lt (a b c d : Nat) : extN a b c d < 4294967296 := Nat.mod_lt _ (by decide)
def extAt (P : List Nat) (i : Nat) : List Nat := P.set i (extN (P.getD (i - 2) 0) (P.getD (i - 7) 0) (P.getD (i - 15) 0) (P.getD (i - 16) 0))
/-- All words, the first 16 given, so many further ones reckoned. -/
def extTo (P : List Nat) : Nat → List Nat
  | 0 => P
  | n + 1 => extAt (extTo P n) (16 + n)
theorem extTo_zero (P : List Nat) : extTo P 0 = P := rfl
theorem extTo_succ (P : List Nat) (n : Nat) : extTo P (n + 1) = extAt (extTo P n) (16 + n) := rfl
theorem extTo_len (P : List Nat) : ∀ n, (extTo P n).length = P.length
  | 0 => rfl
  | n + 1 => by rw [extTo_succ]; unfold extAt; rw [List.length_set]; exact extTo_len P n
theorem extTo_small (P : List Nat) (h : Small P) : ∀ n, Small (extTo P n)
  | 0 => h
  | n + 1 => by rw [extTo_succ]; exact (extTo_small P h n).set _ _ (extN_lt _ _ _ _)
/-- The words W of a block. -/
def spreadL (b : List Nat) : List Nat := extTo (packTo b 64) 48
theorem amounts3 (i m : Nat) (h : [17, 19][i]? = some m) : 0 < m ∧ m < 32 := by
  rcases i with _ | _ | i <;> simp at h <;> omega
theorem amounts4 (i m : Nat) (h : [7, 18][i]? = some m) : 0 < m ∧ m < 32 := by
  rcases i with _ | _ | i <;> simp at h <;> omega
theorem turned_at (n : Nat) (ms : List Nat) (cap : Nat) (hn : n < 4294967296) (hms : ∀ (i m : Nat), ms[i]? = some m → 0 < m ∧ m < 32) (hl : ms.length < 100) (w : World) (v : Value) (hv : SliceAt 3 .i64 ms cap v w) (t : Nat) (ht : t = turnN n ms) :
    Calls Tryd.prog 18 #[.int .u32 (n : Int), v] w fun e w' => e = .returned (.int .u32 (t : Int)) ∧ Below w.heap.size w w' := by
  obtain ⟨g, rfl, hb⟩ := hv
  refine (turned_any n ms g cap 3 w hn hms hb hl).mono fun e w' hh => ?_
  rw [hh.1, hh.2, ht]
  exact ⟨rfl, Below.refl _ _⟩
theorem zero64 : (#[.int .u32 0, .int .u32 0, .int .u32 0, .int .u32 0, .int .u32 0, .int .u32 0, .int .u32 0, .int .u32 0, .int .u32 0, .int .u32 0, .int .u32 0, .int .u32 0, .int .u32 0, .int .u32 0, .int .u32 0, .int .u32 0, .int .u32 0, .int .u32 0, .int .u32 0, .int .u32 0, .int .u32 0, .int .u32 0, .int .u32 0, .int .u32 0, .int .u32 0, .int .u32 0, .int .u32 0, .int .u32 0, .int .u32 0, .int .u32 0, .int .u32 0, .int .u32 0, .int .u32 0, .int .u32 0, .int .u32 0, .int .u32 0, .int .u32 0, .int .u32 0, .int .u32 0, .int .u32 0, .int .u32 0, .int .u32 0, .int .u32 0, .int .u32 0, .int .u32 0, .int .u32 0, .int .u32 0, .int .u32 0, .int .u32 0, .int .u32 0, .int .u32 0, .int .u32 0, .int .u32 0, .int .u32 0, .int .u32 0, .int .u32 0, .int .u32 0, .int .u32 0, .int .u32 0, .int .u32 0, .int .u32 0, .int .u32 0, .int .u32 0, .int .u32 0] : Array Value) = ints .u32 (List.replicate 64 0) := by kernel_rfl
theorem w64_info : (Tryd.prog.info? 59).map (·.size) = some 64 := by kernel_rfl
theorem b64_info : (Tryd.prog.info? 48).map (·.size) = some 64 := by kernel_rfl

theorem index_run {o : Oper} {a : Act} {x y : Operand} {t e : TypeId} {len i : Nat} {A : Array Value} {v : Value} (ho : o.op = .index t x y) (hx : a.eval x = .agg A) (hy : a.eval y = .int .i64 (i : Int)) (ht : Tryd.prog.underlying t = some (.array len e)) (hi : i < len) (ag : ∀ w, (isAgg e).run Tryd.prog w = .ok false w) (sz : ∀ w, (sizeOf e).run Tryd.prog w = .ok 1 w) (hv : A[i]? = some v) (w : World) : (execOp a.eval o).run Tryd.prog w = .ok (.value v) w := by
  have h1 : ((i : Int) < (len : Int)) := by omega
  unfold execOp
  simp only [ho, hx, hy, Instr.index]
  simp [asIntOf, run_underlying ht, h1, sz, go_sem, part, ag, hv]
  intro h
  omega

set_option maxHeartbeats 1000000 in
theorem spread_any (b : List Nat) (w : World) (hl : b.length = 64) (hb : ∀ (i x : Nat), b[i]? = some x → x < 256) :
    Calls Tryd.prog 16 #[.agg (ints .u8 b)] w fun e w' => e = .returned (.agg (ints .u32 (spreadL b))) ∧ Below w.heap.size w w' := by
  have KB : Kept _ := ⟨hb⟩
  clear hb
  obtain ⟨L, hRL⟩ : ∃ L, L = spreadL b := ⟨_, rfl⟩
  rw [← hRL]
  have ERL : Kept _ := ⟨hRL⟩
  clear hRL
  have B0 : Blk (((w.alloc (.cells (ints .u8 b) 48)).alloc (.cells #[.int .u32 0, .int .u32 0, .int .u32 0, .int .u32 0, .int .u32 0, .int .u32 0, .int .u32 0, .int .u32 0, .int .u32 0, .int .u32 0, .int .u32 0, .int .u32 0, .int .u32 0, .int .u32 0, .int .u32 0, .int .u32 0, .int .u32 0, .int .u32 0, .int .u32 0, .int .u32 0, .int .u32 0, .int .u32 0, .int .u32 0, .int .u32 0, .int .u32 0, .int .u32 0, .int .u32 0, .int .u32 0, .int .u32 0, .int .u32 0, .int .u32 0, .int .u32 0, .int .u32 0, .int .u32 0, .int .u32 0, .int .u32 0, .int .u32 0, .int .u32 0, .int .u32 0, .int .u32 0, .int .u32 0, .int .u32 0, .int .u32 0, .int .u32 0, .int .u32 0, .int .u32 0, .int .u32 0, .int .u32 0, .int .u32 0, .int .u32 0, .int .u32 0, .int .u32 0, .int .u32 0, .int .u32 0, .int .u32 0, .int .u32 0, .int .u32 0, .int .u32 0, .int .u32 0, .int .u32 0, .int .u32 0, .int .u32 0, .int .u32 0, .int .u32 0] 59)).alloc (.cells #[.int .u32 0, .int .u32 0, .int .u32 0, .int .u32 0, .int .u32 0, .int .u32 0, .int .u32 0, .int .u32 0, .int .u32 0, .int .u32 0, .int .u32 0, .int .u32 0, .int .u32 0, .int .u32 0, .int .u32 0, .int .u32 0, .int .u32 0, .int .u32 0, .int .u32 0, .int .u32 0, .int .u32 0, .int .u32 0, .int .u32 0, .int .u32 0, .int .u32 0, .int .u32 0, .int .u32 0, .int .u32 0, .int .u32 0, .int .u32 0, .int .u32 0, .int .u32 0, .int .u32 0, .int .u32 0, .int .u32 0, .int .u32 0, .int .u32 0, .int .u32 0, .int .u32 0, .int .u32 0, .int .u32 0, .int .u32 0, .int .u32 0, .int .u32 0, .int .u32 0, .int .u32 0, .int .u32 0, .int .u32 0, .int .u32 0, .int .u32 0, .int .u32 0, .int .u32 0, .int .u32 0, .int .u32 0, .int .u32 0, .int .u32 0, .int .u32 0, .int .u32 0, .int .u32 0, .int .u32 0, .int .u32 0, .int .u32 0, .int .u32 0, .int .u32 0] 59)) w.heap.size 48 (ints .u8 b) := ((blk_new w _ _).alloc _).alloc _
  go_enter Tryd.func16, Tryd.ntmps16
  go_wp2_with (first | (refine wl_load rfl 48 (.tmp 1) rfl _ rfl (ints .u8 b) 64 5 Tryd.underlying48 (by rw [ints_size, hl]; exact b64_info) B0 ?_))
  generalize hW : ((w.alloc (.cells (ints .u8 b) 48)).alloc (.cells #[.int .u32 0, .int .u32 0, .int .u32 0, .int .u32 0, .int .u32 0, .int .u32 0, .int .u32 0, .int .u32 0, .int .u32 0, .int .u32 0, .int .u32 0, .int .u32 0, .int .u32 0, .int .u32 0, .int .u32 0, .int .u32 0, .int .u32 0, .int .u32 0, .int .u32 0, .int .u32 0, .int .u32 0, .int .u32 0, .int .u32 0, .int .u32 0, .int .u32 0, .int .u32 0, .int .u32 0, .int .u32 0, .int .u32 0, .int .u32 0, .int .u32 0, .int .u32 0, .int .u32 0, .int .u32 0, .int .u32 0, .int .u32 0, .int .u32 0, .int .u32 0, .int .u32 0, .int .u32 0, .int .u32 0, .int .u32 0, .int .u32 0, .int .u32 0, .int .u32 0, .int .u32 0, .int .u32 0, .int .u32 0, .int .u32 0, .int .u32 0, .int .u32 0, .int .u32 0, .int .u32 0, .int .u32 0, .int .u32 0, .int .u32 0, .int .u32 0, .int .u32 0, .int .u32 0, .int .u32 0, .int .u32 0, .int .u32 0, .int .u32 0, .int .u32 0] 59)).alloc (.cells #[.int .u32 0, .int .u32 0, .int .u32 0, .int .u32 0, .int .u32 0, .int .u32 0, .int .u32 0, .int .u32 0, .int .u32 0, .int .u32 0, .int .u32 0, .int .u32 0, .int .u32 0, .int .u32 0, .int .u32 0, .int .u32 0, .int .u32 0, .int .u32 0, .int .u32 0, .int .u32 0, .int .u32 0, .int .u32 0, .int .u32 0, .int .u32 0, .int .u32 0, .int .u32 0, .int .u32 0, .int .u32 0, .int .u32 0, .int .u32 0, .int .u32 0, .int .u32 0, .int .u32 0, .int .u32 0, .int .u32 0, .int .u32 0, .int .u32 0, .int .u32 0, .int .u32 0, .int .u32 0, .int .u32 0, .int .u32 0, .int .u32 0, .int .u32 0, .int .u32 0, .int .u32 0, .int .u32 0, .int .u32 0, .int .u32 0, .int .u32 0, .int .u32 0, .int .u32 0, .int .u32 0, .int .u32 0, .int .u32 0, .int .u32 0, .int .u32 0, .int .u32 0, .int .u32 0, .int .u32 0, .int .u32 0, .int .u32 0, .int .u32 0, .int .u32 0] 59) = W0 at *
  have B1 : Blk W0 (w.heap.size + 1) 59 #[.int .u32 0, .int .u32 0, .int .u32 0, .int .u32 0, .int .u32 0, .int .u32 0, .int .u32 0, .int .u32 0, .int .u32 0, .int .u32 0, .int .u32 0, .int .u32 0, .int .u32 0, .int .u32 0, .int .u32 0, .int .u32 0, .int .u32 0, .int .u32 0, .int .u32 0, .int .u32 0, .int .u32 0, .int .u32 0, .int .u32 0, .int .u32 0, .int .u32 0, .int .u32 0, .int .u32 0, .int .u32 0, .int .u32 0, .int .u32 0, .int .u32 0, .int .u32 0, .int .u32 0, .int .u32 0, .int .u32 0, .int .u32 0, .int .u32 0, .int .u32 0, .int .u32 0, .int .u32 0, .int .u32 0, .int .u32 0, .int .u32 0, .int .u32 0, .int .u32 0, .int .u32 0, .int .u32 0, .int .u32 0, .int .u32 0, .int .u32 0, .int .u32 0, .int .u32 0, .int .u32 0, .int .u32 0, .int .u32 0, .int .u32 0, .int .u32 0, .int .u32 0, .int .u32 0, .int .u32 0, .int .u32 0, .int .u32 0, .int .u32 0, .int .u32 0] := by subst hW; exact (blk_top _ _ _ _ (by simp)).alloc _
  have B2 : Blk W0 (w.heap.size + 2) 59 (ints .u32 (packTo b 0)) := by subst hW; rw [packTo_zero, ← zero64]; exact blk_top _ _ _ _ (by simp)
  have QB : Below w.heap.size w W0 := by subst hW; exact (((Below.refl _ _).alloc (Nat.le_refl _) _).alloc (by simp) _).alloc (by simp; omega) _
  clear hW B0
  go_loopg [10] 64 (fun k s10 wr => ∃ i : Nat, i + k = 64 ∧ s10 = .int .i64 (i : Int) ∧ Below w.heap.size w wr ∧ Blk wr (w.heap.size + 1) 59 #[.int .u32 0, .int .u32 0, .int .u32 0, .int .u32 0, .int .u32 0, .int .u32 0, .int .u32 0, .int .u32 0, .int .u32 0, .int .u32 0, .int .u32 0, .int .u32 0, .int .u32 0, .int .u32 0, .int .u32 0, .int .u32 0, .int .u32 0, .int .u32 0, .int .u32 0, .int .u32 0, .int .u32 0, .int .u32 0, .int .u32 0, .int .u32 0, .int .u32 0, .int .u32 0, .int .u32 0, .int .u32 0, .int .u32 0, .int .u32 0, .int .u32 0, .int .u32 0, .int .u32 0, .int .u32 0, .int .u32 0, .int .u32 0, .int .u32 0, .int .u32 0, .int .u32 0, .int .u32 0, .int .u32 0, .int .u32 0, .int .u32 0, .int .u32 0, .int .u32 0, .int .u32 0, .int .u32 0, .int .u32 0, .int .u32 0, .int .u32 0, .int .u32 0, .int .u32 0, .int .u32 0, .int .u32 0, .int .u32 0, .int .u32 0, .int .u32 0, .int .u32 0, .int .u32 0, .int .u32 0, .int .u32 0, .int .u32 0, .int .u32 0, .int .u32 0] ∧ Blk wr (w.heap.size + 2) 59 (ints .u32 (packTo b i)))
  case atStart => exact ⟨0, by omega, rfl, QB, B1, B2⟩
  case round =>
    obtain ⟨i, hik, rfl, HB, A1, A2⟩ := hrel
    clear QB B1 B2
    by_cases hk0 : gk = 0
    · obtain rfl : i = 64 := by omega
      clear hik hk0
      obtain ⟨P0, hP0⟩ : ∃ P0, P0 = packTo b 64 := ⟨_, rfl⟩
      rw [← hP0] at A2
      have SP0 : Kept (Small P0) := ⟨by rw [hP0]; exact packTo_small b KB.out 64⟩
      have LP0 : Kept (P0.length = 64) := ⟨by rw [hP0]; exact packTo_len b 64⟩
      have EP : Kept (extTo P0 48 = L) := ⟨by rw [ERL.out, hP0]; rfl⟩
      clear hP0
      rw [← extTo_zero P0] at A2
      go_wp2_with fail
      go_loopg [6] 48 (fun k s6 wr => ∃ n : Nat, n + k = 48 ∧ s6 = .int .i64 ((16 + n : Nat) : Int) ∧ Below w.heap.size w wr ∧ Blk wr (w.heap.size + 1) 59 #[.int .u32 0, .int .u32 0, .int .u32 0, .int .u32 0, .int .u32 0, .int .u32 0, .int .u32 0, .int .u32 0, .int .u32 0, .int .u32 0, .int .u32 0, .int .u32 0, .int .u32 0, .int .u32 0, .int .u32 0, .int .u32 0, .int .u32 0, .int .u32 0, .int .u32 0, .int .u32 0, .int .u32 0, .int .u32 0, .int .u32 0, .int .u32 0, .int .u32 0, .int .u32 0, .int .u32 0, .int .u32 0, .int .u32 0, .int .u32 0, .int .u32 0, .int .u32 0, .int .u32 0, .int .u32 0, .int .u32 0, .int .u32 0, .int .u32 0, .int .u32 0, .int .u32 0, .int .u32 0, .int .u32 0, .int .u32 0, .int .u32 0, .int .u32 0, .int .u32 0, .int .u32 0, .int .u32 0, .int .u32 0, .int .u32 0, .int .u32 0, .int .u32 0, .int .u32 0, .int .u32 0, .int .u32 0, .int .u32 0, .int .u32 0, .int .u32 0, .int .u32 0, .int .u32 0, .int .u32 0, .int .u32 0, .int .u32 0, .int .u32 0, .int .u32 0] ∧ Blk wr (w.heap.size + 2) 59 (ints .u32 (extTo P0 n)))
      case atStart => exact ⟨0, by omega, rfl, HB, A1, A2⟩
      case round =>
        obtain ⟨n, hnk, rfl, HB, A1, A2⟩ := hrel
        by_cases hk1 : gk = 0
        · obtain rfl : n = 48 := by omega
          rw [EP.out] at A2
          have HL : Kept (L.length = 64) := ⟨by rw [← EP.out, extTo_len, LP0.out]⟩
          go_wp2_with (first | (refine wl_load rfl 59 (.tmp 3) rfl _ rfl (ints .u32 L) 64 45 Tryd.underlying59 (by rw [ints_size, HL.out]; exact w64_info) A2 ?_) | (refine wl_store rfl 59 (.tmp 2) (.tmp 63) rfl _ (ints .u32 L) rfl rfl _ A1 (by rw [ints_size, HL.out]; exact w64_info) (by rw [ints_size, HL.out]; rfl) (ints_one _ _) ?_))
          intro w3 A3 P3
          go_wp2
          exact bodyPost_ret (v := .agg (ints .u32 L)) (results_cell_row Tryd.results16 _ _ _ 59 (ints .u32 L) (0, 0) _ rfl A3 Tryd.underlying59 rfl (by rw [ints_size, HL.out]; exact w64_info)) rfl ⟨rfl, HB.trans (P3.below (by omega))⟩
        · obtain ⟨i, hi⟩ : ∃ i, i = 16 + n := ⟨_, rfl⟩
          rw [← hi]
          have hi16 : 16 ≤ i := by omega
          have hi64 : i < 64 := by omega
          have hlt : ((i : Int) < 64) := by omega
          have i2 : i - 2 < 64 := by omega
          have i15 : i - 15 < 64 := by omega
          obtain ⟨P, hP⟩ : ∃ P, P = extTo P0 n := ⟨_, rfl⟩
          rw [← hP] at A2
          have LP : Kept (P.length = 64) := ⟨by rw [hP, extTo_len, LP0.out]⟩
          have SP : Kept (Small P) := ⟨by rw [hP]; exact extTo_small P0 SP0.out n⟩
          obtain ⟨near, hnear⟩ : ∃ x, P[i - 2]? = some x := ⟨_, List.getElem?_eq_getElem (by have := LP.out; omega)⟩
          obtain ⟨p7, hp7⟩ : ∃ x, P[i - 7]? = some x := ⟨_, List.getElem?_eq_getElem (by have := LP.out; omega)⟩
          obtain ⟨far, hfar⟩ : ∃ x, P[i - 15]? = some x := ⟨_, List.getElem?_eq_getElem (by have := LP.out; omega)⟩
          obtain ⟨p16, hp16⟩ : ∃ x, P[i - 16]? = some x := ⟨_, List.getElem?_eq_getElem (by have := LP.out; omega)⟩
          obtain ⟨t1, ht1⟩ : ∃ x, x = turnN near [17, 19] := ⟨_, rfl⟩
          obtain ⟨t2, ht2⟩ : ∃ x, x = turnN far [7, 18] := ⟨_, rfl⟩
          obtain ⟨n10, hn10⟩ : ∃ x, x = near / 2 ^ 10 := ⟨_, rfl⟩
          obtain ⟨f3, hf3⟩ : ∃ x, x = far / 2 ^ 3 := ⟨_, rfl⟩
          obtain ⟨y1, hy1⟩ : ∃ x, x = t1 ^^^ n10 := ⟨_, rfl⟩
          obtain ⟨y2, hy2⟩ : ∃ x, x = (y1 + p7) % 4294967296 := ⟨_, rfl⟩
          obtain ⟨y3, hy3⟩ : ∃ x, x = t2 ^^^ f3 := ⟨_, rfl⟩
          obtain ⟨y4, hy4⟩ : ∃ x, x = (y2 + y3) % 4294967296 := ⟨_, rfl⟩
          obtain ⟨z, hz⟩ : ∃ x, x = (y4 + p16) % 4294967296 := ⟨_, rfl⟩
          have lnear := SP.out _ _ hnear
          have lfar := SP.out _ _ hfar
          have KN : Kept (P.set i z = extTo P0 (n + 1)) := ⟨by
            rw [extTo_succ, ← hP, ← hi]
            unfold extAt extN
            simp only [List.getD_eq_getElem?_getD, hnear, hp7, hfar, hp16, Option.getD_some]
            rw [hz, hy4, hy3, hy2, hy1, hn10, hf3, ht1, ht2]⟩
          have C1 : Kept (∀ (w' : World) (vy : Value), SliceAt 3 .i64 [17, 19] 2 vy w' → Calls Tryd.prog 18 #[.int .u32 (near : Int), vy] w' fun e w2 => e = .returned (.int .u32 (t1 : Int)) ∧ Below w'.heap.size w' w2) := ⟨fun w' vy hp => turned_at near [17, 19] 2 lnear amounts3 (by decide) w' vy hp t1 ht1⟩
          have C2 : Kept (∀ (w' : World) (vy : Value), SliceAt 3 .i64 [7, 18] 2 vy w' → Calls Tryd.prog 18 #[.int .u32 (far : Int), vy] w' fun e w2 => e = .returned (.int .u32 (t2 : Int)) ∧ Below w'.heap.size w' w2) := ⟨fun w' vy hp => turned_at far [7, 18] 2 lfar amounts4 (by decide) w' vy hp t2 ht2⟩
          have Lt1 : Kept (t1 < 4294967296) := ⟨by rw [ht1]; exact turnN_lt _ _ lnear⟩
          have Lt2 : Kept (t2 < 4294967296) := ⟨by rw [ht2]; exact turnN_lt _ _ lfar⟩
          have Ln10 : Kept (n10 < 4294967296) := ⟨by rw [hn10]; exact Nat.lt_of_le_of_lt (Nat.div_le_self _ _) lnear⟩
          have Lf3 : Kept (f3 < 4294967296) := ⟨by rw [hf3]; exact Nat.lt_of_le_of_lt (Nat.div_le_self _ _) lfar⟩
          have E43 : Kept _ := ⟨hn10⟩
          have E44 : Kept _ := ⟨hy1⟩
          have E49 : Kept _ := ⟨hy2⟩
          have E54 : Kept _ := ⟨hf3⟩
          have E55 : Kept _ := ⟨hy3⟩
          have E56 : Kept _ := ⟨hy4⟩
          have E61 : Kept _ := ⟨hz⟩
          have hnk' : 16 + (n + 1) = i + 1 := by omega
          clear hP ht1 ht2 hn10 hf3 hy1 hy2 hy3 hy4 hz lnear lfar hi
          go_wp2_with fail
          refine wp_region_quiet (C := fun w' => Below wr.heap.size wr w') (by kernel_rfl) (by kernel_rfl) (Below.drew (Below.refl _ _)) ?_
          refine q_val (by kernel_rfl) (.int .i64 (i : Int)) (fun w' => by kernel_rfl) ?_
          simp only [Act.put, List.setIfInBounds_toArray, List.set_cons_succ, List.set_cons_zero]
          refine q_val (by kernel_rfl) (.int .i64 ((i - 2 : Nat) : Int)) (fun w' => run_subI 2 rfl (by kernel_rfl) (by omega) (by omega) w') ?_
          simp only [Act.put, List.setIfInBounds_toArray, List.set_cons_succ, List.set_cons_zero]
          refine q_val (by kernel_rfl) (.pointer (some ⟨w.heap.size + 1 + 1, i - 2, none⟩)) (fun w' => run_idx rfl (by kernel_rfl) (by kernel_rfl) Tryd.underlying59 i2 sz_u32 w') ?_
          simp only [Act.put, List.setIfInBounds_toArray, List.set_cons_succ, List.set_cons_zero]
          refine q_elem (by kernel_rfl) 45 ag_u32 (.tmp 32) rfl (w.heap.size + 1 + 1) (i - 2) (by kernel_rfl) 59 (ints .u32 P) (.int .u32 (near : Int)) (fun w' hb => Blk.under A2 hb) (ints_get hnear) ?_
          simp only [Act.put, List.setIfInBounds_toArray, List.set_cons_succ, List.set_cons_zero]
          refine q_val (by kernel_rfl) (.int .i64 (i : Int)) (fun w' => by kernel_rfl) ?_
          simp only [Act.put, List.setIfInBounds_toArray, List.set_cons_succ, List.set_cons_zero]
          refine q_val (by kernel_rfl) (.int .i64 ((i - 15 : Nat) : Int)) (fun w' => run_subI 15 rfl (by kernel_rfl) (by omega) (by omega) w') ?_
          simp only [Act.put, List.setIfInBounds_toArray, List.set_cons_succ, List.set_cons_zero]
          refine q_val (by kernel_rfl) (.pointer (some ⟨w.heap.size + 1 + 1, i - 15, none⟩)) (fun w' => run_idx rfl (by kernel_rfl) (by kernel_rfl) Tryd.underlying59 i15 sz_u32 w') ?_
          simp only [Act.put, List.setIfInBounds_toArray, List.set_cons_succ, List.set_cons_zero]
          refine q_elem (by kernel_rfl) 45 ag_u32 (.tmp 36) rfl (w.heap.size + 1 + 1) (i - 15) (by kernel_rfl) 59 (ints .u32 P) (.int .u32 (far : Int)) (fun w' hb => Blk.under A2 hb) (ints_get hfar) ?_
          simp only [Act.put, List.setIfInBounds_toArray, List.set_cons_succ, List.set_cons_zero]
          refine q_val (by kernel_rfl) (.int .u32 (near : Int)) (fun w' => by kernel_rfl) ?_
          simp only [Act.put, List.setIfInBounds_toArray, List.set_cons_succ, List.set_cons_zero]
          refine q_val (by kernel_rfl) (.int .u32 (far : Int)) (fun w' => by kernel_rfl) ?_
          simp only [Act.put, List.setIfInBounds_toArray, List.set_cons_succ, List.set_cons_zero]
          refine wpQuiet_nil ?_
          intro w3 hb3
          have A1' := A1.under hb3
          have A2' := A2.under hb3
          have HB' := HB.trans (hb3.mono HB.size)
          clear A1 A2 HB hb3
          have A1 := A1'
          have A2 := A2'
          have HB := HB'
          clear A1' A2' HB'
          go_wp2_with fail
          refine region_list w3 25 [(38, .int .i64 (i : Int)), (39, .int .u32 (near : Int)), (41, .int .u32 (t1 : Int)), (42, .int .u32 (near : Int)), (43, .int .u32 (n10 : Int)), (44, .int .u32 (y1 : Int)), (45, .int .i64 (i : Int)), (46, .int .i64 ((i - 7 : Nat) : Int)), (47, .pointer (some ⟨w.heap.size + 1 + 1, i - 7, none⟩)), (48, .int .u32 (p7 : Int)), (49, .int .u32 (y2 : Int)), (50, .int .u32 (far : Int)), (52, .int .u32 (t2 : Int)), (53, .int .u32 (far : Int)), (54, .int .u32 (f3 : Int)), (55, .int .u32 (y3 : Int)), (56, .int .u32 (y4 : Int)), (57, .int .i64 (i : Int)), (58, .int .i64 ((i - 16 : Nat) : Int)), (59, .pointer (some ⟨w.heap.size + 1 + 1, i - 16, none⟩)), (60, .int .u32 (p16 : Int)), (61, .int .u32 (z : Int)), (62, .pointer (some ⟨w.heap.size + 1 + 1, i, none⟩))] [(40, SliceAt 3 .i64 [17, 19] 2), (51, SliceAt 3 .i64 [7, 18] 2)] rfl (by kernel_rfl) (by kernel_rfl) (by kernel_rfl) (by kernel_rfl) (by kernel_rfl) (by kernel_rfl) (by kernel_rfl) (by kernel_rfl) ?hst (Below.refl _ _) (fun hA => ⟨rel_val hA (by kernel_rfl) rfl rfl 38 (.int .i64 (i : Int)) rfl rfl (by kernel_rfl) (fun w => by kernel_rfl), rel_val hA (by kernel_rfl) rfl rfl 39 (.int .u32 (near : Int)) rfl rfl (by kernel_rfl) (fun w => by kernel_rfl), rel_new rfl 40 rfl (fun a w => ⟨_, _, by kernel_rfl, rel_spec (SliceAt 3 .i64 [17, 19] 2) rfl ⟨w.heap.size, rfl, blk_new w 3 _⟩, (Below.refl _ _).alloc (Nat.le_refl _) _⟩), rel_call_ds hA rfl 41 18 Tryd.f18 _ 39 40 _ rfl rfl Tryd.func18 (by kernel_rfl) rfl (.int .u32 (near : Int)) (by kernel_rfl) rfl (by kernel_rfl) (SliceAt 3 .i64 [17, 19] 2) (by kernel_rfl) rfl (fun w' vy hb hp => (C1.out w' vy hp).mono fun e w2 hh => ⟨_, hh.1, rel_det hA rfl (by kernel_rfl), hh.2⟩), rel_val hA (by kernel_rfl) rfl rfl 42 (.int .u32 (near : Int)) rfl rfl (by kernel_rfl) (fun w => by kernel_rfl), rel_val hA (by kernel_rfl) rfl rfl 43 (.int .u32 (n10 : Int)) rfl rfl (by kernel_rfl) (fun w => run_shr32 10 rfl (by kernel_rfl) (by decide) E43.out w), rel_val hA (by kernel_rfl) rfl rfl 44 (.int .u32 (y1 : Int)) rfl rfl (by kernel_rfl) (fun w => run_xor32 rfl (by kernel_rfl) (by kernel_rfl) Lt1.out Ln10.out E44.out w), rel_val hA (by kernel_rfl) rfl rfl 45 (.int .i64 (i : Int)) rfl rfl (by kernel_rfl) (fun w => by kernel_rfl), rel_val hA (by kernel_rfl) rfl rfl 46 (.int .i64 ((i - 7 : Nat) : Int)) rfl rfl (by kernel_rfl) (fun w => run_subI 7 rfl (by kernel_rfl) (by omega) (by omega) w), rel_val hA (by kernel_rfl) rfl rfl 47 (.pointer (some ⟨w.heap.size + 1 + 1, i - 7, none⟩)) rfl rfl (by kernel_rfl) (fun w => run_idx rfl (by kernel_rfl) (by kernel_rfl) Tryd.underlying59 (by omega) sz_u32 w), rel_elem hA (by kernel_rfl) rfl rfl 48 (.int .u32 (p7 : Int)) rfl rfl (by kernel_rfl) 45 ag_u32 (.tmp 47) rfl (w.heap.size + 1 + 1) (i - 7) (by kernel_rfl) 59 (ints .u32 P) (fun w' hb => Blk.under A2 hb) (ints_get hp7), rel_val hA (by kernel_rfl) rfl rfl 49 (.int .u32 (y2 : Int)) rfl rfl (by kernel_rfl) (fun w => run_add32 rfl (by kernel_rfl) (by kernel_rfl) E49.out w), rel_val hA (by kernel_rfl) rfl rfl 50 (.int .u32 (far : Int)) rfl rfl (by kernel_rfl) (fun w => by kernel_rfl), rel_new rfl 51 rfl (fun a w => ⟨_, _, by kernel_rfl, rel_spec (SliceAt 3 .i64 [7, 18] 2) rfl ⟨w.heap.size, rfl, blk_new w 3 _⟩, (Below.refl _ _).alloc (Nat.le_refl _) _⟩), rel_call_ds hA rfl 52 18 Tryd.f18 _ 50 51 _ rfl rfl Tryd.func18 (by kernel_rfl) rfl (.int .u32 (far : Int)) (by kernel_rfl) rfl (by kernel_rfl) (SliceAt 3 .i64 [7, 18] 2) (by kernel_rfl) rfl (fun w' vy hb hp => (C2.out w' vy hp).mono fun e w2 hh => ⟨_, hh.1, rel_det hA rfl (by kernel_rfl), hh.2⟩), rel_val hA (by kernel_rfl) rfl rfl 53 (.int .u32 (far : Int)) rfl rfl (by kernel_rfl) (fun w => by kernel_rfl), rel_val hA (by kernel_rfl) rfl rfl 54 (.int .u32 (f3 : Int)) rfl rfl (by kernel_rfl) (fun w => run_shr32 3 rfl (by kernel_rfl) (by decide) E54.out w), rel_val hA (by kernel_rfl) rfl rfl 55 (.int .u32 (y3 : Int)) rfl rfl (by kernel_rfl) (fun w => run_xor32 rfl (by kernel_rfl) (by kernel_rfl) Lt2.out Lf3.out E55.out w), rel_val hA (by kernel_rfl) rfl rfl 56 (.int .u32 (y4 : Int)) rfl rfl (by kernel_rfl) (fun w => run_add32 rfl (by kernel_rfl) (by kernel_rfl) E56.out w), rel_val hA (by kernel_rfl) rfl rfl 57 (.int .i64 (i : Int)) rfl rfl (by kernel_rfl) (fun w => by kernel_rfl), rel_val hA (by kernel_rfl) rfl rfl 58 (.int .i64 ((i - 16 : Nat) : Int)) rfl rfl (by kernel_rfl) (fun w => run_subI 16 rfl (by kernel_rfl) (by omega) (by omega) w), rel_val hA (by kernel_rfl) rfl rfl 59 (.pointer (some ⟨w.heap.size + 1 + 1, i - 16, none⟩)) rfl rfl (by kernel_rfl) (fun w => run_idx rfl (by kernel_rfl) (by kernel_rfl) Tryd.underlying59 (by omega) sz_u32 w), rel_elem hA (by kernel_rfl) rfl rfl 60 (.int .u32 (p16 : Int)) rfl rfl (by kernel_rfl) 45 ag_u32 (.tmp 59) rfl (w.heap.size + 1 + 1) (i - 16) (by kernel_rfl) 59 (ints .u32 P) (fun w' hb => Blk.under A2 hb) (ints_get hp16), rel_val hA (by kernel_rfl) rfl rfl 61 (.int .u32 (z : Int)) rfl rfl (by kernel_rfl) (fun w => run_add32 rfl (by kernel_rfl) (by kernel_rfl) E61.out w), rel_val hA (by kernel_rfl) rfl rfl 62 (.pointer (some ⟨w.heap.size + 1 + 1, i, none⟩)) rfl rfl (by kernel_rfl) (fun w => run_idx rfl (by kernel_rfl) (by kernel_rfl) Tryd.underlying59 (by omega) sz_u32 w), trivial⟩) ?_
          case hst =>
            intro q hq v w1 w2 h1 h2
            simp only [List.mem_cons, List.not_mem_nil, or_false] at hq
            rcases hq with rfl | rfl <;> exact SliceAt.under h1 h2
          intro fv w4 hf hb4
          simp only [putR, List.foldl_cons, List.foldl_nil, List.map_cons, List.map_nil, Act.put, List.setIfInBounds_toArray, List.set_cons_succ, List.set_cons_zero]
          have A1' := A1.under hb4
          have A2' := A2.under hb4
          have HB' := HB.trans (hb4.mono HB.size)
          clear A1 A2 HB hb4 hf C1 C2
          refine wl_setElem rfl 45 sz_u32 (.tmp 62) (.tmp 61) rfl (w.heap.size + 1 + 1) i .u32 (z : Int) (by kernel_rfl) (by kernel_rfl) _ A2' (by rw [ints_size, LP.out]; exact hi64) ?_
          intro w5 A5 P5
          rw [ints_set, KN.out] at A5
          have A15 := P5.blk A1' (by omega)
          have HB5 := HB'.trans (P5.below (by omega))
          clear A1' A2' HB' P5 hnear hp7 hfar hp16 KN
          go_wp2_with fail
          go_roundg (gk - 1)
          case measure => omega
          case rel => exact ⟨n + 1, by omega, by rw [hnk']; simp, HB5, A15, A5⟩
    · have hil : i < 64 := by omega
      have hlt : ((i : Int) < 64) := by omega
      obtain ⟨x, hx⟩ : ∃ x, b[i]? = some x := ⟨_, List.getElem?_eq_getElem (by omega)⟩
      have lx := KB.out i x hx
      obtain ⟨P, hP⟩ : ∃ P, P = packTo b i := ⟨_, rfl⟩
      rw [← hP] at A2
      have LP : Kept (P.length = 64) := ⟨by rw [hP]; exact packTo_len b i⟩
      obtain ⟨y, hy⟩ : ∃ y, P[i / 4]? = some y := ⟨_, List.getElem?_eq_getElem (by have := LP.out; omega)⟩
      have ly : y < 4294967296 := by rw [hP] at hy; exact packTo_small b KB.out i _ _ hy
      obtain ⟨z, hz⟩ : ∃ z, z = (y * 256 % 4294967296) ||| x := ⟨_, rfl⟩
      have ez : bits .or .u32 ((y : Int) * 256 % 4294967296) ((x : Int) % 4294967296) = (z : Int) := by
        rw [show (y : Int) * 256 % 4294967296 = ((y * 256 % 4294967296 : Nat) : Int) from by omega, show (x : Int) % 4294967296 = (x : Int) from by omega, u32_or_nat _ _ (Nat.mod_lt _ (by decide)) (by omega), hz]
      have KN : Kept (P.set (i / 4) z = packTo b (i + 1)) := ⟨by rw [packTo, ← hP, hz]; simp [List.getD_eq_getElem?_getD, hy, hx]⟩
      have l2 : i / 4 < (ints .u32 P).size := by rw [ints_size, LP.out]; omega
      have KX : Kept _ := ⟨lx⟩
      have KY : Kept _ := ⟨ly⟩
      clear hP hz lx ly
      go_wp2_with (first | (refine wl_at (d := 13) rfl rfl (.int .u8 (x : Int)) ?h1 ?_; (case h1 => exact index_run rfl rfl rfl Tryd.underlying48 hil ag_u8 sz_u8 (ints_get hx) _); simp only [Act.put, List.setIfInBounds_toArray, List.set_cons_succ, List.set_cons_zero]) | (refine wl_elem rfl 45 ag_u32 (.tmp 18) rfl (w.heap.size + 2) (i / 4) rfl (ints .u32 P) (.int .u32 (y : Int)) A2 (ints_get hy) ?_) | (refine wl_setElem rfl 45 sz_u32 (.tmp 24) (.tmp 23) rfl (w.heap.size + 1 + 1) (i / 4) .u32 (bits .or .u32 ((y : Int) * 256 % 4294967296) ((x : Int) % 4294967296)) rfl rfl _ A2 l2 ?_) | (refine wl_setElem rfl 45 sz_u32 (.tmp 24) (.tmp 23) rfl (w.heap.size + 1 + 1) (i / 4) .u32 (z : Int) rfl rfl _ A2 l2 ?_))
      try rw [ez]
      intro w4 A4 P4
      rw [ints_set, KN.out] at A4
      have A14 := P4.blk A1 (by omega)
      have HB4 := HB.trans (P4.below (by omega))
      clear A1 A2 HB P4 hx hy KN ez l2
      go_wp2_with fail
      go_roundg (gk - 1)
      case measure => omega
      case rel => exact ⟨i + 1, by omega, by simp, HB4, A14, A4⟩
end Go.Proofs.YtjkdonjcngmjeaaDoor.sh
/-
  What 64 rounds make of a state and a block.
-/
namespace Go.Proofs.YtjkdonjcngmjeaaDoor.sh
open Go Go.RowKit
set_option linter.unusedVariables false
set_option linter.unusedSimpArgs false

theorem list8 (s : List Nat) (h : s.length = 8) : ∃ x0 x1 x2 x3 x4 x5 x6 x7, s = [x0, x1, x2, x3, x4, x5, x6, x7] := by
  match s, h with
  | [x0, x1, x2, x3, x4, x5, x6, x7], _ => exact ⟨x0, x1, x2, x3, x4, x5, x6, x7, rfl⟩
theorem roundL_eq (a b c d e f g h m : Nat) : roundL [a, b, c, d, e, f, g, h] m = [(tN e f g h m + uN a b c) % 4294967296, a, b, c, (d + tN e f g h m) % 4294967296, e, f, g] := by unfold roundL; rfl
theorem roundL_len (s : List Nat) (m : Nat) (h : s.length = 8) : (roundL s m).length = 8 := by
  obtain ⟨x0, x1, x2, x3, x4, x5, x6, x7, rfl⟩ := list8 s h
  rw [roundL_eq]
  simp only [List.length_cons, List.length_nil]
theorem roundL_small (s : List Nat) (m : Nat) (h : s.length = 8) (hs : Small s) : Small (roundL s m) := by
  obtain ⟨x0, x1, x2, x3, x4, x5, x6, x7, rfl⟩ := list8 s h
  intro i x hx
  rw [roundL_eq] at hx
  obtain ⟨p, hp⟩ : ∃ p, p = (tN x4 x5 x6 x7 m + uN x0 x1 x2) % 4294967296 := ⟨_, rfl⟩
  obtain ⟨q, hq⟩ : ∃ q, q = (x3 + tN x4 x5 x6 x7 m) % 4294967296 := ⟨_, rfl⟩
  have lp : p < 4294967296 := by rw [hp]; exact Nat.mod_lt _ (by decide)
  have lq : q < 4294967296 := by rw [hq]; exact Nat.mod_lt _ (by decide)
  rw [← hp, ← hq] at hx
  clear hp hq
  have e0 := hs 0 x0 (by simp)
  have e1 := hs 1 x1 (by simp)
  have e2 := hs 2 x2 (by simp)
  have e4 := hs 4 x4 (by simp)
  have e5 := hs 5 x5 (by simp)
  have e6 := hs 6 x6 (by simp)
  clear hs
  rcases i with _ | _ | _ | _ | _ | _ | _ | _ | i <;> simp at hx <;> omega
theorem round_at (s : List Nat) (m g : Nat) (w : World) (hl : s.length = 8) (hs : Small s) (hm : m < 4294967296) (A0 : Blk w g 47 (ints .u32 s)) :
    Calls Tryd.prog 17 #[.pointer (some ⟨g, 0, none⟩), .int .u32 (m : Int)] w fun e w' => Blk w' g 47 (ints .u32 (roundL s m)) ∧ Grew w w' g ∧ e = .returned (.tuple #[]) := by
  obtain ⟨x0, x1, x2, x3, x4, x5, x6, x7, rfl⟩ := list8 s hl
  exact round_any x0 x1 x2 x3 x4 x5 x6 x7 m g w (hs 0 x0 (by simp)) (hs 1 x1 (by simp)) (hs 2 x2 (by simp)) (hs 4 x4 (by simp)) (hs 5 x5 (by simp)) (hs 6 x6 (by simp)) hm A0

def rootsL : List Nat := [1116352408, 1899447441, 3049323471, 3921009573, 961987163, 1508970993, 2453635748, 2870763221, 3624381080, 310598401, 607225278, 1426881987, 1925078388, 2162078206, 2614888103, 3248222580, 3835390401, 4022224774, 264347078, 604807628, 770255983, 1249150122, 1555081692, 1996064986, 2554220882, 2821834349, 2952996808, 3210313671, 3336571891, 3584528711, 113926993, 338241895, 666307205, 773529912, 1294757372, 1396182291, 1695183700, 1986661051, 2177026350, 2456956037, 2730485921, 2820302411, 3259730800, 3345764771, 3516065817, 3600352804, 4094571909, 275423344, 430227734, 506948616, 659060556, 883997877, 958139571, 1322822218, 1537002063, 1747873779, 1955562222, 2024104815, 2227730452, 2361852424, 2428436474, 2756734187, 3204031479, 3329325298]
theorem rootsL_len : rootsL.length = 64 := by decide
/-- The program's variable holds the constants. -/
def RootsAt (w : World) : Prop := 0 < w.heap.size ∧ ∀ (i x : Nat), rootsL[i]? = some x → w.cell? ⟨0, i, none⟩ = some (.int .u32 (x : Int))
theorem RootsAt.below {w w' : World} {n : Nat} (h : RootsAt w) (hn : 0 < n) (hb : Below n w w') : RootsAt w' := ⟨Nat.lt_of_lt_of_le h.1 hb.size, fun i x hx => by rw [hb.cell hn]; exact h.2 i x hx⟩

/-- A state behind so many rounds. -/
def roundTo (s ws : List Nat) : Nat → List Nat
  | 0 => s
  | n + 1 => roundL (roundTo s ws n) ((rootsL.getD n 0 + ws.getD n 0) % 4294967296)
theorem roundTo_zero (s ws : List Nat) : roundTo s ws 0 = s := rfl
theorem roundTo_succ (s ws : List Nat) (n : Nat) : roundTo s ws (n + 1) = roundL (roundTo s ws n) ((rootsL.getD n 0 + ws.getD n 0) % 4294967296) := rfl
theorem roundTo_len (s ws : List Nat) (h : s.length = 8) : ∀ n, (roundTo s ws n).length = 8
  | 0 => h
  | n + 1 => by rw [roundTo_succ]; exact roundL_len _ _ (roundTo_len s ws h n)
theorem roundTo_small (s ws : List Nat) (h : s.length = 8) (hs : Small s) : ∀ n, Small (roundTo s ws n)
  | 0 => hs
  | n + 1 => by rw [roundTo_succ]; exact roundL_small _ _ (roundTo_len s ws h n) (roundTo_small s ws h hs n)
def mixedL (s b : List Nat) : List Nat := roundTo s (spreadL b) 64
theorem mixedL_len (s b : List Nat) (h : s.length = 8) : (mixedL s b).length = 8 := roundTo_len s _ h 64
theorem spreadL_len (b : List Nat) : (spreadL b).length = 64 := by unfold spreadL; rw [extTo_len, packTo_len]
theorem Grew.roots {w w' : World} {g : Nat} (h : Grew w w' g) (hg : 0 < g) (hr : RootsAt w) : RootsAt w' := hr.below (n := 0 + 1) (by decide) (h.below (by omega) (by have := hr.1; omega))
theorem wl_cell {ops : Array Oper} {rest : List Oper} {o : Oper} {a : Act} {w : World} {Q : Exit → Act → World → Prop} (hgd : o.guard = none) (e : TypeId) (ag : ∀ w, (isAgg e).run Tryd.prog w = .ok false w) (x : Operand) (ho : o.op = .load e x) (A : Addr) (hx : a.eval x = .pointer (some A)) (v : Value)
    (hc : w.cell? A = some v) (h : wpList Tryd.prog ops Q rest (a.put o.dst v) w) : wpList Tryd.prog ops Q (o :: rest) a w :=
  wl_val hgd v (by
    unfold execOp
    simp only [ho, hx, Instr.loadAt, Instr.sureAddr, Sem.run_bind, Sem.run_pure, Result.andThen_ok]
    simp [loadVar, ag, go_sem, hc]) h

set_option maxHeartbeats 1000000 in
theorem mixed_any (s b : List Nat) (w : World) (hs : s.length = 8) (hS : Small s) (hl : b.length = 64) (hb : ∀ (i x : Nat), b[i]? = some x → x < 256) (hr : RootsAt w) :
    Calls Tryd.prog 13 #[.agg (ints .u32 s), .agg (ints .u8 b)] w fun e w' => e = .returned (.agg (ints .u32 (mixedL s b))) ∧ Below w.heap.size w w' := by
  obtain ⟨L, hL⟩ : ∃ L, L = mixedL s b := ⟨_, rfl⟩
  rw [← hL]
  have EL : Kept _ := ⟨hL⟩
  have HL : Kept (L.length = 8) := ⟨by rw [hL]; exact mixedL_len s b hs⟩
  have KS : Kept _ := ⟨hS⟩
  have KB : Kept _ := ⟨hb⟩
  have KR : Kept _ := ⟨hr⟩
  have h0 := hr.1
  clear hL hS hb hr
  go_enter Tryd.func13, Tryd.ntmps13
  go_wp2_with fail
  generalize hW : (((w.alloc (.cells (ints .u32 s) 47)).alloc (.cells (ints .u8 b) 48)).alloc (.cells #[.int .u32 0, .int .u32 0, .int .u32 0, .int .u32 0, .int .u32 0, .int .u32 0, .int .u32 0, .int .u32 0] 47)).alloc (.cells #[.int .u32 0, .int .u32 0, .int .u32 0, .int .u32 0, .int .u32 0, .int .u32 0, .int .u32 0, .int .u32 0] 47) = W0
  have B0 : Blk W0 w.heap.size 47 (ints .u32 s) := by subst hW; exact (((blk_new w _ _).alloc _).alloc _).alloc _
  have B1 : Blk W0 (w.heap.size + 1) 48 (ints .u8 b) := by subst hW; exact ((blk_top _ _ _ _ (by simp)).alloc _).alloc _
  have B2 : Blk W0 (w.heap.size + 2) 47 #[.int .u32 0, .int .u32 0, .int .u32 0, .int .u32 0, .int .u32 0, .int .u32 0, .int .u32 0, .int .u32 0] := by subst hW; exact (blk_top _ _ _ _ (by simp)).alloc _
  have B3 : Blk W0 (w.heap.size + 3) 47 #[.int .u32 0, .int .u32 0, .int .u32 0, .int .u32 0, .int .u32 0, .int .u32 0, .int .u32 0, .int .u32 0] := by subst hW; exact blk_top _ _ _ _ (by simp)
  have QB : Below w.heap.size w W0 := by subst hW; exact ((((Below.refl _ _).alloc (Nat.le_refl _) _).alloc (by simp) _).alloc (by simp; omega) _).alloc (by simp; omega) _
  clear hW
  refine wp_region_quiet_under (C := fun w' => Below W0.heap.size W0 w') 2 rfl (by kernel_rfl) (by kernel_rfl) (by kernel_rfl) (by kernel_rfl) (by kernel_rfl) (Below.drew (Below.refl _ _)) ?_
  dsimp only [List.take_succ_cons, List.take_zero]
  refine q_val (by kernel_rfl) (.slice (some ⟨w.heap.size + 1 + 1 + 1, 0, none⟩) 8 8) (fun w' => by kernel_rfl) ?_
  simp only [Act.put, List.setIfInBounds_toArray, List.set_cons_succ, List.set_cons_zero]
  refine q_val (by kernel_rfl) (.slice (some ⟨w.heap.size, 0, none⟩) 8 8) (fun w' => by kernel_rfl) ?_
  simp only [Act.put, List.setIfInBounds_toArray, List.set_cons_succ, List.set_cons_zero]
  refine wpQuiet_nil ?_
  intro w1 hb1
  have C0 := B0.under hb1
  have C1 := B1.under hb1
  have C2 := B2.under hb1
  have C3 := B3.under hb1
  have QC := QB.trans (hb1.mono QB.size)
  clear B0 B1 B2 B3 QB hb1
  have e8 : (ints .u32 s).toList.length = 8 := by simp [ints, hs]
  refine wl_copy rfl (.tmp 8) (.tmp 9) 58 58 rfl 45 Tryd.underlying58 (by kernel_rfl) (w.heap.size + 1 + 1 + 1) 0 8 8 ⟨w.heap.size, 0, none⟩ 8 8 (by kernel_rfl) (by kernel_rfl) _ C3 (ints .u32 s).toList (by rw [e8]; rfl) ?hsrc (by rw [e8]; decide) ?hone ?_
  case hsrc =>
    intro j v hv
    rw [addr_add, Nat.zero_add]
    exact C0.cell (by simpa using hv)
  case hone =>
    intro v hv
    simp [ints] at hv
    obtain ⟨x, _, rfl⟩ := hv
    rfl
  intro w2 D3 P2
  have es : (splice (#[.int .u32 0, .int .u32 0, .int .u32 0, .int .u32 0, .int .u32 0, .int .u32 0, .int .u32 0, .int .u32 0] : Array Value).toList 0 (ints .u32 s).toList).toArray = ints .u32 s := by
    unfold splice
    rw [List.take_zero, List.nil_append, Nat.zero_add, e8]
    simp
  rw [es] at D3
  have D1 := P2.blk C1 (by omega)
  have D2 := P2.blk C2 (by omega)
  have QD := QC.trans (P2.below (by omega))
  clear C0 C1 C2 C3 QC P2 e8 es
  go_wp2_with (first | (refine wl_load rfl 48 (.tmp 3) rfl _ rfl (ints .u8 b) 64 5 Tryd.underlying48 (by rw [ints_size, hl]; exact b64_info) D1 ?_))
  obtain ⟨ws, hws⟩ : ∃ ws, ws = spreadL b := ⟨_, rfl⟩
  have hc := spread_any b w2 hl KB.out
  rw [← hws] at hc
  have LW : Kept (ws.length = 64) := ⟨by rw [hws]; exact spreadL_len b⟩
  have EM : Kept (L = roundTo s ws 64) := ⟨by rw [EL.out, hws]; rfl⟩
  refine hc.mono ?_
  clear hc hws
  rintro e w3 ⟨rfl, hb3⟩
  have B2 := D2.under hb3
  have B3 := D3.under hb3
  have QB := QD.trans (hb3.mono QD.size)
  rw [← roundTo_zero s ws] at B3
  clear D1 D2 D3 QD hb3
  go_wp2_with fail
  go_loopg [13] 64 (fun k s13 wr => ∃ n : Nat, n + k = 64 ∧ s13 = .int .i64 (n : Int) ∧ Below w.heap.size w wr ∧ Blk wr (w.heap.size + 2) 47 #[.int .u32 0, .int .u32 0, .int .u32 0, .int .u32 0, .int .u32 0, .int .u32 0, .int .u32 0, .int .u32 0] ∧ Blk wr (w.heap.size + 3) 47 (ints .u32 (roundTo s ws n)))
  case atStart => exact ⟨0, by omega, rfl, QB, B2, B3⟩
  case round =>
    obtain ⟨n, hnk, rfl, HB, A2, A3⟩ := hrel
    clear QB B2 B3
    by_cases hk0 : gk = 0
    · obtain rfl : n = 64 := by omega
      rw [← EM.out] at A3
      go_wp2_with (first | (refine wl_load rfl 47 (.tmp 5) rfl _ rfl (ints .u32 L) 8 45 Tryd.underlying47 (by rw [ints_size, HL.out]; exact u32_info) A3 ?_) | (refine wl_store rfl 47 (.tmp 4) (.tmp 24) rfl _ (ints .u32 L) rfl rfl _ A2 (by rw [ints_size, HL.out]; exact u32_info) (by rw [ints_size, HL.out]; rfl) (ints_one _ _) ?_))
      intro w4 A4 P4
      go_wp2
      exact bodyPost_ret (v := .agg (ints .u32 L)) (results_cell_row Tryd.results13 _ _ _ 47 (ints .u32 L) (0, 0) _ rfl A4 Tryd.underlying47 rfl (by rw [ints_size, HL.out]; exact u32_info)) rfl ⟨rfl, HB.trans (P4.below (by omega))⟩
    · have hil : n < 64 := by omega
      have hlt : ((n : Int) < 64) := by omega
      obtain ⟨x, hx⟩ : ∃ x, ws[n]? = some x := ⟨_, List.getElem?_eq_getElem (by have := LW.out; omega)⟩
      obtain ⟨y, hy⟩ : ∃ y, rootsL[n]? = some y := ⟨_, List.getElem?_eq_getElem (by rw [rootsL_len]; exact hil)⟩
      have RC := (KR.out.below h0 HB).2 n y hy
      obtain ⟨m, hm⟩ : ∃ m, m = (y + x) % 4294967296 := ⟨_, rfl⟩
      have em : ((y : Int) + x) % 4294967296 = (m : Int) := by rw [hm]; omega
      have lm : m < 4294967296 := by rw [hm]; exact Nat.mod_lt _ (by decide)
      obtain ⟨P, hP⟩ : ∃ P, P = roundTo s ws n := ⟨_, rfl⟩
      have KN : Kept (roundL P m = roundTo s ws (n + 1)) := ⟨by rw [roundTo_succ, ← hP, hm]; simp [List.getD_eq_getElem?_getD, hx, hy]⟩
      have LP : Kept (P.length = 8) := ⟨by rw [hP]; exact roundTo_len s ws hs n⟩
      have SP : Kept (Small P) := ⟨by rw [hP]; exact roundTo_small s ws hs KS.out n⟩
      rw [← hP] at A3
      have KM : Kept _ := ⟨lm⟩
      clear hP hm lm
      go_wp2_with (first | (refine wl_at (d := 16) rfl rfl (.int .u32 (x : Int)) ?h1 ?_; (case h1 => exact index_run rfl rfl rfl Tryd.underlying59 hil ag_u32 sz_u32 (ints_get hx) _); simp only [Act.put, List.setIfInBounds_toArray, List.set_cons_succ, List.set_cons_zero]) | (refine wl_cell rfl 45 ag_u32 (.tmp 18) rfl ⟨0, n, none⟩ rfl (.int .u32 (y : Int)) RC ?_))
      try rw [em]
      refine (round_at P m _ wr LP.out SP.out KM.out A3).mono ?_
      rintro e w4 ⟨A4, G4, rfl⟩
      rw [KN.out] at A4
      have A24 := G4.blk A2 (by omega)
      have HB4 := HB.trans (G4.below (B := w.heap.size) (by omega) HB.size)
      clear A2 A3 HB G4 RC hx hy em KN
      go_wp2_with fail
      go_roundg (gk - 1)
      case measure => omega
      case rel => exact ⟨n + 1, by omega, by simp, HB4, A24, A4⟩
end Go.Proofs.YtjkdonjcngmjeaaDoor.sh
