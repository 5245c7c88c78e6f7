/-
  What comes behind so many bytes.
-/
import Derived.Test.YthnkipicehppmaaDoorSW
import Derived.Laws.MakeOwn
namespace Go.Proofs.YthnkipicehppmaaDoor.sh
open Go Go.RowKit
set_option linter.unusedVariables false
set_option linter.unusedSimpArgs false

theorem made_zero (n : Nat) : madeCells (Value.int .u8 0).cells n = ints .u8 (List.replicate n 0) := by
  apply Array.ext_getElem?
  intro i
  by_cases h : i < n
  · simp [madeCells, ints, Value.cells, h, Nat.mod_one]
  · rw [Array.getElem?_eq_none (by rw [size_madeCells]; omega), Array.getElem?_eq_none (by rw [ints_size, List.length_replicate]; omega)]
theorem info_u8 : (Tryd.prog.info? 5).map (fun i => (i.zero, i.size, i.bytes)) = some (some (.int .u8 0), 1, 1) := by kernel_rfl
theorem run_make8 (c : Nat) (hc : c < 1000000) (k : IntKind) (w : World) : (Instr.makeSlice 22 (.int k (c : Int)) (.int k (c : Int))).run Tryd.prog w = .ok (.slice (some ⟨w.heap.size, 0, none⟩) c c) (w.alloc (.cells (ints .u8 (List.replicate c 0)) 5)) := by
  have hi := info_u8
  cases hq : Tryd.prog.info? 5 with
  | none => rw [hq] at hi; cases hi
  | some i =>
    rw [hq] at hi
    simp only [Option.map_some, Option.some.injEq, Prod.mk.injEq] at hi
    obtain ⟨h1, h2, h3⟩ := hi
    have h := run_make (P := Tryd.prog) w 22 5 i (.int .u8 0) Tryd.underlying22 hq h1 k k (c : Int) (c : Int) (by omega) (Int.le_refl _) (by rw [h3]; omega) (by omega)
    rw [h2, Nat.mul_one, Int.toNat_natCast, made_zero] at h
    exact h
theorem wl_make {ops : Array Oper} {rest : List Oper} {o : Oper} {a : Act} {w : World} {Q : Exit → Act → World → Prop} (hgd : o.guard = none) (x : Operand) (ho : o.op = .makeSlice 22 x x) (k : IntKind) (c : Nat) (hx : a.eval x = .int k (c : Int)) (hc : c < 1000000)
    (h : wpList Tryd.prog ops Q rest (a.put o.dst (.slice (some ⟨w.heap.size, 0, none⟩) c c)) (w.alloc (.cells (ints .u8 (List.replicate c 0)) 5))) : wpList Tryd.prog ops Q (o :: rest) a w :=
  wpList_plain hgd fun K hK => by
    have hrun : (execOp a.eval o).run Tryd.prog w = .ok (.value (.slice (some ⟨w.heap.size, 0, none⟩) c c)) (w.alloc (.cells (ints .u8 (List.replicate c 0)) 5)) := by
      unfold execOp
      simp only [ho, hx]
      simp [run_make8 c hc k w]
    unfold Oper.wp
    rw [hrun]
    exact hK _ _ h

def zerosN (n : Nat) : Nat := (64 - (1 + n + 8) % 64) % 64
/-- What comes behind n bytes, so many bytes of their number laid. -/
def fillTo (n : Nat) : Nat → List Nat
  | 0 => (List.replicate (1 + zerosN n + 8) 0).set 0 128
  | i + 1 => (fillTo n i).set (1 + zerosN n + 8 - 1 - i) (n * 8 % 18446744073709551616 / 2 ^ (8 * i) % 256)
theorem fillTo_zero (n : Nat) : fillTo n 0 = (List.replicate (1 + zerosN n + 8) 0).set 0 128 := rfl
theorem fillTo_succ (n i : Nat) : fillTo n (i + 1) = (fillTo n i).set (1 + zerosN n + 8 - 1 - i) (n * 8 % 18446744073709551616 / 2 ^ (8 * i) % 256) := rfl
theorem fillTo_len (n : Nat) : ∀ i, (fillTo n i).length = 1 + zerosN n + 8
  | 0 => by rw [fillTo_zero, List.length_set, List.length_replicate]
  | i + 1 => by rw [fillTo_succ, List.length_set]; exact fillTo_len n i
theorem Bytes.set {l : List Nat} (h : Bytes l) (i v : Nat) (hv : v < 256) : Bytes (l.set i v) := by
  intro j x hx
  by_cases hij : i = j
  · subst hij
    rw [List.getElem?_set_self'] at hx
    cases hq : l[i]? with
    | none => simp [hq] at hx
    | some y => simp [hq] at hx; omega
  · rw [List.getElem?_set_ne hij] at hx
    exact h j x hx
theorem fillTo_bytes (n : Nat) : ∀ i, Bytes (fillTo n i)
  | 0 => by rw [fillTo_zero]; exact (bytes_zero _).set _ _ (by decide)
  | i + 1 => by rw [fillTo_succ]; exact (fillTo_bytes n i).set _ _ (Nat.mod_lt _ (by decide))
def fillL (n : Nat) : List Nat := fillTo n 8

set_option maxHeartbeats 1000000 in
theorem filling_any (n : Nat) (w : World) (hn : n < 4611686018427387904) :
    Calls Tryd.prog 38 #[.int .u64 (n : Int)] w fun e w' => ∃ v, e = .returned v ∧ SliceAt 5 .u8 (fillL n) (1 + zerosN n + 8) v w' ∧ Below w.heap.size w w' := by
  obtain ⟨z, hz⟩ : ∃ z, z = zerosN n := ⟨_, rfl⟩
  obtain ⟨L, hL⟩ : ∃ L, L = fillL n := ⟨_, rfl⟩
  rw [← hz, ← hL]
  have EL : Kept _ := ⟨hL⟩
  have EZ : Kept _ := ⟨hz⟩
  have hz64 : z < 64 := by rw [hz]; exact Nat.mod_lt _ (by decide)
  have ez : ((64 : Int) - (1 + (n : Int) + 8) % 64) % 64 = (z : Int) := by rw [hz]; unfold zerosN; omega
  obtain ⟨c, hc⟩ : ∃ c, c = 1 + z + 8 := ⟨_, rfl⟩
  have ec : (1 + (z : Int) + 8) = (c : Int) := by rw [hc]; omega
  have c9 : 9 ≤ c := by omega
  have cm : c < 1000000 := by omega
  have EC : Kept _ := ⟨hc⟩
  rw [← hc]
  have B0 : Blk (w.alloc (.cells (ints .u8 (List.replicate c 0)) 5)) w.heap.size 5 (ints .u8 (List.replicate c 0)) := blk_new w _ _
  have l0 : 0 < (ints .u8 (List.replicate c 0)).size := by rw [ints_size, List.length_replicate]; omega
  clear hL hz hc
  go_enter Tryd.func38, Tryd.ntmps38
  go_wp2_with (first | (refine wl_at (d := 11) rfl rfl (.int .u64 (z : Int)) ?h1 ?_; (case h1 => simp [execOp, Act.eval, go_sem, IntKind.wrap_u64]; omega); simp only [Act.put, List.setIfInBounds_toArray, List.set_cons_succ, List.set_cons_zero]) | (refine wl_at (d := 14) rfl rfl (.int .u64 (c : Int)) ?h2 ?_; (case h2 => simp [execOp, Act.eval, go_sem, IntKind.wrap_u64]; omega); simp only [Act.put, List.setIfInBounds_toArray, List.set_cons_succ, List.set_cons_zero]) | (refine wl_make rfl (.tmp 14) rfl .u64 c rfl cm ?_) | (refine wl_setElem rfl 5 sz_u8 (.tmp 17) (.const (.int .u8 128)) rfl w.heap.size 0 .u8 ((128 : Nat) : Int) rfl rfl _ B0 l0 ?_))
  intro w1 A1 P1
  have e128 := ints_set .u8 (List.replicate c 0) 0 128
  rw [show ((128 : Nat) : Int) = 128 from rfl] at e128
  rw [e128] at A1
  clear e128
  have A1 : Blk w1 w.heap.size 5 (ints .u8 (fillTo n 0)) := by rw [fillTo_zero, ← EZ.out, ← EC.out]; exact A1
  have Q1 : Below w.heap.size w w1 := ((Below.refl _ _).alloc (Nat.le_refl _) _).trans (P1.below (Nat.le_refl _))
  clear B0 P1 l0
  go_wp2_with fail
  go_loopg [18] 8 (fun k s18 wr => ∃ i : Nat, i + k = 8 ∧ s18 = .int .i64 (i : Int) ∧ Below w.heap.size w wr ∧ Blk wr w.heap.size 5 (ints .u8 (fillTo n i)))
  case atStart => exact ⟨0, by omega, rfl, Q1, A1⟩
  case round =>
    obtain ⟨i, hik, rfl, HB, A0⟩ := hrel
    clear A1 Q1
    by_cases hk0 : gk = 0
    · obtain rfl : i = 8 := by omega
      go_wp2_with fail
      go_ret
      refine ⟨_, rfl, ⟨w.heap.size, ?_, ?_⟩, HB⟩
      · rw [EL.out]
        unfold fillL
        rw [fillTo_len, ← EZ.out, ← EC.out]
        rfl
      · rw [EL.out]; exact A0
    · have hil : i < 8 := by omega
      have hlt : ((i : Int) < 8) := by omega
      obtain ⟨P, hP⟩ : ∃ P, P = fillTo n i := ⟨_, rfl⟩
      rw [← hP] at A0
      have l2 : c - 1 - i < (ints .u8 P).size := by rw [ints_size, hP, fillTo_len, ← EZ.out, ← EC.out]; omega
      obtain ⟨y, hy⟩ : ∃ y, y = n * 8 % 18446744073709551616 / 2 ^ (8 * i) % 256 := ⟨_, rfl⟩
      have KN : Kept (P.set (c - 1 - i) y = fillTo n (i + 1)) := ⟨by rw [fillTo_succ, ← hP, hy, ← EZ.out, ← EC.out]⟩
      have KY : Kept _ := ⟨hy⟩
      have c26 : ((c : Int) - 1 - (i : Int)) = ((c - 1 - i : Nat) : Int) := by omega
      clear hP hy
      go_wp2_with (first | (refine wl_at (d := 26) rfl rfl (.int .i64 ((c - 1 - i : Nat) : Int)) ?h3 ?_; (case h3 => simp [execOp, Act.eval, go_sem, IntKind.wrap_i64, wrap64]; omega); simp only [Act.put, List.setIfInBounds_toArray, List.set_cons_succ, List.set_cons_zero]) | (refine wl_setElem rfl 5 sz_u8 (.tmp 33) (.tmp 32) rfl w.heap.size (c - 1 - i) .u8 (IntKind.u64.wrap ((n : Int) * 8) / 2 ^ (8 * i) % 256) rfl rfl _ A0 l2 ?_))
      have ey : IntKind.u64.wrap ((n : Int) * 8) / 2 ^ (8 * i) % 256 = (y : Int) := by
        rw [IntKind.wrap_u64, KY.out, Int.natCast_emod, Int.natCast_ediv, Int.natCast_emod, Int.natCast_mul, Int.natCast_pow]
        rfl
      rw [ey]
      intro w4 A4 P4
      rw [ints_set, KN.out] at A4
      have HB4 := HB.trans (P4.below (Nat.le_refl _))
      clear A0 HB P4 KN ey l2 c26
      go_wp2_with fail
      go_roundg (gk - 1)
      case measure => omega
      case rel => exact ⟨i + 1, by omega, by simp, HB4, A4⟩
end Go.Proofs.YthnkipicehppmaaDoor.sh
