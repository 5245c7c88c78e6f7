/-
  Joined texts: UB UC UD UE UF UG.
-/
import Derived.Test.YthnkipicehppmaaDoorUA
/-
  A key filled up to 64 bytes, and changed by a byte: as lists, and package mac's two calls.
-/
namespace Go.Proofs.YthnkipicehppmaaDoor.sh
open Go Go.RowKit
set_option linter.unusedVariables false
set_option linter.unusedSimpArgs false

/-- A key's 64 bytes. -/
def padL (k : List Nat) : List Nat := if 64 < k.length then sumL k ++ List.replicate 32 0 else k ++ List.replicate (64 - k.length) 0
theorem padL_len (k : List Nat) : (padL k).length = 64 := by
  unfold padL
  split
  · rw [List.length_append, sumL_len, List.length_replicate]
  · rw [List.length_append, List.length_replicate]; omega
theorem padL_bytes {k : List Nat} (h : Bytes k) : Bytes (padL k) := by
  unfold padL
  split
  · exact (sumL_bytes k).append (bytes_zero _)
  · exact h.append (bytes_zero _)
def xorL (b : Nat) (l : List Nat) : List Nat := l.map (· ^^^ b)
theorem xorL_len (b : Nat) (l : List Nat) : (xorL b l).length = l.length := by simp [xorL]
theorem xor_lt8 {m n : Nat} (h : m < 256) (h' : n < 256) : m ^^^ n < 256 := Nat.xor_lt_two_pow (n := 8) h h'
theorem xorL_bytes {b : Nat} {l : List Nat} (h : Bytes l) (hb : b < 256) : Bytes (xorL b l) := fun i x hx => by
  unfold xorL at hx
  rw [List.getElem?_map] at hx
  obtain ⟨y, hy, rfl⟩ := Option.map_eq_some_iff.1 hx
  exact xor_lt8 (h i y hy) hb
/-- HMAC of a key and bytes. -/
def macL (k b : List Nat) : List Nat := sumL (xorL 92 (padL k) ++ sumL (xorL 54 (padL k) ++ b))
theorem macL_len (k b : List Nat) : (macL k b).length = 32 := sumL_len _
theorem macL_bytes (k b : List Nat) : Bytes (macL k b) := sumL_bytes _
theorem splice_pad (cs : List Nat) (h : cs.length ≤ 64) : splice (List.replicate 64 0) 0 cs = cs ++ List.replicate (64 - cs.length) 0 := by
  unfold splice
  rw [List.take_zero, List.nil_append, List.drop_replicate, Nat.zero_add]
theorem arr_bytes {w : World} {g n : Nat} {t : TypeId} {l : List Nat} (h : Blk w g t (ints .u8 l)) (hn : l.length = n) : BytesV (.slice (some ⟨g, 0, none⟩) n n) w l := by
  subst hn
  exact bytesV_slice (t := t) ⟨g, rfl, h⟩ (Nat.le_refl _)
theorem t64_info : (Tryd.prog.info? 50).map (·.size) = some 64 := by kernel_rfl

theorem arr_all_run {o : Oper} {a : Act} {x : Operand} {g off n : Nat} {t e : TypeId} (ho : o.op = .slice t x none none none) (hx : a.eval x = .pointer (some ⟨g, off, none⟩)) (ht : Tryd.prog.underlying t = some (.array n e)) (sz : ∀ w, (sizeOf e).run Tryd.prog w = .ok 1 w) (hn : 0 < n) (w : World) :
    (execOp a.eval o).run Tryd.prog w = .ok (.value (.slice (some ⟨g, off, none⟩) n n)) w := by
  unfold execOp
  simp only [ho, hx, Option.map_none, Instr.sliceAt, Instr.slice, Instr.sliceBounds, Sem.run_bind, run_underlying ht, Result.andThen_ok]
  simp [Instr.sliceBound, asIntOf, sz, go_sem]
  try omega

set_option maxRecDepth 100000 in
set_option maxHeartbeats 2000000 in
theorem mfilled_any (bs : List Nat) (v : Value) (w : World) (hy : Bytes bs) (hn : bs.length < 1000000000) (hr : RootsAt w) (hv : BytesV v w bs) :
    Calls Tryd.prog 32 #[v] w fun e w' => e = .returned (.agg (ints .u8 (padL bs))) ∧ Below w.heap.size w w' := by
  have KV : Kept _ := ⟨hv⟩
  have KY : Kept _ := ⟨hy⟩
  have KR : Kept _ := ⟨hr⟩
  have KN : Kept _ := ⟨hn⟩
  obtain ⟨p, c, rfl, _, _⟩ := hv
  obtain ⟨n, hn0⟩ : ∃ n, n = bs.length := ⟨_, rfl⟩
  have EN : Kept _ := ⟨hn0⟩
  rw [← hn0] at KV hn ⊢
  obtain ⟨L, hL⟩ : ∃ L, L = padL bs := ⟨_, rfl⟩
  rw [← hL]
  have LL : Kept (L.length = 64) := ⟨by rw [hL]; exact padL_len bs⟩
  have EL : Kept _ := ⟨hL⟩
  clear hy hr hL hn0
  obtain ⟨ZZ, hZZ⟩ : ∃ Z : List Nat, Z = List.replicate 64 0 := ⟨_, rfl⟩
  have EZ : Kept _ := ⟨hZZ⟩
  have LZ : Kept (ZZ.length = 64) := ⟨by rw [hZZ]; simp⟩
  have EI : (#[.int .u8 0, .int .u8 0, .int .u8 0, .int .u8 0, .int .u8 0, .int .u8 0, .int .u8 0, .int .u8 0, .int .u8 0, .int .u8 0, .int .u8 0, .int .u8 0, .int .u8 0, .int .u8 0, .int .u8 0, .int .u8 0, .int .u8 0, .int .u8 0, .int .u8 0, .int .u8 0, .int .u8 0, .int .u8 0, .int .u8 0, .int .u8 0, .int .u8 0, .int .u8 0, .int .u8 0, .int .u8 0, .int .u8 0, .int .u8 0, .int .u8 0, .int .u8 0, .int .u8 0, .int .u8 0, .int .u8 0, .int .u8 0, .int .u8 0, .int .u8 0, .int .u8 0, .int .u8 0, .int .u8 0, .int .u8 0, .int .u8 0, .int .u8 0, .int .u8 0, .int .u8 0, .int .u8 0, .int .u8 0, .int .u8 0, .int .u8 0, .int .u8 0, .int .u8 0, .int .u8 0, .int .u8 0, .int .u8 0, .int .u8 0, .int .u8 0, .int .u8 0, .int .u8 0, .int .u8 0, .int .u8 0, .int .u8 0, .int .u8 0, .int .u8 0] : Array Value) = ints .u8 ZZ := by rw [hZZ]; exact zero64b
  have A0 : Blk ((w.alloc (.cells #[.int .u8 0, .int .u8 0, .int .u8 0, .int .u8 0, .int .u8 0, .int .u8 0, .int .u8 0, .int .u8 0, .int .u8 0, .int .u8 0, .int .u8 0, .int .u8 0, .int .u8 0, .int .u8 0, .int .u8 0, .int .u8 0, .int .u8 0, .int .u8 0, .int .u8 0, .int .u8 0, .int .u8 0, .int .u8 0, .int .u8 0, .int .u8 0, .int .u8 0, .int .u8 0, .int .u8 0, .int .u8 0, .int .u8 0, .int .u8 0, .int .u8 0, .int .u8 0, .int .u8 0, .int .u8 0, .int .u8 0, .int .u8 0, .int .u8 0, .int .u8 0, .int .u8 0, .int .u8 0, .int .u8 0, .int .u8 0, .int .u8 0, .int .u8 0, .int .u8 0, .int .u8 0, .int .u8 0, .int .u8 0, .int .u8 0, .int .u8 0, .int .u8 0, .int .u8 0, .int .u8 0, .int .u8 0, .int .u8 0, .int .u8 0, .int .u8 0, .int .u8 0, .int .u8 0, .int .u8 0, .int .u8 0, .int .u8 0, .int .u8 0, .int .u8 0] 50)).alloc (.cells #[.int .u8 0, .int .u8 0, .int .u8 0, .int .u8 0, .int .u8 0, .int .u8 0, .int .u8 0, .int .u8 0, .int .u8 0, .int .u8 0, .int .u8 0, .int .u8 0, .int .u8 0, .int .u8 0, .int .u8 0, .int .u8 0, .int .u8 0, .int .u8 0, .int .u8 0, .int .u8 0, .int .u8 0, .int .u8 0, .int .u8 0, .int .u8 0, .int .u8 0, .int .u8 0, .int .u8 0, .int .u8 0, .int .u8 0, .int .u8 0, .int .u8 0, .int .u8 0, .int .u8 0, .int .u8 0, .int .u8 0, .int .u8 0, .int .u8 0, .int .u8 0, .int .u8 0, .int .u8 0, .int .u8 0, .int .u8 0, .int .u8 0, .int .u8 0, .int .u8 0, .int .u8 0, .int .u8 0, .int .u8 0, .int .u8 0, .int .u8 0, .int .u8 0, .int .u8 0, .int .u8 0, .int .u8 0, .int .u8 0, .int .u8 0, .int .u8 0, .int .u8 0, .int .u8 0, .int .u8 0, .int .u8 0, .int .u8 0, .int .u8 0, .int .u8 0] 50)) w.heap.size 50 (ints .u8 ZZ) := by rw [EI]; exact (blk_new w _ _).alloc _
  have A1 : Blk ((w.alloc (.cells #[.int .u8 0, .int .u8 0, .int .u8 0, .int .u8 0, .int .u8 0, .int .u8 0, .int .u8 0, .int .u8 0, .int .u8 0, .int .u8 0, .int .u8 0, .int .u8 0, .int .u8 0, .int .u8 0, .int .u8 0, .int .u8 0, .int .u8 0, .int .u8 0, .int .u8 0, .int .u8 0, .int .u8 0, .int .u8 0, .int .u8 0, .int .u8 0, .int .u8 0, .int .u8 0, .int .u8 0, .int .u8 0, .int .u8 0, .int .u8 0, .int .u8 0, .int .u8 0, .int .u8 0, .int .u8 0, .int .u8 0, .int .u8 0, .int .u8 0, .int .u8 0, .int .u8 0, .int .u8 0, .int .u8 0, .int .u8 0, .int .u8 0, .int .u8 0, .int .u8 0, .int .u8 0, .int .u8 0, .int .u8 0, .int .u8 0, .int .u8 0, .int .u8 0, .int .u8 0, .int .u8 0, .int .u8 0, .int .u8 0, .int .u8 0, .int .u8 0, .int .u8 0, .int .u8 0, .int .u8 0, .int .u8 0, .int .u8 0, .int .u8 0, .int .u8 0] 50)).alloc (.cells #[.int .u8 0, .int .u8 0, .int .u8 0, .int .u8 0, .int .u8 0, .int .u8 0, .int .u8 0, .int .u8 0, .int .u8 0, .int .u8 0, .int .u8 0, .int .u8 0, .int .u8 0, .int .u8 0, .int .u8 0, .int .u8 0, .int .u8 0, .int .u8 0, .int .u8 0, .int .u8 0, .int .u8 0, .int .u8 0, .int .u8 0, .int .u8 0, .int .u8 0, .int .u8 0, .int .u8 0, .int .u8 0, .int .u8 0, .int .u8 0, .int .u8 0, .int .u8 0, .int .u8 0, .int .u8 0, .int .u8 0, .int .u8 0, .int .u8 0, .int .u8 0, .int .u8 0, .int .u8 0, .int .u8 0, .int .u8 0, .int .u8 0, .int .u8 0, .int .u8 0, .int .u8 0, .int .u8 0, .int .u8 0, .int .u8 0, .int .u8 0, .int .u8 0, .int .u8 0, .int .u8 0, .int .u8 0, .int .u8 0, .int .u8 0, .int .u8 0, .int .u8 0, .int .u8 0, .int .u8 0, .int .u8 0, .int .u8 0, .int .u8 0, .int .u8 0] 50)) (w.heap.size + 1) 50 (ints .u8 ZZ) := by rw [EI]; exact blk_top _ _ _ _ (by simp)
  have Q0 : Below w.heap.size w ((w.alloc (.cells #[.int .u8 0, .int .u8 0, .int .u8 0, .int .u8 0, .int .u8 0, .int .u8 0, .int .u8 0, .int .u8 0, .int .u8 0, .int .u8 0, .int .u8 0, .int .u8 0, .int .u8 0, .int .u8 0, .int .u8 0, .int .u8 0, .int .u8 0, .int .u8 0, .int .u8 0, .int .u8 0, .int .u8 0, .int .u8 0, .int .u8 0, .int .u8 0, .int .u8 0, .int .u8 0, .int .u8 0, .int .u8 0, .int .u8 0, .int .u8 0, .int .u8 0, .int .u8 0, .int .u8 0, .int .u8 0, .int .u8 0, .int .u8 0, .int .u8 0, .int .u8 0, .int .u8 0, .int .u8 0, .int .u8 0, .int .u8 0, .int .u8 0, .int .u8 0, .int .u8 0, .int .u8 0, .int .u8 0, .int .u8 0, .int .u8 0, .int .u8 0, .int .u8 0, .int .u8 0, .int .u8 0, .int .u8 0, .int .u8 0, .int .u8 0, .int .u8 0, .int .u8 0, .int .u8 0, .int .u8 0, .int .u8 0, .int .u8 0, .int .u8 0, .int .u8 0] 50)).alloc (.cells #[.int .u8 0, .int .u8 0, .int .u8 0, .int .u8 0, .int .u8 0, .int .u8 0, .int .u8 0, .int .u8 0, .int .u8 0, .int .u8 0, .int .u8 0, .int .u8 0, .int .u8 0, .int .u8 0, .int .u8 0, .int .u8 0, .int .u8 0, .int .u8 0, .int .u8 0, .int .u8 0, .int .u8 0, .int .u8 0, .int .u8 0, .int .u8 0, .int .u8 0, .int .u8 0, .int .u8 0, .int .u8 0, .int .u8 0, .int .u8 0, .int .u8 0, .int .u8 0, .int .u8 0, .int .u8 0, .int .u8 0, .int .u8 0, .int .u8 0, .int .u8 0, .int .u8 0, .int .u8 0, .int .u8 0, .int .u8 0, .int .u8 0, .int .u8 0, .int .u8 0, .int .u8 0, .int .u8 0, .int .u8 0, .int .u8 0, .int .u8 0, .int .u8 0, .int .u8 0, .int .u8 0, .int .u8 0, .int .u8 0, .int .u8 0, .int .u8 0, .int .u8 0, .int .u8 0, .int .u8 0, .int .u8 0, .int .u8 0, .int .u8 0, .int .u8 0] 50)) := ((Below.refl _ _).alloc (Nat.le_refl _) _).alloc (by simp) _
  clear EI hZZ
  by_cases h64 : 64 < n
  case pos =>
    have h64' : (64 : Int) < (n : Int) := by omega
    go_enter Tryd.func32, Tryd.ntmps32
    go_wp2_with fail
    generalize hW : (w.alloc (.cells #[.int .u8 0, .int .u8 0, .int .u8 0, .int .u8 0, .int .u8 0, .int .u8 0, .int .u8 0, .int .u8 0, .int .u8 0, .int .u8 0, .int .u8 0, .int .u8 0, .int .u8 0, .int .u8 0, .int .u8 0, .int .u8 0, .int .u8 0, .int .u8 0, .int .u8 0, .int .u8 0, .int .u8 0, .int .u8 0, .int .u8 0, .int .u8 0, .int .u8 0, .int .u8 0, .int .u8 0, .int .u8 0, .int .u8 0, .int .u8 0, .int .u8 0, .int .u8 0, .int .u8 0, .int .u8 0, .int .u8 0, .int .u8 0, .int .u8 0, .int .u8 0, .int .u8 0, .int .u8 0, .int .u8 0, .int .u8 0, .int .u8 0, .int .u8 0, .int .u8 0, .int .u8 0, .int .u8 0, .int .u8 0, .int .u8 0, .int .u8 0, .int .u8 0, .int .u8 0, .int .u8 0, .int .u8 0, .int .u8 0, .int .u8 0, .int .u8 0, .int .u8 0, .int .u8 0, .int .u8 0, .int .u8 0, .int .u8 0, .int .u8 0, .int .u8 0] 50)).alloc (.cells #[.int .u8 0, .int .u8 0, .int .u8 0, .int .u8 0, .int .u8 0, .int .u8 0, .int .u8 0, .int .u8 0, .int .u8 0, .int .u8 0, .int .u8 0, .int .u8 0, .int .u8 0, .int .u8 0, .int .u8 0, .int .u8 0, .int .u8 0, .int .u8 0, .int .u8 0, .int .u8 0, .int .u8 0, .int .u8 0, .int .u8 0, .int .u8 0, .int .u8 0, .int .u8 0, .int .u8 0, .int .u8 0, .int .u8 0, .int .u8 0, .int .u8 0, .int .u8 0, .int .u8 0, .int .u8 0, .int .u8 0, .int .u8 0, .int .u8 0, .int .u8 0, .int .u8 0, .int .u8 0, .int .u8 0, .int .u8 0, .int .u8 0, .int .u8 0, .int .u8 0, .int .u8 0, .int .u8 0, .int .u8 0, .int .u8 0, .int .u8 0, .int .u8 0, .int .u8 0, .int .u8 0, .int .u8 0, .int .u8 0, .int .u8 0, .int .u8 0, .int .u8 0, .int .u8 0, .int .u8 0, .int .u8 0, .int .u8 0, .int .u8 0, .int .u8 0] 50) = wa at *
    clear hW
    refine (cSum KY.out KN.out (KR.out.below KR.out.1 Q0) (KV.out.under Q0)).mono ?_
    rintro e w1 ⟨rfl, hb1⟩
    obtain ⟨S, hS⟩ : ∃ S, S = sumL bs := ⟨_, rfl⟩
    rw [← hS]
    have LS : Kept (S.length = 32) := ⟨by rw [hS]; exact sumL_len bs⟩
    have ES : Kept _ := ⟨hS⟩
    have A01 := A0.under hb1
    have A11 := A1.under hb1
    have Q1 := Q0.trans (hb1.mono Q0.size)
    have sz1 : w.heap.size + 1 < w1.heap.size := A11.lt
    clear hb1 A0 A1 Q0 hS
    go_wp2_with (first | (refine wl_store rfl 24 (.tmp 4) (.tmp 9) rfl w1.heap.size (ints .u8 S) rfl rfl _ (blk_new w1 _ _) (by rw [ints_size, LS.out]; exact t32_info) (by rw [ints_size, LS.out]; rfl) (ints_one _ _) ?_))
    intro w2 A2 P2
    have A02 := P2.blk (A01.alloc _) (by omega)
    have A12 := P2.blk (A11.alloc _) (by omega)
    have Q2 := (Q1.alloc Q1.size _).trans (P2.below Q1.size)
    have V2 : Kept (BytesV (.slice (some ⟨w1.heap.size, 0, none⟩) 32 32) w2 S) := ⟨arr_bytes A2 LS.out⟩
    have hmin : Kept ((32 : Nat) = Nat.min 32 64) := ⟨rfl⟩
    have hfit : 0 + 32 ≤ (ints .u8 ZZ).size := by rw [ints_size, LZ.out]; decide
    have EP : Kept ((splice (ints .u8 ZZ).toList 0 (ints .u8 (S.take 32)).toList).toArray = ints .u8 L) := ⟨by
      have hlt : 64 < bs.length := by rw [← EN.out]; exact h64
      rw [splice_ints, List.take_of_length_le (by rw [LS.out]; exact Nat.le_refl _), EZ.out, splice_pad S (by rw [LS.out]; decide), LS.out, EL.out]
      unfold padL
      rw [if_pos hlt, ES.out]⟩
    clear A01 A11 P2 Q1 A2
    go_wp2_with (first | (refine wl_copyV rfl (.tmp 11) (.tmp 12) 22 22 rfl Tryd.underlying22 (w.heap.size + 1) 0 64 64 rfl (some ⟨w1.heap.size, 0, none⟩) 32 32 rfl _ A12 S V2.out 32 hmin.out hfit ?_))
    intro w3 A3 P3
    rw [EP.out] at A3
    have A03 := P3.blk A02 (by omega)
    have Q3 := Q2.trans (P3.below (by omega))
    clear A02 A12 P3 Q2 V2 hfit hmin EP
    go_wp2_with (first | ((with_reducible refine wv_row (d := 14) ?hd ?hw 50 (.tmp 3) ?ho (w.heap.size + 1) ?hx (t' := 50) (ints .u8 L) _ _ Tryd.underlying50 ?hs ?hg ?_); (case hd => rfl); (case hw => kernel_rfl); (case ho => rfl); (case hx => kernel_rfl); (case hs => rw [ints_size, LL.out]; exact t64_info); (case hg => exact A3); simp only [Act.put, List.setIfInBounds_toArray, List.set_cons_succ, List.set_cons_zero]) | (refine wl_store rfl 50 (.tmp 2) (.tmp 14) rfl w.heap.size (ints .u8 L) rfl rfl _ A03 (by rw [ints_size, LL.out]; exact t64_info) (by rw [ints_size, ints_size, LL.out, LZ.out]) (ints_one _ _) ?_))
    intro w4 A4 P4
    go_wp2
    exact bodyPost_ret (v := .agg (ints .u8 L)) (results_cell_row Tryd.results32 _ _ _ 50 (ints .u8 L) (0, 0) _ rfl A4 Tryd.underlying50 rfl (by rw [ints_size, LL.out]; exact t64_info)) rfl ⟨rfl, Q3.trans (P4.below (Nat.le_refl _))⟩
  case neg =>
    have h64' : ¬ (64 : Int) < (n : Int) := by omega
    have hmin : Kept (n = Nat.min n 64) := ⟨(Nat.min_eq_left (by omega)).symm⟩
    have hfit : 0 + n ≤ (ints .u8 ZZ).size := by rw [ints_size, LZ.out]; omega
    have EP : Kept ((splice (ints .u8 ZZ).toList 0 (ints .u8 (bs.take n)).toList).toArray = ints .u8 L) := ⟨by
      have hlt : ¬ 64 < bs.length := by rw [← EN.out]; exact h64
      rw [splice_ints, List.take_of_length_le (by rw [EN.out]; exact Nat.le_refl _), EZ.out, splice_pad bs (by omega), EL.out]
      unfold padL
      rw [if_neg hlt]⟩
    have V2 : Kept _ := ⟨KV.out.under Q0⟩
    go_enter Tryd.func32, Tryd.ntmps32
    go_wp2_with (first | (refine wl_copyV rfl (.tmp 11) (.tmp 12) 22 22 rfl Tryd.underlying22 (w.heap.size + 1) 0 64 64 rfl p n c rfl _ A1 bs V2.out n hmin.out hfit ?_))
    intro w3 A3 P3
    rw [EP.out] at A3
    have A03 := P3.blk A0 (by omega)
    have Q3 := Q0.trans (P3.below (by omega))
    clear A0 A1 P3 Q0 V2 hfit hmin EP
    go_wp2_with (first | ((with_reducible refine wv_row (d := 14) ?hd ?hw 50 (.tmp 3) ?ho (w.heap.size + 1) ?hx (t' := 50) (ints .u8 L) _ _ Tryd.underlying50 ?hs ?hg ?_); (case hd => rfl); (case hw => kernel_rfl); (case ho => rfl); (case hx => kernel_rfl); (case hs => rw [ints_size, LL.out]; exact t64_info); (case hg => exact A3); simp only [Act.put, List.setIfInBounds_toArray, List.set_cons_succ, List.set_cons_zero]) | (refine wl_store rfl 50 (.tmp 2) (.tmp 14) rfl w.heap.size (ints .u8 L) rfl rfl _ A03 (by rw [ints_size, LL.out]; exact t64_info) (by rw [ints_size, ints_size, LL.out, LZ.out]) (ints_one _ _) ?_))
    intro w4 A4 P4
    go_wp2
    exact bodyPost_ret (v := .agg (ints .u8 L)) (results_cell_row Tryd.results32 _ _ _ 50 (ints .u8 L) (0, 0) _ rfl A4 Tryd.underlying50 rfl (by rw [ints_size, LL.out]; exact t64_info)) rfl ⟨rfl, Q3.trans (P4.below (Nat.le_refl _))⟩
end Go.Proofs.YthnkipicehppmaaDoor.sh
/-
  A key's bytes changed, its digest; the key as it is used.
-/
namespace Go.Proofs.YthnkipicehppmaaDoor.sh
open Go Go.RowKit
set_option linter.unusedVariables false
set_option linter.unusedSimpArgs false

/-- The first i bytes changed. -/
def xTo (b : Nat) (P : List Nat) (i : Nat) : List Nat := xorL b (P.take i) ++ P.drop i
theorem xTo_len (b : Nat) (P : List Nat) (i : Nat) : (xTo b P i).length = P.length := by
  unfold xTo
  rw [List.length_append, xorL_len, List.length_take, List.length_drop]
  omega
theorem xTo_zero (b : Nat) (P : List Nat) : xTo b P 0 = P := by simp [xTo, xorL]
theorem xTo_all (b : Nat) (P : List Nat) (i : Nat) (h : P.length ≤ i) : xTo b P i = xorL b P := by
  unfold xTo
  rw [List.take_of_length_le h, List.drop_of_length_le h, List.append_nil]
theorem xTo_get (b : Nat) (P : List Nat) (i : Nat) : (xTo b P i)[i]? = P[i]? := by
  unfold xTo
  by_cases h : i < P.length
  · rw [List.getElem?_append_right (by rw [xorL_len, List.length_take]; omega), xorL_len, List.length_take, List.getElem?_drop]
    congr 1
    omega
  · rw [List.getElem?_eq_none (by rw [List.length_append, xorL_len, List.length_take, List.length_drop]; omega), List.getElem?_eq_none (by omega)]
theorem xTo_succ (b : Nat) (P : List Nat) (i x : Nat) (h : P[i]? = some x) : (xTo b P i).set i (x ^^^ b) = xTo b P (i + 1) := by
  have hi : i < P.length := (List.getElem?_eq_some_iff.1 h).1
  unfold xTo
  have e : P.drop i = x :: P.drop (i + 1) := by rw [List.drop_eq_getElem_cons hi, (List.getElem?_eq_some_iff.1 h).2]
  rw [List.set_append_right _ _ (by rw [xorL_len, List.length_take]; omega), xorL_len, List.length_take, Nat.min_eq_left (by omega), Nat.sub_self, e, List.set_cons_zero, List.take_add_one, h]
  simp [xorL]
theorem run_xorV {o : Oper} {a : Act} {x y : Operand} {m n z : Nat} (ho : o.op = .binOp .xor 5 x y 5) (hx : a.eval x = .int .u8 (m : Int)) (hy : a.eval y = .int .u8 (n : Int)) (hm : m < 256) (hn : n < 256) (hz : z = m ^^^ n) (w : World) : (execOp a.eval o).run Tryd.prog w = .ok (.value (.int .u8 (z : Int))) w := by
  have h := u8_xor_nat m n hm hn
  unfold execOp
  simp only [ho, hx, hy]
  simp [go_sem, hz]
  exact h
theorem cWrite0 {cs : List Nat} {v : Value} {w : World} (hc : Bytes cs) (hn : cs.length < 1000000000) (hr : RootsAt w) (hv : BytesV v w cs) :
    Calls Tryd.prog 27 #[.agg (dgs []), v] w fun e w' => e = .returned (.agg (dgs cs)) ∧ Below w.heap.size w w' := by
  have h := cWrite nil_bytes hc (by simpa using hn) hr hv
  rw [List.nil_append] at h
  exact h

set_option maxRecDepth 100000 in
set_option maxHeartbeats 2000000 in
theorem changed_any (P : List Nat) (b : Nat) (w : World) (hP : P.length = 64) (hy : Bytes P) (hb : b < 256) (hr : RootsAt w) :
    Calls Tryd.prog 33 #[.agg (ints .u8 P), .int .u8 (b : Int)] w fun e w' => e = .returned (.agg (dgs (xorL b P))) ∧ Below w.heap.size w w' := by
  have KY : Kept _ := ⟨hy⟩
  have KR : Kept _ := ⟨hr⟩
  have KP : Kept _ := ⟨hP⟩
  have KB : Kept _ := ⟨hb⟩
  obtain ⟨Z, hZ⟩ : ∃ Z, Z = dgs [] := ⟨_, rfl⟩
  have hz : ∀ w, (zeroValue 53).run Tryd.prog w = .ok (.agg Z) w := fun w => by rw [hZ]; exact dgs_zero w
  have hbuild : Kept (∀ w, (Instr.build 53 #[]).run Tryd.prog w = .ok (.agg Z) w) := ⟨fun w => by rw [hZ]; exact dgs_build w⟩
  have LZ : Kept (Z.size = 73) := ⟨by rw [hZ]; exact dgs_size nil_bytes⟩
  have EZ : Kept _ := ⟨hZ⟩
  obtain ⟨D, hD⟩ : ∃ D, D = dgs (xorL b P) := ⟨_, rfl⟩
  rw [← hD]
  have ED : Kept _ := ⟨hD⟩
  have SD : Kept ((Tryd.prog.info? 53).map (·.size) = some D.size) := ⟨by rw [hD]; exact dgs_info (xorL_bytes hy hb)⟩
  have LD : Kept (D.size = 73) := ⟨by rw [hD]; exact dgs_size (xorL_bytes hy hb)⟩
  have OD : Kept (D.all (·.oneCell') = true) := ⟨by rw [hD]; exact dgs_one _⟩
  have A0 : Blk ((w.alloc (.cells (ints .u8 P) 50)).alloc (.cells Z 53)) w.heap.size 50 (ints .u8 (xTo b P 0)) := by rw [xTo_zero]; exact (blk_new w _ _).alloc _
  have A1 : Blk ((w.alloc (.cells (ints .u8 P) 50)).alloc (.cells Z 53)) (w.heap.size + 1) 53 Z := blk_top _ _ _ _ (by simp)
  have Q0 : Below w.heap.size w ((w.alloc (.cells (ints .u8 P) 50)).alloc (.cells Z 53)) := ((Below.refl _ _).alloc (Nat.le_refl _) _).alloc (by simp) _
  clear hy hr hZ hD
  go_enter Tryd.func33, Tryd.ntmps33
  go_wp2_with fail
  generalize hW : (w.alloc (.cells (ints .u8 P) 50)).alloc (.cells Z 53) = wa at *
  clear hW
  go_loopg [6] 64 (fun k s6 wr => ∃ i : Nat, i + k = 64 ∧ s6 = .int .i64 (i : Int) ∧ Below w.heap.size w wr ∧ Blk wr w.heap.size 50 (ints .u8 (xTo b P i)) ∧ Blk wr (w.heap.size + 1) 53 Z)
  case atStart => exact ⟨0, by omega, rfl, Q0, A0, A1⟩
  case round =>
    clear A0 A1 Q0
    obtain ⟨i, hik, rfl, HB, A0, A1⟩ := hrel
    by_cases hi : i < 64
    case pos =>
      have hi' : (i : Int) < 64 := by omega
      obtain ⟨x, hx⟩ : ∃ x, P[i]? = some x := ⟨_, List.getElem?_eq_getElem (by have := KP.out; omega)⟩
      have hx8 : x < 256 := KY.out i x hx
      obtain ⟨z, hz'⟩ : ∃ z, z = x ^^^ b := ⟨_, rfl⟩
      obtain ⟨X, hX⟩ : ∃ X, X = xTo b P i := ⟨_, rfl⟩
      have KX : Kept ((ints .u8 X)[i]? = some (.int .u8 (x : Int))) := ⟨ints_get (by rw [hX, xTo_get]; exact hx)⟩
      have KS : Kept (X.set i z = xTo b P (i + 1)) := ⟨by rw [hX, hz']; exact xTo_succ b P i x hx⟩
      have iX : i < (ints .u8 X).size := by rw [ints_size, hX, xTo_len, KP.out]; exact hi
      rw [← hX] at A0
      have Ez : Kept _ := ⟨hz'⟩
      clear hX hx hz'
      go_wp2_with (first | ((with_reducible refine wv_val (d := 10) ?hd ?hw (.pointer (some ⟨w.heap.size, i, none⟩)) ?hr ?_); (case hd => rfl); (case hw => kernel_rfl); (case hr => intro w; exact run_idx rfl (by kernel_rfl) (by kernel_rfl) Tryd.underlying50 hi sz_u8 w); simp only [Act.put, List.setIfInBounds_toArray, List.set_cons_succ, List.set_cons_zero]) | (refine wl_elem rfl 5 ag_u8 (.tmp 10) rfl w.heap.size i rfl _ (.int .u8 (x : Int)) A0 KX.out ?_) | ((with_reducible refine wv_val (d := 13) ?hd ?hw (.int .u8 (z : Int)) ?hr ?_); (case hd => rfl); (case hw => kernel_rfl); (case hr => intro w; exact run_xorV rfl (by kernel_rfl) (by kernel_rfl) hx8 KB.out Ez.out w); simp only [Act.put, List.setIfInBounds_toArray, List.set_cons_succ, List.set_cons_zero]) | ((with_reducible refine wv_val (d := 14) ?hd ?hw (.pointer (some ⟨w.heap.size, i, none⟩)) ?hr ?_); (case hd => rfl); (case hw => kernel_rfl); (case hr => intro w; exact run_idx rfl (by kernel_rfl) (by kernel_rfl) Tryd.underlying50 hi sz_u8 w); simp only [Act.put, List.setIfInBounds_toArray, List.set_cons_succ, List.set_cons_zero]) | (refine wl_setElem rfl 5 sz_u8 (.tmp 14) (.tmp 13) rfl w.heap.size i .u8 (z : Int) rfl rfl _ A0 iX ?_))
      intro w4 A4 P4
      rw [ints_set, KS.out] at A4
      have A14 := P4.blk A1 (by omega)
      have HB4 := HB.trans (P4.below (Nat.le_refl _))
      clear A0 A1 HB P4 KX KS iX
      go_wp2_with fail
      go_roundg (gk - 1)
      case measure => omega
      case rel => exact ⟨i + 1, by omega, by simp, HB4, A4, A14⟩
    case neg =>
      have hi' : ¬ (i : Int) < 64 := by omega
      rw [xTo_all b P i (by rw [KP.out]; omega)] at A0
      have V0 : Kept (BytesV (.slice (some ⟨w.heap.size, 0, none⟩) 64 64) wr (xorL b P)) := ⟨arr_bytes A0 (by rw [xorL_len]; exact KP.out)⟩
      have C0 : Kept (Calls Tryd.prog 27 #[.agg Z, .slice (some ⟨w.heap.size, 0, none⟩) 64 64] wr fun e w' => e = .returned (.agg D) ∧ Below wr.heap.size wr w') := ⟨by
        rw [EZ.out, ED.out]
        exact cWrite0 (xorL_bytes KY.out KB.out) (by rw [xorL_len, KP.out]; decide) (KR.out.below KR.out.1 HB) V0.out⟩
      clear A0 V0
      go_wp2_with (first | ((with_reducible refine wv_val (d := 16) ?hd ?hw (.agg Z) ?hr ?_); (case hd => rfl); (case hw => kernel_rfl); (case hr => intro w; exact build_run rfl hbuild.out w); simp only [Act.put, List.setIfInBounds_toArray, List.set_cons_succ, List.set_cons_zero]))
      refine C0.out.mono ?_
      rintro e w5 ⟨rfl, hb5⟩
      have A15 := A1.under hb5
      have HB5 := HB.trans (hb5.mono HB.size)
      clear A1 HB hb5 C0
      go_wp2_with (first | (refine wl_store rfl 53 (.tmp 4) (.tmp 18) rfl (w.heap.size + 1) D rfl rfl _ A15 SD.out (by rw [LZ.out, LD.out]) OD.out ?_))
      intro w6 A6 P6
      go_wp2
      exact bodyPost_ret (v := .agg D) (results_cell_row Tryd.results33 _ _ _ 53 D (0, 0) _ rfl A6 Tryd.underlying53 rfl SD.out) rfl ⟨rfl, HB5.trans (P6.below (by omega))⟩
end Go.Proofs.YthnkipicehppmaaDoor.sh
/-
  The key as it is used: two digests.
-/
namespace Go.Proofs.YthnkipicehppmaaDoor.sh
open Go Go.RowKit
set_option linter.unusedVariables false
set_option linter.unusedSimpArgs false

theorem foldl_zip : ∀ (l : List Value) (k o : Nat) (cs : Array Value), (l.zipIdx k).foldl (fun (cs : Array Value) (x : Value × Nat) => cs.setIfInBounds (o + x.2) x.1) cs = setRange cs (o + k) l
  | [], k, o, cs => by simp [setRange]
  | v :: r, k, o, cs => by
    rw [List.zipIdx_cons, List.foldl_cons, foldl_zip r (k + 1) o]
    rfl
theorem fold_zipA (A cs : Array Value) (o : Nat) : A.zipIdx.foldl (fun (cs : Array Value) (x : Value × Nat) => cs.setIfInBounds (o + x.2) x.1) cs = setRange cs o A.toList := by
  rw [← Array.foldl_toList, Array.toList_zipIdx, foldl_zip]
  rfl
theorem splice_two (X Y A B : List Value) (hA : A.length = X.length) (hB : B.length = Y.length) : splice (splice (X ++ Y) 0 A) X.length B = A ++ B := by
  unfold splice
  rw [List.take_zero, List.nil_append, Nat.zero_add, hA, List.drop_left, ← hA, List.take_left, List.drop_append, List.drop_of_length_le (by omega), List.drop_of_length_le (by omega)]
  simp
theorem splice_behind (X Y B : List Value) (n : Nat) (hn : n = X.length) (hB : B.length = Y.length) : splice (X ++ Y) n B = X ++ B := by
  subst hn
  unfold splice
  rw [List.take_left, List.drop_append, List.drop_of_length_le (by omega), List.drop_of_length_le (by omega)]
  simp
theorem kd_places (parts : List (Nat × Value)) : Tryd.prog.built 55 parts = Instr.fill (#[(0, 73), (73, 73)][·]?) (dgs [] ++ dgs []) parts := by kernel_rfl
theorem kd_built (A B : Array Value) (hA : A.size = 73) (hB : B.size = 73) : Tryd.prog.built 55 [(0, .agg A), (1, .agg B)] = some (A ++ B) := by
  have hz : (dgs []).size = 73 := dgs_size nil_bytes
  rw [kd_places]
  generalize dgs [] = Z at *
  have e1 : setRange (Z ++ Z) 0 A.toList = (splice (Z ++ Z).toList 0 A.toList).toArray := setRange_splice _ _ _ (by simp; omega)
  have e2 : setRange (setRange (Z ++ Z) 0 A.toList) 73 B.toList = A ++ B := by
    rw [e1, setRange_splice _ _ _ (by simp [splice]; omega), List.toList_toArray, Array.toList_append, show (73 : Nat) = Z.toList.length from by simp [hz], splice_two _ _ _ _ (by simp [hz, hA]) (by simp [hz, hB])]
    simp
  have s1 : (setRange (Z ++ Z) 0 A.toList).size = 146 := by rw [e1]; simp [splice]; omega
  simp only [Instr.fill, Value.cells, hA, hB, show (#[(0, 73), (73, 73)] : Array (Nat × Nat))[0]? = some (0, 73) from rfl, show (#[(0, 73), (73, 73)] : Array (Nat × Nat))[1]? = some (73, 73) from rfl, fold_zipA, s1, e2]
  simp [hz]
theorem kd_run {o : Oper} {a : Act} (A B : Array Value) (hA : A.size = 73) (hB : B.size = 73) (x y : Operand) (ho : o.op = .build 55 #[(0, x), (1, y)]) (hx : a.eval x = .agg A) (hy : a.eval y = .agg B) (w : World) : (execOp a.eval o).run Tryd.prog w = .ok (.value (.agg (A ++ B))) w := by
  have h := run_build (P := Tryd.prog) w 55 #[(0, .agg A), (1, .agg B)] _ (kd_built A B hA hB)
  unfold execOp
  simp only [ho]
  simp [hx, hy, h]
theorem kd_info : (Tryd.prog.info? 55).map (·.size) = some 146 := by kernel_rfl
theorem kd_zero (w : World) : (zeroValue 55).run Tryd.prog w = .ok (.agg (dgs [] ++ dgs [])) w := by kernel_rfl
/-- The cells of a key as it is used. -/
def keyD (k : List Nat) : Array Value := dgs (xorL 92 (padL k)) ++ dgs (xorL 54 (padL k))

set_option maxRecDepth 100000 in
set_option maxHeartbeats 2000000 in
theorem keyedBy_any (bs : List Nat) (v : Value) (w : World) (hy : Bytes bs) (hn : bs.length < 1000000000) (hr : RootsAt w) (hv : BytesV v w bs) :
    Calls Tryd.prog 22 #[v] w fun e w' => e = .returned (.agg (keyD bs)) ∧ Below w.heap.size w w' := by
  have KR : Kept _ := ⟨hr⟩
  obtain ⟨P, hP⟩ : ∃ P, P = padL bs := ⟨_, rfl⟩
  have LP : Kept (P.length = 64) := ⟨by rw [hP]; exact padL_len bs⟩
  have YP : Kept (Bytes P) := ⟨by rw [hP]; exact padL_bytes hy⟩
  obtain ⟨DO, hO⟩ : ∃ D, D = dgs (xorL 92 P) := ⟨_, rfl⟩
  obtain ⟨DI, hI⟩ : ∃ D, D = dgs (xorL 54 P) := ⟨_, rfl⟩
  have LO : Kept (DO.size = 73) := ⟨by rw [hO]; exact dgs_size (xorL_bytes YP.out (by decide))⟩
  have LI : Kept (DI.size = 73) := ⟨by rw [hI]; exact dgs_size (xorL_bytes YP.out (by decide))⟩
  have OO : Kept ((DO ++ DI).all (·.oneCell') = true) := ⟨by rw [Array.all_append, hO, hI, dgs_one, dgs_one]; rfl⟩
  rw [show keyD bs = DO ++ DI from by rw [hO, hI, hP]; rfl]
  have EO : Kept _ := ⟨hO⟩
  have EI : Kept _ := ⟨hI⟩
  obtain ⟨Z, hZ⟩ : ∃ Z, Z = dgs [] ++ dgs [] := ⟨_, rfl⟩
  have hz : ∀ w, (zeroValue 55).run Tryd.prog w = .ok (.agg Z) w := fun w => by rw [hZ]; exact kd_zero w
  have LZ : Kept (Z.size = 146) := ⟨by rw [hZ, Array.size_append, dgs_size nil_bytes]⟩
  have A0 : Blk (w.alloc (.cells Z 55)) w.heap.size 55 Z := blk_new w _ _
  have Q0 : Below w.heap.size w (w.alloc (.cells Z 55)) := (Below.refl _ _).alloc (Nat.le_refl _) _
  have C0 : Kept (Calls Tryd.prog 32 #[v] (w.alloc (.cells Z 55)) fun e w' => e = .returned (.agg (ints .u8 P)) ∧ Below (w.alloc (.cells Z 55)).heap.size (w.alloc (.cells Z 55)) w') := ⟨by rw [hP]; exact mfilled_any bs v _ hy hn (hr.below hr.1 Q0) (hv.under Q0)⟩
  clear hy hr hP hO hI hZ hv
  go_enter Tryd.func22, Tryd.ntmps22
  go_wp2_with fail
  refine C0.out.mono ?_
  rintro e w1 ⟨rfl, hb1⟩
  have A1 := A0.under hb1
  have Q1 := Q0.trans (hb1.mono Q0.size)
  have sz1 := A1.lt
  clear hb1 A0 Q0 C0
  go_wp2_with (first | (refine wl_store rfl 50 (.tmp 3) (.tmp 5) rfl w1.heap.size (ints .u8 P) rfl rfl _ (blk_new w1 _ _) (by rw [ints_size, LP.out]; exact t64_info) (by rw [ints_size, LP.out]; rfl) (ints_one _ _) ?_))
  intro w3 A3 P3
  have A13 := P3.blk (A1.alloc _) (by omega)
  have Q3 := (Q1.alloc Q1.size _).trans (P3.below Q1.size)
  generalize hg3 : w1.heap.size = g3 at *
  clear A1 Q1 P3 hg3 hz
  have RR : Kept (∀ w', Below w3.heap.size w3 w' → RootsAt w') := ⟨fun w' hb => (KR.out.below KR.out.1 Q3).under hb⟩
  have C1 : Kept (∀ w', Below w3.heap.size w3 w' → Calls Tryd.prog 33 [.agg (ints .u8 P), .int .u8 92].toArray w' fun e w2 => e = .returned (.agg DO) ∧ Below w'.heap.size w' w2) := ⟨fun w' hb => by rw [EO.out]; exact changed_any P 92 w' LP.out YP.out (by decide) (RR.out w' hb)⟩
  have C2 : Kept (∀ w', Below w3.heap.size w3 w' → Calls Tryd.prog 33 [.agg (ints .u8 P), .int .u8 54].toArray w' fun e w2 => e = .returned (.agg DI) ∧ Below w'.heap.size w' w2) := ⟨fun w' hb => by rw [EI.out]; exact changed_any P 54 w' LP.out YP.out (by decide) (RR.out w' hb)⟩
  have HB : Kept (∀ {o : Oper} {a : Act} (x y : Operand), o.op = .build 55 #[(0, x), (1, y)] → a.eval x = .agg DO → a.eval y = .agg DI → ∀ w, (execOp a.eval o).run Tryd.prog w = .ok (.value (.agg (DO ++ DI))) w) := ⟨fun x y ho hx hy w => kd_run DO DI LO.out LI.out x y ho hx hy w⟩
  go_wp2_with fail
  refine region_ownL w3 5 [(6, .agg (ints .u8 P)), (7, .agg DO), (8, .agg (ints .u8 P)), (9, .agg DI), (10, .agg (DO ++ DI))] [] [] [] rfl (by kernel_rfl) (by kernel_rfl) (by kernel_rfl) (by kernel_rfl) (by kernel_rfl) (by kernel_rfl) (by kernel_rfl) (by kernel_rfl) (by kernel_rfl) (by kernel_rfl) (by kernel_rfl) ?hst1 ?hst2 (Below.refl _ _) (fun hA => ⟨ow_row hA (wants_none rfl) 6 (.agg (ints .u8 P)) (by kernel_rfl) rfl rfl rfl rfl (by kernel_rfl) 50 (.tmp 3) rfl (g3) (by kernel_rfl) 50 (ints .u8 P) 64 5 Tryd.underlying50 (by rw [ints_size, LP.out]; exact t64_info) (fun w1 hb => Blk.under A3 hb) rfl, ow_calld hA (wants_none rfl) 7 (.agg DO) (by kernel_rfl) rfl rfl rfl rfl (by kernel_rfl) 33 Tryd.f33 _ [.tmp 6, .const (.int .u8 92)] _ [.agg (ints .u8 P), .int .u8 92] rfl (by kernel_rfl) Tryd.func33 (by kernel_rfl) rfl (fun w1 hb => C1.out w1 hb), ow_row hA (wants_none rfl) 8 (.agg (ints .u8 P)) (by kernel_rfl) rfl rfl rfl rfl (by kernel_rfl) 50 (.tmp 3) rfl (g3) (by kernel_rfl) 50 (ints .u8 P) 64 5 Tryd.underlying50 (by rw [ints_size, LP.out]; exact t64_info) (fun w1 hb => Blk.under A3 hb) rfl, ow_calld hA (wants_none rfl) 9 (.agg DI) (by kernel_rfl) rfl rfl rfl rfl (by kernel_rfl) 33 Tryd.f33 _ [.tmp 8, .const (.int .u8 54)] _ [.agg (ints .u8 P), .int .u8 54] rfl (by kernel_rfl) Tryd.func33 (by kernel_rfl) rfl (fun w1 hb => C2.out w1 hb), ow_val hA (wants_none rfl) 10 (.agg (DO ++ DI)) (by kernel_rfl) rfl rfl rfl rfl (by kernel_rfl) (fun w => HB.out _ _ rfl (by kernel_rfl) (by kernel_rfl) w), trivial⟩) ?_
  case hst1 => intro q hq; cases hq
  case hst2 => intro q hq; cases hq
  intro fv w4 hf hD hb4
  simp only [putR, List.foldl_cons, List.foldl_nil, List.map_cons, List.map_nil, Act.put, List.setIfInBounds_toArray, List.set_cons_succ, List.set_cons_zero]
  have A14 := A13.under hb4
  have Q4 := Q3.trans (hb4.mono Q3.size)
  have SK : Kept ((Tryd.prog.info? 55).map (·.size) = some (DO ++ DI).size) := ⟨by rw [Array.size_append, LO.out, LI.out]; exact kd_info⟩
  clear hf hD C1 C2 A3 A13 Q3 hb4
  refine wl_store rfl 55 (.tmp 2) (.tmp 10) rfl w.heap.size (DO ++ DI) (by kernel_rfl) (by kernel_rfl) _ A14 SK.out (by rw [Array.size_append, LO.out, LI.out, LZ.out]) OO.out ?_
  intro w5 A5 P5
  go_wp2
  exact bodyPost_ret (v := .agg (DO ++ DI)) (results_cell_row Tryd.results22 _ _ _ 55 (DO ++ DI) (0, 0) _ rfl A5 Tryd.underlying55 rfl SK.out) rfl ⟨rfl, Q4.trans (P5.below (Nat.le_refl _))⟩
end Go.Proofs.YthnkipicehppmaaDoor.sh
/-
  HMAC of a key as it is used, and pieces.
-/
namespace Go.Proofs.YthnkipicehppmaaDoor.sh
open Go Go.RowKit
set_option linter.unusedVariables false
set_option linter.unusedSimpArgs false

/-- A struct in the midst of a block is read, in a plain region. -/
theorem wv_partS {ops : Array Oper} {rest : List Oper} {o : Oper} {a : Act} {w : World} {Q : Exit → Act → World → Prop} {d : Nat} (hd : o.dst = some d) (hw : Region.wanted o (yielded ops a.tmps) = true) (t : TypeId) (x : Operand) (ho : o.op = .load t x) (g off : Nat) (hx : a.eval x = .pointer (some ⟨g, off, none⟩)) {t' : TypeId} (cs es : Array Value) (fs : Array Field) (hu : Tryd.prog.underlying t = some (.struct fs)) (hs : (Tryd.prog.info? t).map (·.size) = some es.size)
    (hg : Blk w g t' cs) (hp : ∀ j v, es[j]? = some v → cs[off + j]? = some v) (h : wpList Tryd.prog ops Q rest (a.put o.dst (.agg es)) w) : wpList Tryd.prog ops Q (o :: rest) a w :=
  BigFrame.wpList_want hw fun K hK => by
    unfold Oper.wp execOp
    simp only [ho, hx, Instr.loadAt, Instr.sureAddr, Sem.run_bind, Sem.run_pure, Result.andThen_ok, run_loadVar_at w g off t' t cs es (0, 0) _ hg hp hu rfl hs]
    exact hK _ _ h
theorem part_first (A B : Array Value) : ∀ (j : Nat) (v : Value), A[j]? = some v → (A ++ B)[0 + j]? = some v := fun j v h => by
  rw [Nat.zero_add, Array.getElem?_append_left (Array.getElem?_eq_some_iff.1 h).1]
  exact h
theorem part_second (A B : Array Value) (n : Nat) (hA : A.size = n) : ∀ (j : Nat) (v : Value), B[j]? = some v → (A ++ B)[n + j]? = some v := fun j v h => by
  subst hA
  rw [Array.getElem?_append_right (by omega), Nat.add_sub_cancel_left]
  exact h
/-- The first i of some texts, one behind the other. -/
def catTo (ll : List (List Nat)) (i : Nat) : List Nat := (ll.take i).flatten
theorem catTo_succ (ll : List (List Nat)) (i : Nat) (b : List Nat) (h : ll[i]? = some b) : catTo ll (i + 1) = catTo ll i ++ b := by
  unfold catTo
  rw [List.take_add_one, h]
  simp
theorem catTo_all (ll : List (List Nat)) (i : Nat) (h : ll.length ≤ i) : catTo ll i = ll.flatten := by
  unfold catTo
  rw [List.take_of_length_le h]
theorem catTo_len (ll : List (List Nat)) (i : Nat) : (catTo ll i).length ≤ ll.flatten.length := by
  have h : ll.flatten = (ll.take i).flatten ++ (ll.drop i).flatten := by rw [← List.flatten_append, List.take_append_drop]
  rw [h, List.length_append]
  exact Nat.le_add_right _ _
theorem bytes_flat {ll : List (List Nat)} (h : ∀ b ∈ ll, Bytes b) : Bytes ll.flatten := by
  induction ll with
  | nil => exact nil_bytes
  | cons x r ih => rw [List.flatten_cons]; exact (h x List.mem_cons_self).append (ih fun b hb => h b (List.mem_cons_of_mem _ hb))
theorem catTo_bytes {ll : List (List Nat)} (h : ∀ b ∈ ll, Bytes b) (i : Nat) : Bytes (catTo ll i) := bytes_flat fun b hb => h b (List.mem_of_mem_take hb)

set_option maxRecDepth 100000 in
set_option maxHeartbeats 4000000 in
theorem ksum_any (O I : List Nat) (ll : List (List Nat)) (V : Nat → Value) (v : Value) (w : World) (hO : Bytes O) (hI : Bytes I) (hr : RootsAt w) (hv : RowsV v w V ll) (hn : O.length < 1000000 ∧ I.length + ll.flatten.length < 1000000000) (hlen : ll.length < 1000000) :
    Calls Tryd.prog 23 #[.agg (dgs O ++ dgs I), v] w fun e w' => e = .returned (.agg (ints .u8 (sumL (O ++ sumL (I ++ ll.flatten))))) ∧ Below w.heap.size w w' := by
  have KR : Kept _ := ⟨hr⟩
  have KO : Kept _ := ⟨hO⟩
  have KI : Kept _ := ⟨hI⟩
  have KV : Kept _ := ⟨hv⟩
  have KN : Kept _ := ⟨hn⟩
  obtain ⟨p, c, rfl, hlc, hp, hel⟩ := hv
  have YL : Kept (∀ b ∈ ll, Bytes b) := ⟨fun b hb => by obtain ⟨j, hj, e⟩ := List.getElem_of_mem hb; exact (hel j b (by rw [List.getElem?_eq_getElem hj, e])).2.1⟩
  have KE : Kept _ := ⟨hel⟩
  have KP : Kept _ := ⟨hp⟩
  obtain ⟨n, hnn⟩ : ∃ n, n = ll.length := ⟨_, rfl⟩
  have EN : Kept _ := ⟨hnn⟩
  have n62 : n < 1000000 := by rw [hnn]; exact hlen
  rw [← hnn]
  obtain ⟨DO, hDO⟩ : ∃ D, D = dgs O := ⟨_, rfl⟩
  have EO : Kept _ := ⟨hDO⟩
  have LO : Kept (DO.size = 73) := ⟨by rw [hDO]; exact dgs_size hO⟩
  have SO : Kept ((Tryd.prog.info? 53).map (·.size) = some DO.size) := ⟨by rw [hDO]; exact dgs_info hO⟩
  obtain ⟨L1, hL1⟩ : ∃ L, L = sumL (I ++ ll.flatten) := ⟨_, rfl⟩
  obtain ⟨L, hL⟩ : ∃ L, L = sumL (O ++ L1) := ⟨_, rfl⟩
  rw [← hL1, ← hL, ← hDO]
  have EL1 : Kept _ := ⟨hL1⟩
  have EL : Kept _ := ⟨hL⟩
  have LL1 : Kept (L1.length = 32) := ⟨by rw [hL1]; exact sumL_len _⟩
  have LL : Kept (L.length = 32) := ⟨by rw [hL]; exact sumL_len _⟩
  have A0 : Blk ((w.alloc (.cells (DO ++ dgs I) 55)).alloc (.cells #[.int .u8 0, .int .u8 0, .int .u8 0, .int .u8 0, .int .u8 0, .int .u8 0, .int .u8 0, .int .u8 0, .int .u8 0, .int .u8 0, .int .u8 0, .int .u8 0, .int .u8 0, .int .u8 0, .int .u8 0, .int .u8 0, .int .u8 0, .int .u8 0, .int .u8 0, .int .u8 0, .int .u8 0, .int .u8 0, .int .u8 0, .int .u8 0, .int .u8 0, .int .u8 0, .int .u8 0, .int .u8 0, .int .u8 0, .int .u8 0, .int .u8 0, .int .u8 0] 24)) w.heap.size 55 (DO ++ dgs (I ++ catTo ll 0)) := by rw [show I ++ catTo ll 0 = I from by simp [catTo]]; exact (blk_new w _ _).alloc _
  have A1 : Blk ((w.alloc (.cells (DO ++ dgs I) 55)).alloc (.cells #[.int .u8 0, .int .u8 0, .int .u8 0, .int .u8 0, .int .u8 0, .int .u8 0, .int .u8 0, .int .u8 0, .int .u8 0, .int .u8 0, .int .u8 0, .int .u8 0, .int .u8 0, .int .u8 0, .int .u8 0, .int .u8 0, .int .u8 0, .int .u8 0, .int .u8 0, .int .u8 0, .int .u8 0, .int .u8 0, .int .u8 0, .int .u8 0, .int .u8 0, .int .u8 0, .int .u8 0, .int .u8 0, .int .u8 0, .int .u8 0, .int .u8 0, .int .u8 0] 24)) (w.heap.size + 1) 24 #[.int .u8 0, .int .u8 0, .int .u8 0, .int .u8 0, .int .u8 0, .int .u8 0, .int .u8 0, .int .u8 0, .int .u8 0, .int .u8 0, .int .u8 0, .int .u8 0, .int .u8 0, .int .u8 0, .int .u8 0, .int .u8 0, .int .u8 0, .int .u8 0, .int .u8 0, .int .u8 0, .int .u8 0, .int .u8 0, .int .u8 0, .int .u8 0, .int .u8 0, .int .u8 0, .int .u8 0, .int .u8 0, .int .u8 0, .int .u8 0, .int .u8 0, .int .u8 0] := blk_top _ _ _ _ (by simp)
  have Q0 : Below w.heap.size w ((w.alloc (.cells (DO ++ dgs I) 55)).alloc (.cells #[.int .u8 0, .int .u8 0, .int .u8 0, .int .u8 0, .int .u8 0, .int .u8 0, .int .u8 0, .int .u8 0, .int .u8 0, .int .u8 0, .int .u8 0, .int .u8 0, .int .u8 0, .int .u8 0, .int .u8 0, .int .u8 0, .int .u8 0, .int .u8 0, .int .u8 0, .int .u8 0, .int .u8 0, .int .u8 0, .int .u8 0, .int .u8 0, .int .u8 0, .int .u8 0, .int .u8 0, .int .u8 0, .int .u8 0, .int .u8 0, .int .u8 0, .int .u8 0] 24)) := ((Below.refl _ _).alloc (Nat.le_refl _) _).alloc (by simp) _
  obtain ⟨DI, hDI⟩ : ∃ D, D = dgs I := ⟨_, rfl⟩
  rw [← hDI] at A0 A1 Q0 ⊢
  clear hr hO hI hL1 hL hDO hDI hel hp hnn hn hlen
  go_enter Tryd.func23, Tryd.ntmps23
  go_wp2_with fail
  generalize hW : (w.alloc (.cells (DO ++ DI) 55)).alloc (.cells #[.int .u8 0, .int .u8 0, .int .u8 0, .int .u8 0, .int .u8 0, .int .u8 0, .int .u8 0, .int .u8 0, .int .u8 0, .int .u8 0, .int .u8 0, .int .u8 0, .int .u8 0, .int .u8 0, .int .u8 0, .int .u8 0, .int .u8 0, .int .u8 0, .int .u8 0, .int .u8 0, .int .u8 0, .int .u8 0, .int .u8 0, .int .u8 0, .int .u8 0, .int .u8 0, .int .u8 0, .int .u8 0, .int .u8 0, .int .u8 0, .int .u8 0, .int .u8 0] 24) = wa at *
  clear hW
  go_loopg [10] n (fun k s10 wr => ∃ i : Nat, i + k = n ∧ s10 = .int .i64 (i : Int) ∧ Below w.heap.size w wr ∧ Blk wr w.heap.size 55 (DO ++ dgs (I ++ catTo ll i)) ∧ Blk wr (w.heap.size + 1) 24 #[.int .u8 0, .int .u8 0, .int .u8 0, .int .u8 0, .int .u8 0, .int .u8 0, .int .u8 0, .int .u8 0, .int .u8 0, .int .u8 0, .int .u8 0, .int .u8 0, .int .u8 0, .int .u8 0, .int .u8 0, .int .u8 0, .int .u8 0, .int .u8 0, .int .u8 0, .int .u8 0, .int .u8 0, .int .u8 0, .int .u8 0, .int .u8 0, .int .u8 0, .int .u8 0, .int .u8 0, .int .u8 0, .int .u8 0, .int .u8 0, .int .u8 0, .int .u8 0])
  case atStart => exact ⟨0, by omega, rfl, Q0, A0, A1⟩
  case round =>
    clear A0 A1 Q0
    obtain ⟨i, hik, rfl, HB, A0, A1⟩ := hrel
    have YI : Kept (Bytes (I ++ catTo ll i)) := ⟨KI.out.append (catTo_bytes YL.out i)⟩
    have NI : Kept ((I ++ catTo ll i).length < 1000000000) := ⟨by rw [List.length_append]; have := catTo_len ll i; have := KN.out.2; omega⟩
    obtain ⟨D1, hD1⟩ : ∃ D, D = dgs (I ++ catTo ll i) := ⟨_, rfl⟩
    have E1 : Kept _ := ⟨hD1⟩
    have S1 : Kept ((Tryd.prog.info? 53).map (·.size) = some D1.size) := ⟨by rw [hD1]; exact dgs_info YI.out⟩
    have L73 : Kept (D1.size = 73) := ⟨by rw [hD1]; exact dgs_size YI.out⟩
    have HP1 : Kept (∀ (j : Nat) (v : Value), D1[j]? = some v → (DO ++ D1)[73 + j]? = some v) := ⟨part_second DO D1 73 LO.out⟩
    have HP0 : Kept (∀ (j : Nat) (v : Value), DO[j]? = some v → (DO ++ D1)[0 + j]? = some v) := ⟨part_first DO D1⟩
    rw [← hD1] at A0
    clear hD1
    by_cases hi : i < n
    case pos =>
      have hi' : (i : Int) < (n : Int) := by omega
      obtain ⟨b, hb⟩ : ∃ b, ll[i]? = some b := ⟨_, List.getElem?_eq_getElem (by have := EN.out; omega)⟩
      obtain ⟨VB, YB, _⟩ := KE.out i b hb
      obtain ⟨A, rfl, hAl, hAc⟩ := KP.out (by intro e; have := EN.out; rw [e] at this; simp at this; omega)
      have hc : wr.cell? (A.add i) = some (V i) := by rw [HB.cell (by rw [add_block]; exact hAl)]; exact hAc i (by have := EN.out; omega)
      have NB : Kept ((I ++ catTo ll i).length + b.length < 1000000000) := ⟨by have h := catTo_len ll (i + 1); rw [catTo_succ ll i b hb, List.length_append] at h; rw [List.length_append]; have := KN.out.2; omega⟩
      obtain ⟨D2, hD2⟩ : ∃ D, D = dgs (I ++ catTo ll (i + 1)) := ⟨_, rfl⟩
      have Y2 : Bytes (I ++ catTo ll (i + 1)) := KI.out.append (catTo_bytes YL.out (i + 1))
      have S2 : Kept ((Tryd.prog.info? 53).map (·.size) = some D2.size) := ⟨by rw [hD2]; exact dgs_info Y2⟩
      have L2 : Kept (D2.size = 73) := ⟨by rw [hD2]; exact dgs_size Y2⟩
      have O2 : Kept (D2.all (·.oneCell') = true) := ⟨by rw [hD2]; exact dgs_one _⟩
      have C0 : Kept (Calls Tryd.prog 27 #[.agg D1, V i] wr fun e w' => e = .returned (.agg D2) ∧ Below wr.heap.size wr w') := ⟨by
        rw [E1.out, hD2, catTo_succ ll i b hb, ← List.append_assoc]
        exact cWrite YI.out YB NB.out (KR.out.below KR.out.1 HB) (VB.under HB)⟩
      have E2 : Kept _ := ⟨hD2⟩
      clear hD2 Y2 hb VB YB
      obtain ⟨Vi, hVi⟩ : ∃ u, u = V i := ⟨_, rfl⟩
      rw [← hVi] at hc C0
      clear hVi
      go_wp2_with (first | ((with_reducible refine wv_val (d := 12) ?hd ?hw (.pointer (some (A.add i))) ?hr ?_); (case hd => rfl); (case hw => kernel_rfl); (case hr => intro w; exact run_idxS (l := n) (c := c) rfl (by kernel_rfl) (by kernel_rfl) Tryd.underlying70 hi sz_bytes w); simp only [Act.put, List.setIfInBounds_toArray, List.set_cons_succ, List.set_cons_zero]) | ((with_reducible refine wv_elem (d := 13) ?hd ?hw 22 ag_bytes (.tmp 12) ?ho (A.add i) ?hx Vi ?hg ?_); (case hd => rfl); (case hw => kernel_rfl); (case ho => rfl); (case hx => first | rfl | kernel_rfl); (case hg => exact hc); simp only [Act.put, List.setIfInBounds_toArray, List.set_cons_succ, List.set_cons_zero]) | ((with_reducible refine wv_partS (d := 15) ?hd ?hw 53 (.tmp 14) ?ho w.heap.size 73 ?hx (t' := 55) (DO ++ D1) (D1) _ Tryd.underlying53 ?hs ?hg ?hp ?_); (case hd => rfl); (case hw => kernel_rfl); (case ho => rfl); (case hx => kernel_rfl); (case hs => exact S1.out); (case hg => exact A0); (case hp => exact HP1.out); simp only [Act.put, List.setIfInBounds_toArray, List.set_cons_succ, List.set_cons_zero]))
      refine C0.out.mono ?_
      rintro e w4 ⟨rfl, hb4⟩
      have A04 := A0.under hb4
      have A14 := A1.under hb4
      have HB4 := HB.trans (hb4.mono HB.size)
      clear A0 A1 HB hb4 C0 hc hAc
      go_wp2_with (first | (refine wl_setPart rfl 53 (.tmp 18) (.tmp 17) rfl w.heap.size 73 D2 rfl rfl _ A04 (by rw [Array.size_append, LO.out, L73.out, L2.out]; decide) S2.out O2.out ?_))
      intro w5 A5 P5
      have A5 : Blk w5 w.heap.size 55 (DO ++ dgs (I ++ catTo ll (i + 1))) := by
        try rw [Array.toList_append] at A5
        rw [splice_behind _ _ _ 73 (by simp [LO.out]) (by simp [L73.out, L2.out]), E2.out] at A5
        rw [show DO ++ dgs (I ++ catTo ll (i + 1)) = (DO.toList ++ (dgs (I ++ catTo ll (i + 1))).toList).toArray from by simp]
        exact A5
      have A15 := P5.blk A14 (by omega)
      have HB5 := HB4.trans (P5.below (Nat.le_refl _))
      clear A04 A14 HB4 P5 E2 S2 L2 O2
      go_wp2_with fail
      go_roundg (gk - 1)
      case measure => omega
      case rel => exact ⟨i + 1, by omega, by simp, HB5, A5, A15⟩
    case neg =>
      have hi' : ¬ (i : Int) < (n : Int) := by omega
      have C0 : Kept (Calls Tryd.prog 28 #[.agg D1] wr fun e w' => e = .returned (.agg (ints .u8 L1)) ∧ Below wr.heap.size wr w') := ⟨by
        rw [E1.out, EL1.out, ← catTo_all ll i (by have := EN.out; omega)]
        exact cDSum YI.out NI.out (KR.out.below KR.out.1 HB)⟩
      go_wp2_with (first | ((with_reducible refine wv_partS (d := 21) ?hd ?hw 53 (.tmp 20) ?ho w.heap.size 73 ?hx (t' := 55) (DO ++ D1) (D1) _ Tryd.underlying53 ?hs ?hg ?hp ?_); (case hd => rfl); (case hw => kernel_rfl); (case ho => rfl); (case hx => kernel_rfl); (case hs => exact S1.out); (case hg => exact A0); (case hp => exact HP1.out); simp only [Act.put, List.setIfInBounds_toArray, List.set_cons_succ, List.set_cons_zero]))
      refine C0.out.mono ?_
      rintro e w4 ⟨rfl, hb4⟩
      have A04 := A0.under hb4
      have A14 := A1.under hb4
      have HB4 := HB.trans (hb4.mono HB.size)
      have sz4 : w.heap.size + 1 < w4.heap.size := A14.lt
      clear A0 A1 HB hb4 C0
      go_wp2_with (first | (refine wl_store rfl 24 (.tmp 7) (.tmp 22) rfl w4.heap.size (ints .u8 L1) rfl rfl _ (blk_new w4 _ _) (by rw [ints_size, LL1.out]; exact t32_info) (by rw [ints_size, LL1.out]; rfl) (ints_one _ _) ?_))
      intro w5 A7 P5
      have A5 := P5.blk (A04.alloc _) (by omega)
      have A15 := P5.blk (A14.alloc _) (by omega)
      have HB5 := (HB4.alloc HB4.size _).trans (P5.below HB4.size)
      generalize hg7 : w4.heap.size = g7 at *
      clear A04 A14 HB4 P5 hg7
      have V7 : Kept (BytesV (.slice (some ⟨g7, 0, none⟩) 32 32) w5 L1) := ⟨arr_bytes A7 LL1.out⟩
      have RR : Kept (∀ w', Below w5.heap.size w5 w' → RootsAt w') := ⟨fun w' hb => (KR.out.below KR.out.1 HB5).under hb⟩
      obtain ⟨DX, hDX⟩ : ∃ D, D = dgs (O ++ L1) := ⟨_, rfl⟩
      have YL1 : Kept (Bytes L1) := ⟨by rw [EL1.out]; exact sumL_bytes _⟩
      have NX : (O ++ L1).length < 1000000000 := by rw [List.length_append, LL1.out]; have := KN.out.1; omega
      have C1 : Kept (∀ w', Below w5.heap.size w5 w' → Calls Tryd.prog 27 [.agg DO, .slice (some ⟨g7, 0, none⟩) 32 32].toArray w' fun e w2 => e = .returned (.agg DX) ∧ Below w'.heap.size w' w2) := ⟨fun w' hb => by
        rw [EO.out, hDX]
        exact cWrite KO.out YL1.out (by rw [← List.length_append]; exact NX) (RR.out w' hb) (V7.out.under hb)⟩
      have C2 : Kept (∀ w', Below w5.heap.size w5 w' → Calls Tryd.prog 28 [.agg DX].toArray w' fun e w2 => e = .returned (.agg (ints .u8 L)) ∧ Below w'.heap.size w' w2) := ⟨fun w' hb => by
        rw [hDX, EL.out]
        exact cDSum (KO.out.append YL1.out) NX (RR.out w' hb)⟩
      clear hDX A7 V7 NX
      go_wp2_with fail
      refine region_ownL w5 5 [(23, .pointer (some ⟨w.heap.size, 0, none⟩)), (24, .agg DO), (25, .slice (some ⟨g7, 0, none⟩) 32 32), (26, .agg DX), (27, .agg (ints .u8 L))] [] [] [] rfl (by kernel_rfl) (by kernel_rfl) (by kernel_rfl) (by kernel_rfl) (by kernel_rfl) (by kernel_rfl) (by kernel_rfl) (by kernel_rfl) (by kernel_rfl) (by kernel_rfl) (by kernel_rfl) ?hst1 ?hst2 (Below.refl _ _) (fun hA => ⟨ow_val hA (wants_none rfl) 23 (.pointer (some ⟨w.heap.size, 0, none⟩)) (by kernel_rfl) rfl rfl rfl rfl (by kernel_rfl) (fun w => by kernel_rfl), ow_partS hA (wants_none rfl) 24 (.agg DO) (by kernel_rfl) rfl rfl rfl rfl (by kernel_rfl) 53 (.tmp 23) rfl w.heap.size 0 (by kernel_rfl) 55 (DO ++ D1) DO _ Tryd.underlying53 SO.out (fun w1 hb => Blk.under A5 hb) HP0.out rfl, ow_val hA (wants_none rfl) 25 (.slice (some ⟨g7, 0, none⟩) 32 32) (by kernel_rfl) rfl rfl rfl rfl (by kernel_rfl) (fun w => by kernel_rfl), ow_calld hA (wants_none rfl) 26 (.agg DX) (by kernel_rfl) rfl rfl rfl rfl (by kernel_rfl) 27 Tryd.f27 _ [.tmp 24, .tmp 25] _ [.agg DO, .slice (some ⟨g7, 0, none⟩) 32 32] rfl (by kernel_rfl) Tryd.func27 (by kernel_rfl) rfl (fun w1 hb => C1.out w1 hb), ow_calld hA (wants_none rfl) 27 (.agg (ints .u8 L)) (by kernel_rfl) rfl rfl rfl rfl (by kernel_rfl) 28 Tryd.f28 _ [.tmp 26] _ [.agg DX] rfl (by kernel_rfl) Tryd.func28 (by kernel_rfl) rfl (fun w1 hb => C2.out w1 hb), trivial⟩) ?_
      case hst1 => intro q hq; cases hq
      case hst2 => intro q hq; cases hq
      intro fv w6 hf hD hb6
      simp only [putR, List.foldl_cons, List.foldl_nil, List.map_cons, List.map_nil, Act.put, List.setIfInBounds_toArray, List.set_cons_succ, List.set_cons_zero]
      have A16 := A15.under hb6
      have HB6 := HB5.trans (hb6.mono HB5.size)
      clear hf hD C1 C2 A5 A15 HB5 hb6
      refine wl_store rfl 24 (.tmp 4) (.tmp 27) rfl (w.heap.size + 1) (ints .u8 L) (by kernel_rfl) (by kernel_rfl) _ A16 (by rw [ints_size, LL.out]; exact t32_info) (by rw [ints_size, LL.out]; rfl) (ints_one _ _) ?_
      intro w7 A8 P8
      go_wp2
      exact bodyPost_ret (v := .agg (ints .u8 L)) (results_cell_row Tryd.results23 _ _ _ 24 (ints .u8 L) (0, 0) _ rfl A8 Tryd.underlying24 rfl (by rw [ints_size, LL.out]; exact t32_info)) rfl ⟨rfl, HB6.trans (P8.below (by omega))⟩
end Go.Proofs.YthnkipicehppmaaDoor.sh
/-
  HMAC of a key and bytes: mac.Sum, mac.Extract.
-/
namespace Go.Proofs.YthnkipicehppmaaDoor.sh
open Go Go.RowKit
set_option linter.unusedVariables false
set_option linter.unusedSimpArgs false

theorem rowsV_of {w : World} {g n : Nat} {t : TypeId} (vs : List Value) (ll : List (List Nat)) (hlen : vs.length = ll.length) (hn : ll.length = n) (hg : Blk w g t vs.toArray) (h : ∀ (j : Nat) (v : Value) (bs : List Nat), vs[j]? = some v → ll[j]? = some bs → BytesV v w bs ∧ Bytes bs ∧ bs.length ≤ maxLen) :
    RowsV (.slice (some ⟨g, 0, none⟩) n n) w (fun j => vs.getD j undef) ll := by
  subst hn
  refine ⟨_, _, rfl, Nat.le_refl _, fun _ => ⟨_, rfl, hg.lt, fun j hj => ?_⟩, fun j bs hj => ?_⟩
  · rw [addr_add, Nat.zero_add]
    exact hg.cell (by simp [List.getD_eq_getElem?_getD, show j < vs.length from by omega])
  · have hjl := (List.getElem?_eq_some_iff.1 hj).1
    exact h j _ bs (by simp [List.getD_eq_getElem?_getD, show j < vs.length from by omega]) hj

set_option maxRecDepth 100000 in
set_option maxHeartbeats 2000000 in
theorem mSum_any (k b : List Nat) (vk vb : Value) (w : World) (hk : Bytes k) (hkn : k.length < 1000000000) (hb : Bytes b) (hbn : b.length < 900000000) (hr : RootsAt w) (hvk : BytesV vk w k) (hvb : BytesV vb w b) :
    Calls Tryd.prog 12 #[vk, vb] w fun e w' => e = .returned (.agg (ints .u8 (macL k b))) ∧ Below w.heap.size w w' := by
  have KR : Kept _ := ⟨hr⟩
  have KB : Kept _ := ⟨hb⟩
  have KN : Kept _ := ⟨hbn⟩
  have KV : Kept _ := ⟨hvb⟩
  obtain ⟨pb, cb, eb, _, _⟩ := hvb
  obtain ⟨nb, hnb⟩ : ∃ n, n = b.length := ⟨_, rfl⟩
  rw [← hnb] at eb
  clear hnb
  subst eb
  obtain ⟨O, hO⟩ : ∃ P, P = xorL 92 (padL k) := ⟨_, rfl⟩
  obtain ⟨I, hI⟩ : ∃ P, P = xorL 54 (padL k) := ⟨_, rfl⟩
  have YO : Kept (Bytes O) := ⟨by rw [hO]; exact xorL_bytes (padL_bytes hk) (by decide)⟩
  have YI : Kept (Bytes I) := ⟨by rw [hI]; exact xorL_bytes (padL_bytes hk) (by decide)⟩
  have LO : Kept (O.length = 64) := ⟨by rw [hO, xorL_len]; exact padL_len k⟩
  have LI : Kept (I.length = 64) := ⟨by rw [hI, xorL_len]; exact padL_len k⟩
  obtain ⟨L, hL⟩ : ∃ L, L = macL k b := ⟨_, rfl⟩
  have EL : Kept (L = sumL (O ++ sumL (I ++ [b].flatten))) := ⟨by rw [hL, hO, hI]; simp [macL]⟩
  have LL : Kept (L.length = 32) := ⟨by rw [hL]; exact macL_len k b⟩
  rw [← hL]
  obtain ⟨D, hD⟩ : ∃ D, D = dgs O ++ dgs I := ⟨_, rfl⟩
  have ED : Kept _ := ⟨hD⟩
  have A0 : Blk (w.alloc (.cells #[.int .u8 0, .int .u8 0, .int .u8 0, .int .u8 0, .int .u8 0, .int .u8 0, .int .u8 0, .int .u8 0, .int .u8 0, .int .u8 0, .int .u8 0, .int .u8 0, .int .u8 0, .int .u8 0, .int .u8 0, .int .u8 0, .int .u8 0, .int .u8 0, .int .u8 0, .int .u8 0, .int .u8 0, .int .u8 0, .int .u8 0, .int .u8 0, .int .u8 0, .int .u8 0, .int .u8 0, .int .u8 0, .int .u8 0, .int .u8 0, .int .u8 0, .int .u8 0] 24)) w.heap.size 24 #[.int .u8 0, .int .u8 0, .int .u8 0, .int .u8 0, .int .u8 0, .int .u8 0, .int .u8 0, .int .u8 0, .int .u8 0, .int .u8 0, .int .u8 0, .int .u8 0, .int .u8 0, .int .u8 0, .int .u8 0, .int .u8 0, .int .u8 0, .int .u8 0, .int .u8 0, .int .u8 0, .int .u8 0, .int .u8 0, .int .u8 0, .int .u8 0, .int .u8 0, .int .u8 0, .int .u8 0, .int .u8 0, .int .u8 0, .int .u8 0, .int .u8 0, .int .u8 0] := blk_new w _ _
  have Q0 : Below w.heap.size w (w.alloc (.cells #[.int .u8 0, .int .u8 0, .int .u8 0, .int .u8 0, .int .u8 0, .int .u8 0, .int .u8 0, .int .u8 0, .int .u8 0, .int .u8 0, .int .u8 0, .int .u8 0, .int .u8 0, .int .u8 0, .int .u8 0, .int .u8 0, .int .u8 0, .int .u8 0, .int .u8 0, .int .u8 0, .int .u8 0, .int .u8 0, .int .u8 0, .int .u8 0, .int .u8 0, .int .u8 0, .int .u8 0, .int .u8 0, .int .u8 0, .int .u8 0, .int .u8 0, .int .u8 0] 24)) := (Below.refl _ _).alloc (Nat.le_refl _) _
  have C0 : Kept (Calls Tryd.prog 22 #[vk] (w.alloc (.cells #[.int .u8 0, .int .u8 0, .int .u8 0, .int .u8 0, .int .u8 0, .int .u8 0, .int .u8 0, .int .u8 0, .int .u8 0, .int .u8 0, .int .u8 0, .int .u8 0, .int .u8 0, .int .u8 0, .int .u8 0, .int .u8 0, .int .u8 0, .int .u8 0, .int .u8 0, .int .u8 0, .int .u8 0, .int .u8 0, .int .u8 0, .int .u8 0, .int .u8 0, .int .u8 0, .int .u8 0, .int .u8 0, .int .u8 0, .int .u8 0, .int .u8 0, .int .u8 0] 24)) fun e w' => e = .returned (.agg D) ∧ Below (w.alloc (.cells #[.int .u8 0, .int .u8 0, .int .u8 0, .int .u8 0, .int .u8 0, .int .u8 0, .int .u8 0, .int .u8 0, .int .u8 0, .int .u8 0, .int .u8 0, .int .u8 0, .int .u8 0, .int .u8 0, .int .u8 0, .int .u8 0, .int .u8 0, .int .u8 0, .int .u8 0, .int .u8 0, .int .u8 0, .int .u8 0, .int .u8 0, .int .u8 0, .int .u8 0, .int .u8 0, .int .u8 0, .int .u8 0, .int .u8 0, .int .u8 0, .int .u8 0, .int .u8 0] 24)).heap.size (w.alloc (.cells #[.int .u8 0, .int .u8 0, .int .u8 0, .int .u8 0, .int .u8 0, .int .u8 0, .int .u8 0, .int .u8 0, .int .u8 0, .int .u8 0, .int .u8 0, .int .u8 0, .int .u8 0, .int .u8 0, .int .u8 0, .int .u8 0, .int .u8 0, .int .u8 0, .int .u8 0, .int .u8 0, .int .u8 0, .int .u8 0, .int .u8 0, .int .u8 0, .int .u8 0, .int .u8 0, .int .u8 0, .int .u8 0, .int .u8 0, .int .u8 0, .int .u8 0, .int .u8 0] 24)) w') := ⟨by rw [hD, hO, hI]; exact keyedBy_any k vk _ hk hkn (hr.below hr.1 Q0) (hvk.under Q0)⟩
  clear hr hb hbn hvk hk hkn hO hI hL hD
  go_enter Tryd.func12, Tryd.ntmps12
  go_wp2_with fail
  refine C0.out.mono ?_
  rintro e w1 ⟨rfl, hb1⟩
  have A1 := A0.under hb1
  have Q1 := Q0.trans (hb1.mono Q0.size)
  clear hb1 A0 Q0 C0
  go_wp2_with fail
  have A2 := A1.alloc (.cells #[.slice pb nb cb] 22)
  have Q2 : Below w.heap.size w (w1.alloc (.cells #[.slice pb nb cb] 22)) := Q1.alloc Q1.size _
  have RV : Kept (RowsV (.slice (some ⟨w1.heap.size, 0, none⟩) 1 1) (w1.alloc (.cells #[.slice pb nb cb] 22)) (fun j => [.slice pb nb cb].getD j undef) [b]) := ⟨rowsV_of (t := 22) [.slice pb nb cb] [b] rfl rfl (blk_new w1 _ _) (fun j v bs h1 h2 => by
    rcases j with _ | j <;> simp at h1 h2
    subst h1 h2
    exact ⟨KV.out.under Q2, KB.out, Nat.le_of_lt (Nat.lt_of_lt_of_le KN.out (by decide))⟩)⟩
  have C1 : Kept (Calls Tryd.prog 23 #[.agg D, .slice (some ⟨w1.heap.size, 0, none⟩) 1 1] (w1.alloc (.cells #[.slice pb nb cb] 22)) fun e w' => e = .returned (.agg (ints .u8 L)) ∧ Below (w1.alloc (.cells #[.slice pb nb cb] 22)).heap.size (w1.alloc (.cells #[.slice pb nb cb] 22)) w') := ⟨by
    rw [ED.out, EL.out]
    exact ksum_any O I [b] _ _ _ YO.out YI.out (KR.out.below KR.out.1 Q2) RV.out ⟨by rw [LO.out]; decide, by rw [LI.out]; simp; have := KN.out; omega⟩ (by simp)⟩
  refine C1.out.mono ?_
  rintro e w3 ⟨rfl, hb3⟩
  have A3 := A2.under hb3
  have Q3 := Q2.trans (hb3.mono Q2.size)
  clear hb3 A1 A2 Q1 Q2 C1 RV
  go_wp2_with (first | (refine wl_store rfl 24 (.tmp 4) (.tmp 9) rfl w.heap.size (ints .u8 L) rfl rfl _ A3 (by rw [ints_size, LL.out]; exact t32_info) (by rw [ints_size, LL.out]; rfl) (ints_one _ _) ?_))
  intro w4 A4 P4
  go_wp2
  exact bodyPost_ret (v := .agg (ints .u8 L)) (results_cell_row Tryd.results12 _ _ _ 24 (ints .u8 L) (0, 0) _ rfl A4 Tryd.underlying24 rfl (by rw [ints_size, LL.out]; exact t32_info)) rfl ⟨rfl, Q3.trans (P4.below (Nat.le_refl _))⟩

set_option maxRecDepth 100000 in
set_option maxHeartbeats 2000000 in
theorem mExtract_any (k b : List Nat) (vk vb : Value) (w : World) (hk : Bytes k) (hkn : k.length < 1000000000) (hb : Bytes b) (hbn : b.length < 900000000) (hr : RootsAt w) (hvk : BytesV vk w k) (hvb : BytesV vb w b) :
    Calls Tryd.prog 13 #[vk, vb] w fun e w' => e = .returned (.agg (ints .u8 (macL k b))) ∧ Below w.heap.size w w' := by
  obtain ⟨L, hL⟩ : ∃ L, L = macL k b := ⟨_, rfl⟩
  have LL : Kept (L.length = 32) := ⟨by rw [hL]; exact macL_len k b⟩
  have A0 : Blk (w.alloc (.cells #[.int .u8 0, .int .u8 0, .int .u8 0, .int .u8 0, .int .u8 0, .int .u8 0, .int .u8 0, .int .u8 0, .int .u8 0, .int .u8 0, .int .u8 0, .int .u8 0, .int .u8 0, .int .u8 0, .int .u8 0, .int .u8 0, .int .u8 0, .int .u8 0, .int .u8 0, .int .u8 0, .int .u8 0, .int .u8 0, .int .u8 0, .int .u8 0, .int .u8 0, .int .u8 0, .int .u8 0, .int .u8 0, .int .u8 0, .int .u8 0, .int .u8 0, .int .u8 0] 24)) w.heap.size 24 #[.int .u8 0, .int .u8 0, .int .u8 0, .int .u8 0, .int .u8 0, .int .u8 0, .int .u8 0, .int .u8 0, .int .u8 0, .int .u8 0, .int .u8 0, .int .u8 0, .int .u8 0, .int .u8 0, .int .u8 0, .int .u8 0, .int .u8 0, .int .u8 0, .int .u8 0, .int .u8 0, .int .u8 0, .int .u8 0, .int .u8 0, .int .u8 0, .int .u8 0, .int .u8 0, .int .u8 0, .int .u8 0, .int .u8 0, .int .u8 0, .int .u8 0, .int .u8 0] := blk_new w _ _
  have Q0 : Below w.heap.size w (w.alloc (.cells #[.int .u8 0, .int .u8 0, .int .u8 0, .int .u8 0, .int .u8 0, .int .u8 0, .int .u8 0, .int .u8 0, .int .u8 0, .int .u8 0, .int .u8 0, .int .u8 0, .int .u8 0, .int .u8 0, .int .u8 0, .int .u8 0, .int .u8 0, .int .u8 0, .int .u8 0, .int .u8 0, .int .u8 0, .int .u8 0, .int .u8 0, .int .u8 0, .int .u8 0, .int .u8 0, .int .u8 0, .int .u8 0, .int .u8 0, .int .u8 0, .int .u8 0, .int .u8 0] 24)) := (Below.refl _ _).alloc (Nat.le_refl _) _
  have C0 : Kept (Calls Tryd.prog 12 #[vk, vb] (w.alloc (.cells #[.int .u8 0, .int .u8 0, .int .u8 0, .int .u8 0, .int .u8 0, .int .u8 0, .int .u8 0, .int .u8 0, .int .u8 0, .int .u8 0, .int .u8 0, .int .u8 0, .int .u8 0, .int .u8 0, .int .u8 0, .int .u8 0, .int .u8 0, .int .u8 0, .int .u8 0, .int .u8 0, .int .u8 0, .int .u8 0, .int .u8 0, .int .u8 0, .int .u8 0, .int .u8 0, .int .u8 0, .int .u8 0, .int .u8 0, .int .u8 0, .int .u8 0, .int .u8 0] 24)) fun e w' => e = .returned (.agg (ints .u8 L)) ∧ Below (w.alloc (.cells #[.int .u8 0, .int .u8 0, .int .u8 0, .int .u8 0, .int .u8 0, .int .u8 0, .int .u8 0, .int .u8 0, .int .u8 0, .int .u8 0, .int .u8 0, .int .u8 0, .int .u8 0, .int .u8 0, .int .u8 0, .int .u8 0, .int .u8 0, .int .u8 0, .int .u8 0, .int .u8 0, .int .u8 0, .int .u8 0, .int .u8 0, .int .u8 0, .int .u8 0, .int .u8 0, .int .u8 0, .int .u8 0, .int .u8 0, .int .u8 0, .int .u8 0, .int .u8 0] 24)).heap.size (w.alloc (.cells #[.int .u8 0, .int .u8 0, .int .u8 0, .int .u8 0, .int .u8 0, .int .u8 0, .int .u8 0, .int .u8 0, .int .u8 0, .int .u8 0, .int .u8 0, .int .u8 0, .int .u8 0, .int .u8 0, .int .u8 0, .int .u8 0, .int .u8 0, .int .u8 0, .int .u8 0, .int .u8 0, .int .u8 0, .int .u8 0, .int .u8 0, .int .u8 0, .int .u8 0, .int .u8 0, .int .u8 0, .int .u8 0, .int .u8 0, .int .u8 0, .int .u8 0, .int .u8 0] 24)) w') := ⟨by rw [hL]; exact mSum_any k b vk vb _ hk hkn hb hbn (hr.below hr.1 Q0) (hvk.under Q0) (hvb.under Q0)⟩
  rw [← hL]
  clear hr hb hbn hvb hvk hk hkn hL
  go_enter Tryd.func13, Tryd.ntmps13
  go_wp2_with fail
  refine C0.out.mono ?_
  rintro e w1 ⟨rfl, hb1⟩
  have A1 := A0.under hb1
  have Q1 := Q0.trans (hb1.mono Q0.size)
  clear hb1 A0 Q0 C0
  go_wp2_with (first | (refine wl_store rfl 24 (.tmp 4) (.tmp 7) rfl w.heap.size (ints .u8 L) rfl rfl _ A1 (by rw [ints_size, LL.out]; exact t32_info) (by rw [ints_size, LL.out]; rfl) (ints_one _ _) ?_))
  intro w4 A4 P4
  go_wp2
  exact bodyPost_ret (v := .agg (ints .u8 L)) (results_cell_row Tryd.results13 _ _ _ 24 (ints .u8 L) (0, 0) _ rfl A4 Tryd.underlying24 rfl (by rw [ints_size, LL.out]; exact t32_info)) rfl ⟨rfl, Q1.trans (P4.below (Nat.le_refl _))⟩
end Go.Proofs.YthnkipicehppmaaDoor.sh
/-
  HKDF's other half: mac.expanded.
-/
namespace Go.Proofs.YthnkipicehppmaaDoor.sh
open Go Go.RowKit
set_option linter.unusedVariables false
set_option linter.unusedSimpArgs false

/-- HKDF's i-th piece; none ahead of the first. -/
def tL (key info : List Nat) : Nat → List Nat
  | 0 => []
  | i + 1 => macL key (tL key info i ++ (info ++ [(i + 1) % 256]))
theorem tL_succ (key info : List Nat) (i : Nat) : tL key info (i + 1) = macL key (tL key info i ++ (info ++ [(i + 1) % 256])) := rfl
theorem tL_len (key info : List Nat) (i : Nat) : (tL key info (i + 1)).length = 32 := macL_len _ _
theorem tL_le (key info : List Nat) (i : Nat) : (tL key info i).length ≤ 32 := by
  cases i with
  | zero => simp [tL]
  | succ i => rw [tL_len]; exact Nat.le_refl _
theorem tL_bytes (key info : List Nat) (i : Nat) : Bytes (tL key info i) := by
  cases i with
  | zero => exact nil_bytes
  | succ i => exact macL_bytes _ _
/-- The first k pieces, one behind the other. -/
def tsL (key info : List Nat) : Nat → List Nat
  | 0 => []
  | k + 1 => tsL key info k ++ tL key info (k + 1)
theorem tsL_succ (key info : List Nat) (k : Nat) : tsL key info (k + 1) = tsL key info k ++ tL key info (k + 1) := rfl
theorem tsL_len (key info : List Nat) : ∀ k, (tsL key info k).length = 32 * k
  | 0 => rfl
  | k + 1 => by rw [tsL_succ, List.length_append, tsL_len key info k, tL_len]; omega
theorem tsL_bytes (key info : List Nat) : ∀ k, Bytes (tsL key info k)
  | 0 => nil_bytes
  | k + 1 => (tsL_bytes key info k).append (tL_bytes key info (k + 1))
theorem tsL_pre (key info : List Nat) (k : Nat) : ∀ m, ∃ r, tsL key info (k + m) = tsL key info k ++ r
  | 0 => ⟨[], by simp⟩
  | m + 1 => by
    obtain ⟨r, h⟩ := tsL_pre key info k m
    exact ⟨r ++ tL key info (k + m + 1), by rw [← Nat.add_assoc, tsL_succ, h, List.append_assoc]⟩
theorem tsL_take (key info : List Nat) (k m n : Nat) (h : k ≤ m) (hn : n ≤ 32 * k) : (tsL key info m).take n = (tsL key info k).take n := by
  obtain ⟨r, hr⟩ := tsL_pre key info k (m - k)
  rw [show m = k + (m - k) from by omega, hr, List.take_append_of_le_length (by rw [tsL_len]; exact hn)]
/-- What a key is expanded to. -/
def expL (key info : List Nat) (n : Nat) : List Nat := (tsL key info 255).take n
theorem expL_len (key info : List Nat) (n : Nat) (h : n ≤ 8160) : (expL key info n).length = n := by
  unfold expL
  rw [List.length_take, tsL_len]
  omega
theorem expL_bytes (key info : List Nat) (n : Nat) : Bytes (expL key info n) := (tsL_bytes key info 255).take n
theorem expL_of (key info : List Nat) (k n : Nat) (hk : k ≤ 255) (hn : n ≤ 32 * k) : (tsL key info k).take n = expL key info n := (tsL_take key info k 255 n hk hn).symm

theorem run_min2 {o : Oper} {a : Act} {x y : Operand} {m n z : Nat} {ts : Array TypeId} (ho : o.op = .call { callee := .builtin .min, args := #[x, y], argTypes := ts }) (hx : a.eval x = .int .i64 (m : Int)) (hy : a.eval y = .int .i64 (n : Int)) (hz : z = min m n) (w : World) : (execOp a.eval o).run Tryd.prog w = .ok (.value (.int .i64 (z : Int))) w := by
  unfold execOp
  simp only [ho, resolve, invoke, builtin, Sem.run_bind, Sem.run_pure, Result.andThen_ok, List.map_toArray, List.map_cons, List.map_nil, hx, hy, run_min_int2]
  have e : (if (n : Int) < (m : Int) then (n : Int) else (m : Int)) = (z : Int) := by split <;> omega
  rw [e]
theorem run_subV {o : Oper} {a : Act} {x y : Operand} {m n z : Nat} (ho : o.op = .binOp .sub 3 x y 3) (hx : a.eval x = .int .i64 (m : Int)) (hy : a.eval y = .int .i64 (n : Int)) (hle : n ≤ m) (hm : m < 4611686018427387904) (hz : z = m - n) (w : World) : (execOp a.eval o).run Tryd.prog w = .ok (.value (.int .i64 (z : Int))) w := by
  unfold execOp
  simp only [ho, hx, hy]
  simp [go_sem, IntKind.wrap_i64, wrap64]
  omega
theorem run_inc8 {o : Oper} {a : Act} {x : Operand} {m z : Nat} (ho : o.op = .binOp .add 5 x (.const (.int .u8 1)) 5) (hx : a.eval x = .int .u8 (m : Int)) (hz : z = (m + 1) % 256) (w : World) : (execOp a.eval o).run Tryd.prog w = .ok (.value (.int .u8 (z : Int))) w := by
  have e3 : a.eval (.const (.int .u8 1)) = .int .u8 1 := rfl
  unfold execOp
  simp only [ho, hx, e3]
  simp [go_sem, IntKind.wrap_u8', hz]
theorem run_make0 (c : Nat) (hc : c < 1000000) (w : World) : (Instr.makeSlice 22 (.int .i64 0) (.int .i64 (c : Int))).run Tryd.prog w = .ok (.slice (some ⟨w.heap.size, 0, none⟩) 0 c) (w.alloc (.cells (ints .u8 (List.replicate c 0)) 5)) := by
  have hi := info_u8
  cases hq : Tryd.prog.info? 5 with
  | none => rw [hq] at hi; cases hi
  | some i =>
    rw [hq] at hi
    simp only [Option.map_some, Option.some.injEq, Prod.mk.injEq] at hi
    obtain ⟨h1, h2, h3⟩ := hi
    have h := run_make (P := Tryd.prog) w 22 5 i (.int .u8 0) Tryd.underlying22 hq h1 .i64 .i64 0 (c : Int) (Int.le_refl _) (by omega) (by rw [h3]; omega) (by omega)
    rw [h2, Nat.mul_one, Int.toNat_natCast, made_zero] at h
    exact h
theorem row_made (w : World) (base c : Nat) (hc : c < 1000000) (hb : base ≤ w.heap.size) : Row base 5 .u8 [] (.slice (some ⟨w.heap.size, 0, none⟩) 0 c) (w.alloc (.cells (ints .u8 (List.replicate c 0)) 5)) :=
  ⟨rfl, .inr ⟨w.heap.size, c, ints .u8 (List.replicate c 0), rfl, hb, heap_new w _, Nat.zero_le _, Nat.le_of_lt (Nat.lt_of_lt_of_le hc (by decide)), by rw [ints_size, List.length_replicate, Nat.mul_one], by simp [ints]⟩⟩
section
variable {h : List Oper} {A0 A : Act} {W0 : World} {S : Nat → Option (Value → World → Prop)} {sp O : List Nat} {E : List (Nat × Nat)} {i : Nat} {o : Oper}
theorem ow_make (hA : Full h A0 A S sp) (hw : Wants h A0 A S O E W0.heap.size i o) (d x n : Nat) (hd : o.dst = some d) (ho : o.op = .makeSlice 22 (.const (.int .i64 0)) (.tmp x)) (hwx : waitsFor h o x = true) (hx : A.tmps[x]? = some (.int .i64 (n : Int))) (hsx : sp.contains x = false) (hE : (E.all fun q => q.2 != x || q.1 == i) = true) (hn : n < 1000000) (hp : S d = some (Row W0.heap.size 5 .u8 [])) : OwnOk Tryd.prog h A0 W0 (relR A S) O E i o :=
  ow_run hw d hd fun a w hF hB hgot => by
    have e := gotE_det hA hgot hwx hsx hE hx
    refine ⟨_, _, none, ?_, rel_spec _ hp (row_made w _ n hn hB.size), grown_none ((Below.refl _ _).alloc (Nat.le_refl _) _), fun b hb => (by cases hb), fun _ b hb => .inl ?_⟩
    · unfold execOp
      simp only [ho, e]
      have := run_make0 n hn w
      simp [Act.eval, this]
    · cases hb
      exact ⟨Nat.le_refl _, by simp⟩
end
end Go.Proofs.YthnkipicehppmaaDoor.sh
