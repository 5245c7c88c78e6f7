/-
  General pieces, joined: UB UC UD.
-/
import Derived.Test.YtjkdonjcngmjeaaDoorG16
/-
  A key filled up to 64 bytes, and changed by a byte: as lists, and package mac's two calls.
-/
namespace Go.Proofs.YtjkdonjcngmjeaaDoor.sh
open Go Go.RowKit
set_option linter.unusedVariables false
set_option linter.unusedSimpArgs false

/-- A key's 64 bytes. -/
def padL (k : List Nat) : List Nat := if 64 < k.length then sumL k ++ List.replicate 32 0 else k ++ List.replicate (64 - k.length) 0
theorem padL_len (k : List Nat) : (padL k).length = 64 := by
  unfold padL
  split
  · rw [List.length_append, sumL_len, List.length_replicate]
  · rw [List.length_append, List.length_replicate]; omega
theorem padL_bytes {k : List Nat} (h : Bytes k) : Bytes (padL k) := by
  unfold padL
  split
  · exact (sumL_bytes k).append (bytes_zero _)
  · exact h.append (bytes_zero _)
def xorL (b : Nat) (l : List Nat) : List Nat := l.map (· ^^^ b)
theorem xorL_len (b : Nat) (l : List Nat) : (xorL b l).length = l.length := by simp [xorL]
theorem xor_lt8 {m n : Nat} (h : m < 256) (h' : n < 256) : m ^^^ n < 256 := Nat.xor_lt_two_pow (n := 8) h h'
theorem xorL_bytes {b : Nat} {l : List Nat} (h : Bytes l) (hb : b < 256) : Bytes (xorL b l) := fun i x hx => by
  unfold xorL at hx
  rw [List.getElem?_map] at hx
  obtain ⟨y, hy, rfl⟩ := Option.map_eq_some_iff.1 hx
  exact xor_lt8 (h i y hy) hb
/-- HMAC of a key and bytes. -/
def macL (k b : List Nat) : List Nat := sumL (xorL 92 (padL k) ++ sumL (xorL 54 (padL k) ++ b))
theorem macL_len (k b : List Nat) : (macL k b).length = 32 := sumL_len _
theorem macL_bytes (k b : List Nat) : Bytes (macL k b) := sumL_bytes _
theorem splice_pad (cs : List Nat) (h : cs.length ≤ 64) : splice (List.replicate 64 0) 0 cs = cs ++ List.replicate (64 - cs.length) 0 := by
  unfold splice
  rw [List.take_zero, List.nil_append, List.drop_replicate, Nat.zero_add]
theorem arr_bytes {w : World} {g n : Nat} {t : TypeId} {l : List Nat} (h : Blk w g t (ints .u8 l)) (hn : l.length = n) : BytesV (.slice (some ⟨g, 0, none⟩) n n) w l := by
  subst hn
  exact bytesV_slice (t := t) ⟨g, rfl, h⟩ (Nat.le_refl _)
theorem t64_info : (Tryd.prog.info? 48).map (·.size) = some 64 := by kernel_rfl

theorem arr_all_run {o : Oper} {a : Act} {x : Operand} {g off n : Nat} {t e : TypeId} (ho : o.op = .slice t x none none none) (hx : a.eval x = .pointer (some ⟨g, off, none⟩)) (ht : Tryd.prog.underlying t = some (.array n e)) (sz : ∀ w, (sizeOf e).run Tryd.prog w = .ok 1 w) (hn : 0 < n) (w : World) :
    (execOp a.eval o).run Tryd.prog w = .ok (.value (.slice (some ⟨g, off, none⟩) n n)) w := by
  unfold execOp
  simp only [ho, hx, Option.map_none, Instr.sliceAt, Instr.slice, Instr.sliceBounds, Sem.run_bind, run_underlying ht, Result.andThen_ok]
  simp [Instr.sliceBound, asIntOf, sz, go_sem]
  try omega

set_option maxRecDepth 100000 in
set_option maxHeartbeats 2000000 in
theorem mfilled_any (bs : List Nat) (v : Value) (w : World) (hy : Bytes bs) (hn : bs.length < 1000000000) (hr : RootsAt w) (hv : BytesV v w bs) :
    Calls Tryd.prog 84 #[v] w fun e w' => e = .returned (.agg (ints .u8 (padL bs))) ∧ Below w.heap.size w w' := by
  have KV : Kept _ := ⟨hv⟩
  have KY : Kept _ := ⟨hy⟩
  have KR : Kept _ := ⟨hr⟩
  have KN : Kept _ := ⟨hn⟩
  obtain ⟨p, c, rfl, _, _⟩ := hv
  obtain ⟨n, hn0⟩ : ∃ n, n = bs.length := ⟨_, rfl⟩
  have EN : Kept _ := ⟨hn0⟩
  rw [← hn0] at KV hn ⊢
  obtain ⟨L, hL⟩ : ∃ L, L = padL bs := ⟨_, rfl⟩
  rw [← hL]
  have LL : Kept (L.length = 64) := ⟨by rw [hL]; exact padL_len bs⟩
  have EL : Kept _ := ⟨hL⟩
  clear hy hr hL hn0
  obtain ⟨ZZ, hZZ⟩ : ∃ Z : List Nat, Z = List.replicate 64 0 := ⟨_, rfl⟩
  have EZ : Kept _ := ⟨hZZ⟩
  have LZ : Kept (ZZ.length = 64) := ⟨by rw [hZZ]; simp⟩
  have EI : (#[.int .u8 0, .int .u8 0, .int .u8 0, .int .u8 0, .int .u8 0, .int .u8 0, .int .u8 0, .int .u8 0, .int .u8 0, .int .u8 0, .int .u8 0, .int .u8 0, .int .u8 0, .int .u8 0, .int .u8 0, .int .u8 0, .int .u8 0, .int .u8 0, .int .u8 0, .int .u8 0, .int .u8 0, .int .u8 0, .int .u8 0, .int .u8 0, .int .u8 0, .int .u8 0, .int .u8 0, .int .u8 0, .int .u8 0, .int .u8 0, .int .u8 0, .int .u8 0, .int .u8 0, .int .u8 0, .int .u8 0, .int .u8 0, .int .u8 0, .int .u8 0, .int .u8 0, .int .u8 0, .int .u8 0, .int .u8 0, .int .u8 0, .int .u8 0, .int .u8 0, .int .u8 0, .int .u8 0, .int .u8 0, .int .u8 0, .int .u8 0, .int .u8 0, .int .u8 0, .int .u8 0, .int .u8 0, .int .u8 0, .int .u8 0, .int .u8 0, .int .u8 0, .int .u8 0, .int .u8 0, .int .u8 0, .int .u8 0, .int .u8 0, .int .u8 0] : Array Value) = ints .u8 ZZ := by rw [hZZ]; exact zero64b
  have A0 : Blk ((w.alloc (.cells #[.int .u8 0, .int .u8 0, .int .u8 0, .int .u8 0, .int .u8 0, .int .u8 0, .int .u8 0, .int .u8 0, .int .u8 0, .int .u8 0, .int .u8 0, .int .u8 0, .int .u8 0, .int .u8 0, .int .u8 0, .int .u8 0, .int .u8 0, .int .u8 0, .int .u8 0, .int .u8 0, .int .u8 0, .int .u8 0, .int .u8 0, .int .u8 0, .int .u8 0, .int .u8 0, .int .u8 0, .int .u8 0, .int .u8 0, .int .u8 0, .int .u8 0, .int .u8 0, .int .u8 0, .int .u8 0, .int .u8 0, .int .u8 0, .int .u8 0, .int .u8 0, .int .u8 0, .int .u8 0, .int .u8 0, .int .u8 0, .int .u8 0, .int .u8 0, .int .u8 0, .int .u8 0, .int .u8 0, .int .u8 0, .int .u8 0, .int .u8 0, .int .u8 0, .int .u8 0, .int .u8 0, .int .u8 0, .int .u8 0, .int .u8 0, .int .u8 0, .int .u8 0, .int .u8 0, .int .u8 0, .int .u8 0, .int .u8 0, .int .u8 0, .int .u8 0] 48)).alloc (.cells #[.int .u8 0, .int .u8 0, .int .u8 0, .int .u8 0, .int .u8 0, .int .u8 0, .int .u8 0, .int .u8 0, .int .u8 0, .int .u8 0, .int .u8 0, .int .u8 0, .int .u8 0, .int .u8 0, .int .u8 0, .int .u8 0, .int .u8 0, .int .u8 0, .int .u8 0, .int .u8 0, .int .u8 0, .int .u8 0, .int .u8 0, .int .u8 0, .int .u8 0, .int .u8 0, .int .u8 0, .int .u8 0, .int .u8 0, .int .u8 0, .int .u8 0, .int .u8 0, .int .u8 0, .int .u8 0, .int .u8 0, .int .u8 0, .int .u8 0, .int .u8 0, .int .u8 0, .int .u8 0, .int .u8 0, .int .u8 0, .int .u8 0, .int .u8 0, .int .u8 0, .int .u8 0, .int .u8 0, .int .u8 0, .int .u8 0, .int .u8 0, .int .u8 0, .int .u8 0, .int .u8 0, .int .u8 0, .int .u8 0, .int .u8 0, .int .u8 0, .int .u8 0, .int .u8 0, .int .u8 0, .int .u8 0, .int .u8 0, .int .u8 0, .int .u8 0] 48)) w.heap.size 48 (ints .u8 ZZ) := by rw [EI]; exact (blk_new w _ _).alloc _
  have A1 : Blk ((w.alloc (.cells #[.int .u8 0, .int .u8 0, .int .u8 0, .int .u8 0, .int .u8 0, .int .u8 0, .int .u8 0, .int .u8 0, .int .u8 0, .int .u8 0, .int .u8 0, .int .u8 0, .int .u8 0, .int .u8 0, .int .u8 0, .int .u8 0, .int .u8 0, .int .u8 0, .int .u8 0, .int .u8 0, .int .u8 0, .int .u8 0, .int .u8 0, .int .u8 0, .int .u8 0, .int .u8 0, .int .u8 0, .int .u8 0, .int .u8 0, .int .u8 0, .int .u8 0, .int .u8 0, .int .u8 0, .int .u8 0, .int .u8 0, .int .u8 0, .int .u8 0, .int .u8 0, .int .u8 0, .int .u8 0, .int .u8 0, .int .u8 0, .int .u8 0, .int .u8 0, .int .u8 0, .int .u8 0, .int .u8 0, .int .u8 0, .int .u8 0, .int .u8 0, .int .u8 0, .int .u8 0, .int .u8 0, .int .u8 0, .int .u8 0, .int .u8 0, .int .u8 0, .int .u8 0, .int .u8 0, .int .u8 0, .int .u8 0, .int .u8 0, .int .u8 0, .int .u8 0] 48)).alloc (.cells #[.int .u8 0, .int .u8 0, .int .u8 0, .int .u8 0, .int .u8 0, .int .u8 0, .int .u8 0, .int .u8 0, .int .u8 0, .int .u8 0, .int .u8 0, .int .u8 0, .int .u8 0, .int .u8 0, .int .u8 0, .int .u8 0, .int .u8 0, .int .u8 0, .int .u8 0, .int .u8 0, .int .u8 0, .int .u8 0, .int .u8 0, .int .u8 0, .int .u8 0, .int .u8 0, .int .u8 0, .int .u8 0, .int .u8 0, .int .u8 0, .int .u8 0, .int .u8 0, .int .u8 0, .int .u8 0, .int .u8 0, .int .u8 0, .int .u8 0, .int .u8 0, .int .u8 0, .int .u8 0, .int .u8 0, .int .u8 0, .int .u8 0, .int .u8 0, .int .u8 0, .int .u8 0, .int .u8 0, .int .u8 0, .int .u8 0, .int .u8 0, .int .u8 0, .int .u8 0, .int .u8 0, .int .u8 0, .int .u8 0, .int .u8 0, .int .u8 0, .int .u8 0, .int .u8 0, .int .u8 0, .int .u8 0, .int .u8 0, .int .u8 0, .int .u8 0] 48)) (w.heap.size + 1) 48 (ints .u8 ZZ) := by rw [EI]; exact blk_top _ _ _ _ (by simp)
  have Q0 : Below w.heap.size w ((w.alloc (.cells #[.int .u8 0, .int .u8 0, .int .u8 0, .int .u8 0, .int .u8 0, .int .u8 0, .int .u8 0, .int .u8 0, .int .u8 0, .int .u8 0, .int .u8 0, .int .u8 0, .int .u8 0, .int .u8 0, .int .u8 0, .int .u8 0, .int .u8 0, .int .u8 0, .int .u8 0, .int .u8 0, .int .u8 0, .int .u8 0, .int .u8 0, .int .u8 0, .int .u8 0, .int .u8 0, .int .u8 0, .int .u8 0, .int .u8 0, .int .u8 0, .int .u8 0, .int .u8 0, .int .u8 0, .int .u8 0, .int .u8 0, .int .u8 0, .int .u8 0, .int .u8 0, .int .u8 0, .int .u8 0, .int .u8 0, .int .u8 0, .int .u8 0, .int .u8 0, .int .u8 0, .int .u8 0, .int .u8 0, .int .u8 0, .int .u8 0, .int .u8 0, .int .u8 0, .int .u8 0, .int .u8 0, .int .u8 0, .int .u8 0, .int .u8 0, .int .u8 0, .int .u8 0, .int .u8 0, .int .u8 0, .int .u8 0, .int .u8 0, .int .u8 0, .int .u8 0] 48)).alloc (.cells #[.int .u8 0, .int .u8 0, .int .u8 0, .int .u8 0, .int .u8 0, .int .u8 0, .int .u8 0, .int .u8 0, .int .u8 0, .int .u8 0, .int .u8 0, .int .u8 0, .int .u8 0, .int .u8 0, .int .u8 0, .int .u8 0, .int .u8 0, .int .u8 0, .int .u8 0, .int .u8 0, .int .u8 0, .int .u8 0, .int .u8 0, .int .u8 0, .int .u8 0, .int .u8 0, .int .u8 0, .int .u8 0, .int .u8 0, .int .u8 0, .int .u8 0, .int .u8 0, .int .u8 0, .int .u8 0, .int .u8 0, .int .u8 0, .int .u8 0, .int .u8 0, .int .u8 0, .int .u8 0, .int .u8 0, .int .u8 0, .int .u8 0, .int .u8 0, .int .u8 0, .int .u8 0, .int .u8 0, .int .u8 0, .int .u8 0, .int .u8 0, .int .u8 0, .int .u8 0, .int .u8 0, .int .u8 0, .int .u8 0, .int .u8 0, .int .u8 0, .int .u8 0, .int .u8 0, .int .u8 0, .int .u8 0, .int .u8 0, .int .u8 0, .int .u8 0] 48)) := ((Below.refl _ _).alloc (Nat.le_refl _) _).alloc (by simp) _
  clear EI hZZ
  by_cases h64 : 64 < n
  case pos =>
    have h64' : (64 : Int) < (n : Int) := by omega
    go_enter Tryd.func84, Tryd.ntmps84
    go_wp2_with fail
    generalize hW : (w.alloc (.cells #[.int .u8 0, .int .u8 0, .int .u8 0, .int .u8 0, .int .u8 0, .int .u8 0, .int .u8 0, .int .u8 0, .int .u8 0, .int .u8 0, .int .u8 0, .int .u8 0, .int .u8 0, .int .u8 0, .int .u8 0, .int .u8 0, .int .u8 0, .int .u8 0, .int .u8 0, .int .u8 0, .int .u8 0, .int .u8 0, .int .u8 0, .int .u8 0, .int .u8 0, .int .u8 0, .int .u8 0, .int .u8 0, .int .u8 0, .int .u8 0, .int .u8 0, .int .u8 0, .int .u8 0, .int .u8 0, .int .u8 0, .int .u8 0, .int .u8 0, .int .u8 0, .int .u8 0, .int .u8 0, .int .u8 0, .int .u8 0, .int .u8 0, .int .u8 0, .int .u8 0, .int .u8 0, .int .u8 0, .int .u8 0, .int .u8 0, .int .u8 0, .int .u8 0, .int .u8 0, .int .u8 0, .int .u8 0, .int .u8 0, .int .u8 0, .int .u8 0, .int .u8 0, .int .u8 0, .int .u8 0, .int .u8 0, .int .u8 0, .int .u8 0, .int .u8 0] 48)).alloc (.cells #[.int .u8 0, .int .u8 0, .int .u8 0, .int .u8 0, .int .u8 0, .int .u8 0, .int .u8 0, .int .u8 0, .int .u8 0, .int .u8 0, .int .u8 0, .int .u8 0, .int .u8 0, .int .u8 0, .int .u8 0, .int .u8 0, .int .u8 0, .int .u8 0, .int .u8 0, .int .u8 0, .int .u8 0, .int .u8 0, .int .u8 0, .int .u8 0, .int .u8 0, .int .u8 0, .int .u8 0, .int .u8 0, .int .u8 0, .int .u8 0, .int .u8 0, .int .u8 0, .int .u8 0, .int .u8 0, .int .u8 0, .int .u8 0, .int .u8 0, .int .u8 0, .int .u8 0, .int .u8 0, .int .u8 0, .int .u8 0, .int .u8 0, .int .u8 0, .int .u8 0, .int .u8 0, .int .u8 0, .int .u8 0, .int .u8 0, .int .u8 0, .int .u8 0, .int .u8 0, .int .u8 0, .int .u8 0, .int .u8 0, .int .u8 0, .int .u8 0, .int .u8 0, .int .u8 0, .int .u8 0, .int .u8 0, .int .u8 0, .int .u8 0, .int .u8 0] 48) = wa at *
    clear hW
    refine (cSum KY.out KN.out (KR.out.below KR.out.1 Q0) (KV.out.under Q0)).mono ?_
    rintro e w1 ⟨rfl, hb1⟩
    obtain ⟨S, hS⟩ : ∃ S, S = sumL bs := ⟨_, rfl⟩
    rw [← hS]
    have LS : Kept (S.length = 32) := ⟨by rw [hS]; exact sumL_len bs⟩
    have ES : Kept _ := ⟨hS⟩
    have A01 := A0.under hb1
    have A11 := A1.under hb1
    have Q1 := Q0.trans (hb1.mono Q0.size)
    have sz1 : w.heap.size + 1 < w1.heap.size := A11.lt
    clear hb1 A0 A1 Q0 hS
    go_wp2_with (first | (refine wl_store rfl 22 (.tmp 4) (.tmp 9) rfl w1.heap.size (ints .u8 S) rfl rfl _ (blk_new w1 _ _) (by rw [ints_size, LS.out]; exact t32_info) (by rw [ints_size, LS.out]; rfl) (ints_one _ _) ?_))
    intro w2 A2 P2
    have A02 := P2.blk (A01.alloc _) (by omega)
    have A12 := P2.blk (A11.alloc _) (by omega)
    have Q2 := (Q1.alloc Q1.size _).trans (P2.below Q1.size)
    have V2 : Kept (BytesV (.slice (some ⟨w1.heap.size, 0, none⟩) 32 32) w2 S) := ⟨arr_bytes A2 LS.out⟩
    have hmin : Kept ((32 : Nat) = Nat.min 32 64) := ⟨rfl⟩
    have hfit : 0 + 32 ≤ (ints .u8 ZZ).size := by rw [ints_size, LZ.out]; decide
    have EP : Kept ((splice (ints .u8 ZZ).toList 0 (ints .u8 (S.take 32)).toList).toArray = ints .u8 L) := ⟨by
      have hlt : 64 < bs.length := by rw [← EN.out]; exact h64
      rw [splice_ints, List.take_of_length_le (by rw [LS.out]; exact Nat.le_refl _), EZ.out, splice_pad S (by rw [LS.out]; decide), LS.out, EL.out]
      unfold padL
      rw [if_pos hlt, ES.out]⟩
    clear A01 A11 P2 Q1 A2
    go_wp2_with (first | (refine wl_copyV rfl (.tmp 11) (.tmp 12) 32 32 rfl Tryd.underlying32 (w.heap.size + 1) 0 64 64 rfl (some ⟨w1.heap.size, 0, none⟩) 32 32 rfl _ A12 S V2.out 32 hmin.out hfit ?_))
    intro w3 A3 P3
    rw [EP.out] at A3
    have A03 := P3.blk A02 (by omega)
    have Q3 := Q2.trans (P3.below (by omega))
    clear A02 A12 P3 Q2 V2 hfit hmin EP
    go_wp2_with (first | ((with_reducible refine wv_row (d := 14) ?hd ?hw 48 (.tmp 3) ?ho (w.heap.size + 1) ?hx (t' := 48) (ints .u8 L) _ _ Tryd.underlying48 ?hs ?hg ?_); (case hd => rfl); (case hw => kernel_rfl); (case ho => rfl); (case hx => kernel_rfl); (case hs => rw [ints_size, LL.out]; exact t64_info); (case hg => exact A3); simp only [Act.put, List.setIfInBounds_toArray, List.set_cons_succ, List.set_cons_zero]) | (refine wl_store rfl 48 (.tmp 2) (.tmp 14) rfl w.heap.size (ints .u8 L) rfl rfl _ A03 (by rw [ints_size, LL.out]; exact t64_info) (by rw [ints_size, ints_size, LL.out, LZ.out]) (ints_one _ _) ?_))
    intro w4 A4 P4
    go_wp2
    exact bodyPost_ret (v := .agg (ints .u8 L)) (results_cell_row Tryd.results84 _ _ _ 48 (ints .u8 L) (0, 0) _ rfl A4 Tryd.underlying48 rfl (by rw [ints_size, LL.out]; exact t64_info)) rfl ⟨rfl, Q3.trans (P4.below (Nat.le_refl _))⟩
  case neg =>
    have h64' : ¬ (64 : Int) < (n : Int) := by omega
    have hmin : Kept (n = Nat.min n 64) := ⟨(Nat.min_eq_left (by omega)).symm⟩
    have hfit : 0 + n ≤ (ints .u8 ZZ).size := by rw [ints_size, LZ.out]; omega
    have EP : Kept ((splice (ints .u8 ZZ).toList 0 (ints .u8 (bs.take n)).toList).toArray = ints .u8 L) := ⟨by
      have hlt : ¬ 64 < bs.length := by rw [← EN.out]; exact h64
      rw [splice_ints, List.take_of_length_le (by rw [EN.out]; exact Nat.le_refl _), EZ.out, splice_pad bs (by omega), EL.out]
      unfold padL
      rw [if_neg hlt]⟩
    have V2 : Kept _ := ⟨KV.out.under Q0⟩
    go_enter Tryd.func84, Tryd.ntmps84
    go_wp2_with (first | (refine wl_copyV rfl (.tmp 11) (.tmp 12) 32 32 rfl Tryd.underlying32 (w.heap.size + 1) 0 64 64 rfl p n c rfl _ A1 bs V2.out n hmin.out hfit ?_))
    intro w3 A3 P3
    rw [EP.out] at A3
    have A03 := P3.blk A0 (by omega)
    have Q3 := Q0.trans (P3.below (by omega))
    clear A0 A1 P3 Q0 V2 hfit hmin EP
    go_wp2_with (first | ((with_reducible refine wv_row (d := 14) ?hd ?hw 48 (.tmp 3) ?ho (w.heap.size + 1) ?hx (t' := 48) (ints .u8 L) _ _ Tryd.underlying48 ?hs ?hg ?_); (case hd => rfl); (case hw => kernel_rfl); (case ho => rfl); (case hx => kernel_rfl); (case hs => rw [ints_size, LL.out]; exact t64_info); (case hg => exact A3); simp only [Act.put, List.setIfInBounds_toArray, List.set_cons_succ, List.set_cons_zero]) | (refine wl_store rfl 48 (.tmp 2) (.tmp 14) rfl w.heap.size (ints .u8 L) rfl rfl _ A03 (by rw [ints_size, LL.out]; exact t64_info) (by rw [ints_size, ints_size, LL.out, LZ.out]) (ints_one _ _) ?_))
    intro w4 A4 P4
    go_wp2
    exact bodyPost_ret (v := .agg (ints .u8 L)) (results_cell_row Tryd.results84 _ _ _ 48 (ints .u8 L) (0, 0) _ rfl A4 Tryd.underlying48 rfl (by rw [ints_size, LL.out]; exact t64_info)) rfl ⟨rfl, Q3.trans (P4.below (Nat.le_refl _))⟩
end Go.Proofs.YtjkdonjcngmjeaaDoor.sh
/-
  A key's bytes changed, its digest; the key as it is used.
-/
namespace Go.Proofs.YtjkdonjcngmjeaaDoor.sh
open Go Go.RowKit
set_option linter.unusedVariables false
set_option linter.unusedSimpArgs false

/-- The first i bytes changed. -/
def xTo (b : Nat) (P : List Nat) (i : Nat) : List Nat := xorL b (P.take i) ++ P.drop i
theorem xTo_len (b : Nat) (P : List Nat) (i : Nat) : (xTo b P i).length = P.length := by
  unfold xTo
  rw [List.length_append, xorL_len, List.length_take, List.length_drop]
  omega
theorem xTo_zero (b : Nat) (P : List Nat) : xTo b P 0 = P := by simp [xTo, xorL]
theorem xTo_all (b : Nat) (P : List Nat) (i : Nat) (h : P.length ≤ i) : xTo b P i = xorL b P := by
  unfold xTo
  rw [List.take_of_length_le h, List.drop_of_length_le h, List.append_nil]
theorem xTo_get (b : Nat) (P : List Nat) (i : Nat) : (xTo b P i)[i]? = P[i]? := by
  unfold xTo
  by_cases h : i < P.length
  · rw [List.getElem?_append_right (by rw [xorL_len, List.length_take]; omega), xorL_len, List.length_take, List.getElem?_drop]
    congr 1
    omega
  · rw [List.getElem?_eq_none (by rw [List.length_append, xorL_len, List.length_take, List.length_drop]; omega), List.getElem?_eq_none (by omega)]
theorem xTo_succ (b : Nat) (P : List Nat) (i x : Nat) (h : P[i]? = some x) : (xTo b P i).set i (x ^^^ b) = xTo b P (i + 1) := by
  have hi : i < P.length := (List.getElem?_eq_some_iff.1 h).1
  unfold xTo
  have e : P.drop i = x :: P.drop (i + 1) := by rw [List.drop_eq_getElem_cons hi, (List.getElem?_eq_some_iff.1 h).2]
  rw [List.set_append_right _ _ (by rw [xorL_len, List.length_take]; omega), xorL_len, List.length_take, Nat.min_eq_left (by omega), Nat.sub_self, e, List.set_cons_zero, List.take_add_one, h]
  simp [xorL]
theorem run_xorV {o : Oper} {a : Act} {x y : Operand} {m n z : Nat} (ho : o.op = .binOp .xor 5 x y 5) (hx : a.eval x = .int .u8 (m : Int)) (hy : a.eval y = .int .u8 (n : Int)) (hm : m < 256) (hn : n < 256) (hz : z = m ^^^ n) (w : World) : (execOp a.eval o).run Tryd.prog w = .ok (.value (.int .u8 (z : Int))) w := by
  have h := u8_xor_nat m n hm hn
  unfold execOp
  simp only [ho, hx, hy]
  simp [go_sem, hz]
  exact h
theorem cWrite0 {cs : List Nat} {v : Value} {w : World} (hc : Bytes cs) (hn : cs.length < 1000000000) (hr : RootsAt w) (hv : BytesV v w cs) :
    Calls Tryd.prog 9 #[.agg (dgs []), v] w fun e w' => e = .returned (.agg (dgs cs)) ∧ Below w.heap.size w w' := by
  have h := cWrite nil_bytes hc (by simpa using hn) hr hv
  rw [List.nil_append] at h
  exact h

set_option maxRecDepth 100000 in
set_option maxHeartbeats 2000000 in
theorem changed_any (P : List Nat) (b : Nat) (w : World) (hP : P.length = 64) (hy : Bytes P) (hb : b < 256) (hr : RootsAt w) :
    Calls Tryd.prog 85 #[.agg (ints .u8 P), .int .u8 (b : Int)] w fun e w' => e = .returned (.agg (dgs (xorL b P))) ∧ Below w.heap.size w w' := by
  have KY : Kept _ := ⟨hy⟩
  have KR : Kept _ := ⟨hr⟩
  have KP : Kept _ := ⟨hP⟩
  have KB : Kept _ := ⟨hb⟩
  obtain ⟨Z, hZ⟩ : ∃ Z, Z = dgs [] := ⟨_, rfl⟩
  have hz : ∀ w, (zeroValue 51).run Tryd.prog w = .ok (.agg Z) w := fun w => by rw [hZ]; exact dgs_zero w
  have hbuild : Kept (∀ w, (Instr.build 51 #[]).run Tryd.prog w = .ok (.agg Z) w) := ⟨fun w => by rw [hZ]; exact dgs_build w⟩
  have LZ : Kept (Z.size = 73) := ⟨by rw [hZ]; exact dgs_size nil_bytes⟩
  have EZ : Kept _ := ⟨hZ⟩
  obtain ⟨D, hD⟩ : ∃ D, D = dgs (xorL b P) := ⟨_, rfl⟩
  rw [← hD]
  have ED : Kept _ := ⟨hD⟩
  have SD : Kept ((Tryd.prog.info? 51).map (·.size) = some D.size) := ⟨by rw [hD]; exact dgs_info (xorL_bytes hy hb)⟩
  have LD : Kept (D.size = 73) := ⟨by rw [hD]; exact dgs_size (xorL_bytes hy hb)⟩
  have OD : Kept (D.all (·.oneCell') = true) := ⟨by rw [hD]; exact dgs_one _⟩
  have A0 : Blk ((w.alloc (.cells (ints .u8 P) 48)).alloc (.cells Z 51)) w.heap.size 48 (ints .u8 (xTo b P 0)) := by rw [xTo_zero]; exact (blk_new w _ _).alloc _
  have A1 : Blk ((w.alloc (.cells (ints .u8 P) 48)).alloc (.cells Z 51)) (w.heap.size + 1) 51 Z := blk_top _ _ _ _ (by simp)
  have Q0 : Below w.heap.size w ((w.alloc (.cells (ints .u8 P) 48)).alloc (.cells Z 51)) := ((Below.refl _ _).alloc (Nat.le_refl _) _).alloc (by simp) _
  clear hy hr hZ hD
  go_enter Tryd.func85, Tryd.ntmps85
  go_wp2_with fail
  generalize hW : (w.alloc (.cells (ints .u8 P) 48)).alloc (.cells Z 51) = wa at *
  clear hW
  go_loopg [6] 64 (fun k s6 wr => ∃ i : Nat, i + k = 64 ∧ s6 = .int .i64 (i : Int) ∧ Below w.heap.size w wr ∧ Blk wr w.heap.size 48 (ints .u8 (xTo b P i)) ∧ Blk wr (w.heap.size + 1) 51 Z)
  case atStart => exact ⟨0, by omega, rfl, Q0, A0, A1⟩
  case round =>
    clear A0 A1 Q0
    obtain ⟨i, hik, rfl, HB, A0, A1⟩ := hrel
    by_cases hi : i < 64
    case pos =>
      have hi' : (i : Int) < 64 := by omega
      obtain ⟨x, hx⟩ : ∃ x, P[i]? = some x := ⟨_, List.getElem?_eq_getElem (by have := KP.out; omega)⟩
      have hx8 : x < 256 := KY.out i x hx
      obtain ⟨z, hz'⟩ : ∃ z, z = x ^^^ b := ⟨_, rfl⟩
      obtain ⟨X, hX⟩ : ∃ X, X = xTo b P i := ⟨_, rfl⟩
      have KX : Kept ((ints .u8 X)[i]? = some (.int .u8 (x : Int))) := ⟨ints_get (by rw [hX, xTo_get]; exact hx)⟩
      have KS : Kept (X.set i z = xTo b P (i + 1)) := ⟨by rw [hX, hz']; exact xTo_succ b P i x hx⟩
      have iX : i < (ints .u8 X).size := by rw [ints_size, hX, xTo_len, KP.out]; exact hi
      rw [← hX] at A0
      have Ez : Kept _ := ⟨hz'⟩
      clear hX hx hz'
      go_wp2_with (first | ((with_reducible refine wv_val (d := 10) ?hd ?hw (.pointer (some ⟨w.heap.size, i, none⟩)) ?hr ?_); (case hd => rfl); (case hw => kernel_rfl); (case hr => intro w; exact run_idx rfl (by kernel_rfl) (by kernel_rfl) Tryd.underlying48 hi sz_u8 w); simp only [Act.put, List.setIfInBounds_toArray, List.set_cons_succ, List.set_cons_zero]) | (refine wl_elem rfl 5 ag_u8 (.tmp 10) rfl w.heap.size i rfl _ (.int .u8 (x : Int)) A0 KX.out ?_) | ((with_reducible refine wv_val (d := 13) ?hd ?hw (.int .u8 (z : Int)) ?hr ?_); (case hd => rfl); (case hw => kernel_rfl); (case hr => intro w; exact run_xorV rfl (by kernel_rfl) (by kernel_rfl) hx8 KB.out Ez.out w); simp only [Act.put, List.setIfInBounds_toArray, List.set_cons_succ, List.set_cons_zero]) | ((with_reducible refine wv_val (d := 14) ?hd ?hw (.pointer (some ⟨w.heap.size, i, none⟩)) ?hr ?_); (case hd => rfl); (case hw => kernel_rfl); (case hr => intro w; exact run_idx rfl (by kernel_rfl) (by kernel_rfl) Tryd.underlying48 hi sz_u8 w); simp only [Act.put, List.setIfInBounds_toArray, List.set_cons_succ, List.set_cons_zero]) | (refine wl_setElem rfl 5 sz_u8 (.tmp 14) (.tmp 13) rfl w.heap.size i .u8 (z : Int) rfl rfl _ A0 iX ?_))
      intro w4 A4 P4
      rw [ints_set, KS.out] at A4
      have A14 := P4.blk A1 (by omega)
      have HB4 := HB.trans (P4.below (Nat.le_refl _))
      clear A0 A1 HB P4 KX KS iX
      go_wp2_with fail
      go_roundg (gk - 1)
      case measure => omega
      case rel => exact ⟨i + 1, by omega, by simp, HB4, A4, A14⟩
    case neg =>
      have hi' : ¬ (i : Int) < 64 := by omega
      rw [xTo_all b P i (by rw [KP.out]; omega)] at A0
      have V0 : Kept (BytesV (.slice (some ⟨w.heap.size, 0, none⟩) 64 64) wr (xorL b P)) := ⟨arr_bytes A0 (by rw [xorL_len]; exact KP.out)⟩
      have C0 : Kept (Calls Tryd.prog 9 #[.agg Z, .slice (some ⟨w.heap.size, 0, none⟩) 64 64] wr fun e w' => e = .returned (.agg D) ∧ Below wr.heap.size wr w') := ⟨by
        rw [EZ.out, ED.out]
        exact cWrite0 (xorL_bytes KY.out KB.out) (by rw [xorL_len, KP.out]; decide) (KR.out.below KR.out.1 HB) V0.out⟩
      clear A0 V0
      go_wp2_with (first | ((with_reducible refine wv_val (d := 16) ?hd ?hw (.agg Z) ?hr ?_); (case hd => rfl); (case hw => kernel_rfl); (case hr => intro w; exact build_run rfl hbuild.out w); simp only [Act.put, List.setIfInBounds_toArray, List.set_cons_succ, List.set_cons_zero]))
      refine C0.out.mono ?_
      rintro e w5 ⟨rfl, hb5⟩
      have A15 := A1.under hb5
      have HB5 := HB.trans (hb5.mono HB.size)
      clear A1 HB hb5 C0
      go_wp2_with (first | (refine wl_store rfl 51 (.tmp 4) (.tmp 18) rfl (w.heap.size + 1) D rfl rfl _ A15 SD.out (by rw [LZ.out, LD.out]) OD.out ?_))
      intro w6 A6 P6
      go_wp2
      exact bodyPost_ret (v := .agg D) (results_cell_row Tryd.results85 _ _ _ 51 D (0, 0) _ rfl A6 Tryd.underlying51 rfl SD.out) rfl ⟨rfl, HB5.trans (P6.below (by omega))⟩
end Go.Proofs.YtjkdonjcngmjeaaDoor.sh
/-
  The key as it is used: two digests.
-/
namespace Go.Proofs.YtjkdonjcngmjeaaDoor.sh
open Go Go.RowKit
set_option linter.unusedVariables false
set_option linter.unusedSimpArgs false

theorem foldl_zip : ∀ (l : List Value) (k o : Nat) (cs : Array Value), (l.zipIdx k).foldl (fun (cs : Array Value) (x : Value × Nat) => cs.setIfInBounds (o + x.2) x.1) cs = setRange cs (o + k) l
  | [], k, o, cs => by simp [setRange]
  | v :: r, k, o, cs => by
    rw [List.zipIdx_cons, List.foldl_cons, foldl_zip r (k + 1) o]
    rfl
theorem fold_zipA (A cs : Array Value) (o : Nat) : A.zipIdx.foldl (fun (cs : Array Value) (x : Value × Nat) => cs.setIfInBounds (o + x.2) x.1) cs = setRange cs o A.toList := by
  rw [← Array.foldl_toList, Array.toList_zipIdx, foldl_zip]
  rfl
theorem splice_two (X Y A B : List Value) (hA : A.length = X.length) (hB : B.length = Y.length) : splice (splice (X ++ Y) 0 A) X.length B = A ++ B := by
  unfold splice
  rw [List.take_zero, List.nil_append, Nat.zero_add, hA, List.drop_left, ← hA, List.take_left, List.drop_append, List.drop_of_length_le (by omega), List.drop_of_length_le (by omega)]
  simp
theorem splice_behind (X Y B : List Value) (n : Nat) (hn : n = X.length) (hB : B.length = Y.length) : splice (X ++ Y) n B = X ++ B := by
  subst hn
  unfold splice
  rw [List.take_left, List.drop_append, List.drop_of_length_le (by omega), List.drop_of_length_le (by omega)]
  simp
theorem kd_places (parts : List (Nat × Value)) : Tryd.prog.built 129 parts = Instr.fill (#[(0, 73), (73, 73)][·]?) (dgs [] ++ dgs []) parts := by kernel_rfl
theorem kd_built (A B : Array Value) (hA : A.size = 73) (hB : B.size = 73) : Tryd.prog.built 129 [(0, .agg A), (1, .agg B)] = some (A ++ B) := by
  have hz : (dgs []).size = 73 := dgs_size nil_bytes
  rw [kd_places]
  generalize dgs [] = Z at *
  have e1 : setRange (Z ++ Z) 0 A.toList = (splice (Z ++ Z).toList 0 A.toList).toArray := setRange_splice _ _ _ (by simp; omega)
  have e2 : setRange (setRange (Z ++ Z) 0 A.toList) 73 B.toList = A ++ B := by
    rw [e1, setRange_splice _ _ _ (by simp [splice]; omega), List.toList_toArray, Array.toList_append, show (73 : Nat) = Z.toList.length from by simp [hz], splice_two _ _ _ _ (by simp [hz, hA]) (by simp [hz, hB])]
    simp
  have s1 : (setRange (Z ++ Z) 0 A.toList).size = 146 := by rw [e1]; simp [splice]; omega
  simp only [Instr.fill, Value.cells, hA, hB, show (#[(0, 73), (73, 73)] : Array (Nat × Nat))[0]? = some (0, 73) from rfl, show (#[(0, 73), (73, 73)] : Array (Nat × Nat))[1]? = some (73, 73) from rfl, fold_zipA, s1, e2]
  simp [hz]
theorem kd_run {o : Oper} {a : Act} (A B : Array Value) (hA : A.size = 73) (hB : B.size = 73) (x y : Operand) (ho : o.op = .build 129 #[(0, x), (1, y)]) (hx : a.eval x = .agg A) (hy : a.eval y = .agg B) (w : World) : (execOp a.eval o).run Tryd.prog w = .ok (.value (.agg (A ++ B))) w := by
  have h := run_build (P := Tryd.prog) w 129 #[(0, .agg A), (1, .agg B)] _ (kd_built A B hA hB)
  unfold execOp
  simp only [ho]
  simp [hx, hy, h]
theorem kd_info : (Tryd.prog.info? 129).map (·.size) = some 146 := by kernel_rfl
theorem kd_zero (w : World) : (zeroValue 129).run Tryd.prog w = .ok (.agg (dgs [] ++ dgs [])) w := by kernel_rfl
/-- The cells of a key as it is used. -/
def keyD (k : List Nat) : Array Value := dgs (xorL 92 (padL k)) ++ dgs (xorL 54 (padL k))

set_option maxRecDepth 100000 in
set_option maxHeartbeats 2000000 in
theorem keyedBy_any (bs : List Nat) (v : Value) (w : World) (hy : Bytes bs) (hn : bs.length < 1000000000) (hr : RootsAt w) (hv : BytesV v w bs) :
    Calls Tryd.prog 74 #[v] w fun e w' => e = .returned (.agg (keyD bs)) ∧ Below w.heap.size w w' := by
  have KR : Kept _ := ⟨hr⟩
  obtain ⟨P, hP⟩ : ∃ P, P = padL bs := ⟨_, rfl⟩
  have LP : Kept (P.length = 64) := ⟨by rw [hP]; exact padL_len bs⟩
  have YP : Kept (Bytes P) := ⟨by rw [hP]; exact padL_bytes hy⟩
  obtain ⟨DO, hO⟩ : ∃ D, D = dgs (xorL 92 P) := ⟨_, rfl⟩
  obtain ⟨DI, hI⟩ : ∃ D, D = dgs (xorL 54 P) := ⟨_, rfl⟩
  have LO : Kept (DO.size = 73) := ⟨by rw [hO]; exact dgs_size (xorL_bytes YP.out (by decide))⟩
  have LI : Kept (DI.size = 73) := ⟨by rw [hI]; exact dgs_size (xorL_bytes YP.out (by decide))⟩
  have OO : Kept ((DO ++ DI).all (·.oneCell') = true) := ⟨by rw [Array.all_append, hO, hI, dgs_one, dgs_one]; rfl⟩
  rw [show keyD bs = DO ++ DI from by rw [hO, hI, hP]; rfl]
  have EO : Kept _ := ⟨hO⟩
  have EI : Kept _ := ⟨hI⟩
  obtain ⟨Z, hZ⟩ : ∃ Z, Z = dgs [] ++ dgs [] := ⟨_, rfl⟩
  have hz : ∀ w, (zeroValue 129).run Tryd.prog w = .ok (.agg Z) w := fun w => by rw [hZ]; exact kd_zero w
  have LZ : Kept (Z.size = 146) := ⟨by rw [hZ, Array.size_append, dgs_size nil_bytes]⟩
  have A0 : Blk (w.alloc (.cells Z 129)) w.heap.size 129 Z := blk_new w _ _
  have Q0 : Below w.heap.size w (w.alloc (.cells Z 129)) := (Below.refl _ _).alloc (Nat.le_refl _) _
  have C0 : Kept (Calls Tryd.prog 84 #[v] (w.alloc (.cells Z 129)) fun e w' => e = .returned (.agg (ints .u8 P)) ∧ Below (w.alloc (.cells Z 129)).heap.size (w.alloc (.cells Z 129)) w') := ⟨by rw [hP]; exact mfilled_any bs v _ hy hn (hr.below hr.1 Q0) (hv.under Q0)⟩
  clear hy hr hP hO hI hZ hv
  go_enter Tryd.func74, Tryd.ntmps74
  go_wp2_with fail
  refine C0.out.mono ?_
  rintro e w1 ⟨rfl, hb1⟩
  have A1 := A0.under hb1
  have Q1 := Q0.trans (hb1.mono Q0.size)
  have sz1 := A1.lt
  clear hb1 A0 Q0 C0
  go_wp2_with (first | (refine wl_store rfl 48 (.tmp 3) (.tmp 5) rfl w1.heap.size (ints .u8 P) rfl rfl _ (blk_new w1 _ _) (by rw [ints_size, LP.out]; exact t64_info) (by rw [ints_size, LP.out]; rfl) (ints_one _ _) ?_))
  intro w3 A3 P3
  have A13 := P3.blk (A1.alloc _) (by omega)
  have Q3 := (Q1.alloc Q1.size _).trans (P3.below Q1.size)
  generalize hg3 : w1.heap.size = g3 at *
  clear A1 Q1 P3 hg3 hz
  have RR : Kept (∀ w', Below w3.heap.size w3 w' → RootsAt w') := ⟨fun w' hb => (KR.out.below KR.out.1 Q3).under hb⟩
  have C1 : Kept (∀ w', Below w3.heap.size w3 w' → Calls Tryd.prog 85 [.agg (ints .u8 P), .int .u8 92].toArray w' fun e w2 => e = .returned (.agg DO) ∧ Below w'.heap.size w' w2) := ⟨fun w' hb => by rw [EO.out]; exact changed_any P 92 w' LP.out YP.out (by decide) (RR.out w' hb)⟩
  have C2 : Kept (∀ w', Below w3.heap.size w3 w' → Calls Tryd.prog 85 [.agg (ints .u8 P), .int .u8 54].toArray w' fun e w2 => e = .returned (.agg DI) ∧ Below w'.heap.size w' w2) := ⟨fun w' hb => by rw [EI.out]; exact changed_any P 54 w' LP.out YP.out (by decide) (RR.out w' hb)⟩
  have HB : Kept (∀ {o : Oper} {a : Act} (x y : Operand), o.op = .build 129 #[(0, x), (1, y)] → a.eval x = .agg DO → a.eval y = .agg DI → ∀ w, (execOp a.eval o).run Tryd.prog w = .ok (.value (.agg (DO ++ DI))) w) := ⟨fun x y ho hx hy w => kd_run DO DI LO.out LI.out x y ho hx hy w⟩
  go_wp2_with fail
  refine region_ownL w3 5 [(6, .agg (ints .u8 P)), (7, .agg DO), (8, .agg (ints .u8 P)), (9, .agg DI), (10, .agg (DO ++ DI))] [] [] [] rfl (by kernel_rfl) (by kernel_rfl) (by kernel_rfl) (by kernel_rfl) (by kernel_rfl) (by kernel_rfl) (by kernel_rfl) (by kernel_rfl) (by kernel_rfl) (by kernel_rfl) (by kernel_rfl) ?hst1 ?hst2 (Below.refl _ _) (fun hA => ⟨ow_row hA (wants_none rfl) 6 (.agg (ints .u8 P)) (by kernel_rfl) rfl rfl rfl rfl (by kernel_rfl) 48 (.tmp 3) rfl (g3) (by kernel_rfl) 48 (ints .u8 P) 64 5 Tryd.underlying48 (by rw [ints_size, LP.out]; exact t64_info) (fun w1 hb => Blk.under A3 hb) rfl, ow_calld hA (wants_none rfl) 7 (.agg DO) (by kernel_rfl) rfl rfl rfl rfl (by kernel_rfl) 85 Tryd.f85 _ [.tmp 6, .const (.int .u8 92)] _ [.agg (ints .u8 P), .int .u8 92] rfl (by kernel_rfl) Tryd.func85 (by kernel_rfl) rfl (fun w1 hb => C1.out w1 hb), ow_row hA (wants_none rfl) 8 (.agg (ints .u8 P)) (by kernel_rfl) rfl rfl rfl rfl (by kernel_rfl) 48 (.tmp 3) rfl (g3) (by kernel_rfl) 48 (ints .u8 P) 64 5 Tryd.underlying48 (by rw [ints_size, LP.out]; exact t64_info) (fun w1 hb => Blk.under A3 hb) rfl, ow_calld hA (wants_none rfl) 9 (.agg DI) (by kernel_rfl) rfl rfl rfl rfl (by kernel_rfl) 85 Tryd.f85 _ [.tmp 8, .const (.int .u8 54)] _ [.agg (ints .u8 P), .int .u8 54] rfl (by kernel_rfl) Tryd.func85 (by kernel_rfl) rfl (fun w1 hb => C2.out w1 hb), ow_val hA (wants_none rfl) 10 (.agg (DO ++ DI)) (by kernel_rfl) rfl rfl rfl rfl (by kernel_rfl) (fun w => HB.out _ _ rfl (by kernel_rfl) (by kernel_rfl) w), trivial⟩) ?_
  case hst1 => intro q hq; cases hq
  case hst2 => intro q hq; cases hq
  intro fv w4 hf hD hb4
  simp only [putR, List.foldl_cons, List.foldl_nil, List.map_cons, List.map_nil, Act.put, List.setIfInBounds_toArray, List.set_cons_succ, List.set_cons_zero]
  have A14 := A13.under hb4
  have Q4 := Q3.trans (hb4.mono Q3.size)
  have SK : Kept ((Tryd.prog.info? 129).map (·.size) = some (DO ++ DI).size) := ⟨by rw [Array.size_append, LO.out, LI.out]; exact kd_info⟩
  clear hf hD C1 C2 A3 A13 Q3 hb4
  refine wl_store rfl 129 (.tmp 2) (.tmp 10) rfl w.heap.size (DO ++ DI) (by kernel_rfl) (by kernel_rfl) _ A14 SK.out (by rw [Array.size_append, LO.out, LI.out, LZ.out]) OO.out ?_
  intro w5 A5 P5
  go_wp2
  exact bodyPost_ret (v := .agg (DO ++ DI)) (results_cell_row Tryd.results74 _ _ _ 129 (DO ++ DI) (0, 0) _ rfl A5 Tryd.underlying129 rfl SK.out) rfl ⟨rfl, Q4.trans (P5.below (Nat.le_refl _))⟩
end Go.Proofs.YtjkdonjcngmjeaaDoor.sh
