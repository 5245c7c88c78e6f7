/-
  An argument that is a key, a number and what is bound; AeadEmpty.
-/
import Derived.Test.YtpamcmhfimnfbaaZD
import Derived.Deep.Strs
namespace Go.Proofs.Ytpamcmhfimnfbaa.sh
open Go Go.ChangeShapes Go.WideShapes Go.ChangeAt Go.RowKit
set_option linter.unusedVariables false
set_option linter.unusedSimpArgs false

def lockA (k : List Nat) (n : Nat) (va : Value) : Array Value := ints .u8 k ++ (#[.int .u64 (n : Int)] ++ #[va])
theorem lock_size (k : List Nat) (n : Nat) (va : Value) (hk : k.length = 32) : (lockA k n va).size = 34 := by simp [lockA, ints_size, hk]
theorem lock_key (k : List Nat) (n : Nat) (va : Value) : ∀ (j : Nat) (v : Value), (ints .u8 k)[j]? = some v → (lockA k n va)[0 + j]? = some v := part_first _ _
theorem lock_num (k : List Nat) (n : Nat) (va : Value) (hk : k.length = 32) : (lockA k n va)[32]? = some (.int .u64 (n : Int)) := part_second (ints .u8 k) _ 32 (by rw [ints_size, hk]) 0 _ rfl
theorem lock_ad (k : List Nat) (n : Nat) (va : Value) (hk : k.length = 32) : (lockA k n va)[33]? = some va := part_second (ints .u8 k) _ 32 (by rw [ints_size, hk]) 1 _ rfl
theorem lock_below (w : World) (A : Array Value) : Below w.heap.size w (w.alloc (.cells A 26)) := (Below.refl _ _).alloc (Nat.le_refl _) _
theorem c_lock : Try.prog.cellsOf 26 = 34 := by kernel_rfl
theorem c_u64 : Try.prog.cellsOf 23 = 1 := by kernel_rfl
theorem bnd_u64 {k : Int} (h : (Lit.int .u64 k).wf = true) : 0 ≤ k ∧ k < 18446744073709551616 := by have := bounds_u64 h; omega
theorem open_lock {H : Type} {enc : TypeId × Value → H} {W : World} {r : Reach} {b0 base : Nat} {sp : Nat → Bool} {held : Bool} {v : Value} {d : DataW H} {p : List MemPlace}
    (hv : Value.okWide Try.prog W r b0 26 v) (h : DataW.Trod enc Try.prog W base sp held 26 v d p) : ∃ (k : List Nat) (n : Nat) (va : Value) (a : List Nat), v = .agg (lockA k n va) ∧ k.length = 32 ∧ Bytes k ∧ n < 18446744073709551616 ∧ BytesV va W a ∧ Bytes a ∧ a.length ≤ maxLen := by
  unfold Value.okWide at hv
  rw [Try.underlying26] at hv
  obtain ⟨cs, rfl, hsz, _⟩ := hv
  rw [c_lock] at hsz
  obtain ⟨fuel, hf⟩ := h
  obtain ⟨y0, y1, y2, n, hx, hl, h0, h1, h2⟩ := Go.Deep.trod_struct3 Try.underlying26 hf
  have h0' : DataW.trod enc Try.prog W base sp held n 22 ((cs.toList.drop 0).take (Try.prog.cellsOf 22)) = some y0 := h0
  have h1' : DataW.trod enc Try.prog W base sp held n 23 ((cs.toList.drop 32).take (Try.prog.cellsOf 23)) = some y1 := h1
  have h2' : DataW.trod enc Try.prog W base sp held n 24 ((cs.toList.drop 33).take (Try.prog.cellsOf 24)) = some y2 := h2
  rw [c_32] at h0'
  rw [c_u64] at h1'
  rw [cbytes] at h2'
  obtain ⟨k, ek, lk, bk⟩ := arr_cells (B := 256) Try.underlying22 Try.underlying5 c_32 cu8 (fun k hk => by have := bounds_u8 hk; omega) h0'
  obtain ⟨c, ec, _, hwf⟩ := DataW.trod_int Try.underlying23 h1'
  obtain ⟨va, a, ea, hva, hya, hla⟩ := bytes_cells h2'
  have hc := bnd_u64 hwf
  refine ⟨k, c.toNat, va, a, ?_, lk, bk, by omega, hva, hya, hla⟩
  congr 1
  apply Array.toList_inj.1
  unfold lockA
  rw [Array.toList_append, Array.toList_append, ← ek, Int.toNat_of_nonneg hc.1]
  have e1 : cs.toList = cs.toList.take 32 ++ ((cs.toList.drop 32).take 1 ++ (cs.toList.drop 33).take 1) := by
    have e2 : (cs.toList.drop 33).take 1 = cs.toList.drop 33 := List.take_of_length_le (by simp; omega)
    rw [e2, show cs.toList.drop 33 = (cs.toList.drop 32).drop 1 by rw [List.drop_drop], List.take_append_drop, List.take_append_drop]
  rw [ec, ea] at e1
  rw [List.drop_zero]
  exact e1

set_option maxRecDepth 100000 in
set_option maxHeartbeats 2000000 in
theorem empty7 (key : List Nat) (n : Nat) (va : Value) (a : List Nat) (w : World) (hk : key.length = 32) (hy : Bytes key) (hn : n < 18446744073709551616) (hva : BytesV va w a) (hya : Bytes a) (hla : a.length ≤ maxLen) :
    Calls Try.prog 7 #[.agg (lockA key n va)] w fun e w' => e = .returned (.bool true) ∧ Below w.heap.size w w' := by
  have KA : Kept _ := ⟨hva⟩
  obtain ⟨na, hna⟩ : ∃ n, n = a.length := ⟨_, rfl⟩
  have ENA : Kept _ := ⟨hna⟩
  obtain ⟨pa, ca, eva⟩ := slice_form hva hna.symm
  have LK : Kept _ := ⟨hk⟩
  have A0 : Blk (w.alloc (.cells (lockA key n va) 26)) w.heap.size 26 (lockA key n va) := blk_new _ _ _
  have Q0 := lock_below w (lockA key n va)
  obtain ⟨X, hX⟩ : ∃ l, l = sealL key n a [] := ⟨_, rfl⟩
  have LX : Kept (X.length = 16) := ⟨by rw [hX, sealL_len]; rfl⟩
  have CS : Kept (na ≤ 1000 → ∀ (w' : World), Below w.heap.size w w' → Calls Try.prog 9 #[.agg (ints .u8 key), .int .u64 (n : Int), va, .slice none 0 0] w' fun e w2 => ∃ v, e = .returned (.tuple #[v, .int .i64 0]) ∧ BytesV v w2 X ∧ Below w'.heap.size w' w2) := ⟨fun h1 w' hb => by
    have h := SealD key n a [] va _ w' hk hy hn (KA.out.under hb) (nil_bytesV _) hya nil_bytes
    rw [sealP_ok _ _ _ _ (by omega) (Nat.zero_le _), ← hX] at h
    exact h⟩
  have CO : Kept (na ≤ 1000 → ∀ (vb : Value) (w' : World), Below w.heap.size w w' → BytesV vb w' X → Calls Try.prog 11 #[.agg (ints .u8 key), .int .u64 (n : Int), va, vb] w' fun e w2 => ∃ v, e = .returned (.tuple #[v, .int .i64 0]) ∧ BytesV v w2 [] ∧ Below w'.heap.size w' w2) := ⟨fun h1 vb w' hb hv => by
    have h := OpenD key n a X va vb w' hk hy hn (KA.out.under hb) hv hya (by rw [hX]; exact sealL_bytes _ _ _ nil_bytes)
    rw [hX, openP_seal _ _ _ _ (by omega) (Nat.zero_le _)] at h
    exact h⟩
  subst eva
  clear hk hy hn hva hya hla hna hX
  by_cases h10 : 1000 < na
  case pos =>
    have h10' : (1000 : Int) < (na : Int) := by omega
    go_enter Try.func7, Try.ntmps7
    go_wp2_with fail
    refine (alive7 _).mono ?_
    rintro e w1 ⟨rfl, hb1⟩
    have B0 := A0.under hb1
    go_wp2_with (first | ((with_reducible refine wv_val (d := 9) ?hd ?hw (.pointer (some ⟨w.heap.size, 33, none⟩)) ?hr ?_); (case hd => rfl); (case hw => kernel_rfl); (case hr => intro w; kernel_rfl); simp only [Act.put, List.setIfInBounds_toArray, List.set_cons_succ, List.set_cons_zero]) | ((with_reducible refine wv_elem (d := 10) ?hd ?hw 24 ag_bytes (.tmp 9) ?ho (⟨w.heap.size, 33, none⟩) ?hx (.slice pa na ca) ?hc ?_); (case hd => rfl); (case hw => kernel_rfl); (case ho => rfl); (case hx => kernel_rfl); (case hc => exact B0.cell (lock_ad _ _ _ LK.out)); simp only [Act.put, List.setIfInBounds_toArray, List.set_cons_succ, List.set_cons_zero]))
    go_ret
    exact ⟨rfl, Q0.trans (hb1.mono Q0.size)⟩
  case neg =>
    have h10' : ¬ (1000 : Int) < (na : Int) := by omega
    have h10'' : na ≤ 1000 := by omega
    go_enter Try.func7, Try.ntmps7
    go_wp2_with fail
    refine (alive7 _).mono ?_
    rintro e w1 ⟨rfl, hb1⟩
    have B0 := A0.under hb1
    have Q1 := Q0.trans (hb1.mono Q0.size)
    have C1 := CS.out h10'' w1 Q1
    clear A0 Q0 hb1 CS
    go_wp2_with (first | ((with_reducible refine wv_val (d := 9) ?hd ?hw (.pointer (some ⟨w.heap.size, 33, none⟩)) ?hr ?_); (case hd => rfl); (case hw => kernel_rfl); (case hr => intro w; kernel_rfl); simp only [Act.put, List.setIfInBounds_toArray, List.set_cons_succ, List.set_cons_zero]) | ((with_reducible refine wv_elem (d := 10) ?hd ?hw 24 ag_bytes (.tmp 9) ?ho (⟨w.heap.size, 33, none⟩) ?hx (.slice pa na ca) ?hc ?_); (case hd => rfl); (case hw => kernel_rfl); (case ho => rfl); (case hx => kernel_rfl); (case hc => exact B0.cell (lock_ad _ _ _ LK.out)); simp only [Act.put, List.setIfInBounds_toArray, List.set_cons_succ, List.set_cons_zero]) | ((with_reducible refine wv_val (d := 14) ?hd ?hw (.pointer (some ⟨w.heap.size, 0, none⟩)) ?hr ?_); (case hd => rfl); (case hw => kernel_rfl); (case hr => intro w; kernel_rfl); simp only [Act.put, List.setIfInBounds_toArray, List.set_cons_succ, List.set_cons_zero]) | ((with_reducible refine wv_partA (d := 15) ?hd ?hw 22 (.tmp 14) ?ho (w.heap.size) 0 ?hx (t' := 26) (lockA key n (.slice pa na ca)) (ints .u8 key) 32 5 Try.underlying22 ?hs ?hg ?hp ?_); (case hd => rfl); (case hw => kernel_rfl); (case ho => rfl); (case hx => kernel_rfl); (case hs => rw [ints_size, LK.out]; exact t32_info); (case hg => exact B0); (case hp => exact lock_key _ _ _); simp only [Act.put, List.setIfInBounds_toArray, List.set_cons_succ, List.set_cons_zero]) | ((with_reducible refine wv_val (d := 16) ?hd ?hw (.pointer (some ⟨w.heap.size, 32, none⟩)) ?hr ?_); (case hd => rfl); (case hw => kernel_rfl); (case hr => intro w; kernel_rfl); simp only [Act.put, List.setIfInBounds_toArray, List.set_cons_succ, List.set_cons_zero]) | ((with_reducible refine wv_elem (d := 17) ?hd ?hw 23 ag_u64 (.tmp 16) ?ho (⟨w.heap.size, 32, none⟩) ?hx (.int .u64 (n : Int)) ?hc ?_); (case hd => rfl); (case hw => kernel_rfl); (case ho => rfl); (case hx => kernel_rfl); (case hc => exact B0.cell (lock_num _ _ _ LK.out)); simp only [Act.put, List.setIfInBounds_toArray, List.set_cons_succ, List.set_cons_zero]) | ((with_reducible refine wv_val (d := 18) ?hd ?hw (.pointer (some ⟨w.heap.size, 33, none⟩)) ?hr ?_); (case hd => rfl); (case hw => kernel_rfl); (case hr => intro w; kernel_rfl); simp only [Act.put, List.setIfInBounds_toArray, List.set_cons_succ, List.set_cons_zero]) | ((with_reducible refine wv_elem (d := 19) ?hd ?hw 24 ag_bytes (.tmp 18) ?ho (⟨w.heap.size, 33, none⟩) ?hx (.slice pa na ca) ?hc ?_); (case hd => rfl); (case hw => kernel_rfl); (case ho => rfl); (case hx => kernel_rfl); (case hc => exact B0.cell (lock_ad _ _ _ LK.out)); simp only [Act.put, List.setIfInBounds_toArray, List.set_cons_succ, List.set_cons_zero]))
    refine C1.mono ?_
    rintro e w2 ⟨vx, rfl, hx, hb2⟩
    have B2 := B0.under hb2
    have Q2 := Q1.trans (hb2.mono Q1.size)
    have C2 := CO.out h10'' vx w2 Q2 hx
    obtain ⟨px, cx, rfl⟩ := slice_form hx LX.out
    clear B0 Q1 hb2 hx CO C1
    go_wp2_with (first | ((with_reducible refine wv_val (d := 24) ?hd ?hw (.pointer (some ⟨w.heap.size, 0, none⟩)) ?hr ?_); (case hd => rfl); (case hw => kernel_rfl); (case hr => intro w; kernel_rfl); simp only [Act.put, List.setIfInBounds_toArray, List.set_cons_succ, List.set_cons_zero]) | ((with_reducible refine wv_partA (d := 25) ?hd ?hw 22 (.tmp 24) ?ho (w.heap.size) 0 ?hx (t' := 26) (lockA key n (.slice pa na ca)) (ints .u8 key) 32 5 Try.underlying22 ?hs ?hg ?hp ?_); (case hd => rfl); (case hw => kernel_rfl); (case ho => rfl); (case hx => kernel_rfl); (case hs => rw [ints_size, LK.out]; exact t32_info); (case hg => exact B2); (case hp => exact lock_key _ _ _); simp only [Act.put, List.setIfInBounds_toArray, List.set_cons_succ, List.set_cons_zero]) | ((with_reducible refine wv_val (d := 26) ?hd ?hw (.pointer (some ⟨w.heap.size, 32, none⟩)) ?hr ?_); (case hd => rfl); (case hw => kernel_rfl); (case hr => intro w; kernel_rfl); simp only [Act.put, List.setIfInBounds_toArray, List.set_cons_succ, List.set_cons_zero]) | ((with_reducible refine wv_elem (d := 27) ?hd ?hw 23 ag_u64 (.tmp 26) ?ho (⟨w.heap.size, 32, none⟩) ?hx (.int .u64 (n : Int)) ?hc ?_); (case hd => rfl); (case hw => kernel_rfl); (case ho => rfl); (case hx => kernel_rfl); (case hc => exact B2.cell (lock_num _ _ _ LK.out)); simp only [Act.put, List.setIfInBounds_toArray, List.set_cons_succ, List.set_cons_zero]) | ((with_reducible refine wv_val (d := 28) ?hd ?hw (.pointer (some ⟨w.heap.size, 33, none⟩)) ?hr ?_); (case hd => rfl); (case hw => kernel_rfl); (case hr => intro w; kernel_rfl); simp only [Act.put, List.setIfInBounds_toArray, List.set_cons_succ, List.set_cons_zero]) | ((with_reducible refine wv_elem (d := 29) ?hd ?hw 24 ag_bytes (.tmp 28) ?ho (⟨w.heap.size, 33, none⟩) ?hx (.slice pa na ca) ?hc ?_); (case hd => rfl); (case hw => kernel_rfl); (case ho => rfl); (case hx => kernel_rfl); (case hc => exact B2.cell (lock_ad _ _ _ LK.out)); simp only [Act.put, List.setIfInBounds_toArray, List.set_cons_succ, List.set_cons_zero]))
    refine C2.mono ?_
    rintro e w3 ⟨vy, rfl, hy3, hb3⟩
    have Q3 := Q2.trans (hb3.mono Q2.size)
    obtain ⟨py, cy, rfl⟩ := slice_form hy3 (show ([] : List Nat).length = 0 from rfl)
    clear B2 Q2 hb3 hy3 C2
    go_wp2_with fail
    go_ret
    exact ⟨rfl, Q3⟩
end Go.Proofs.Ytpamcmhfimnfbaa.sh
