/-
  General pieces, joined: SZ SD.
-/
import Derived.Test.YtkibojjbghopkaaDoorG22
import Derived.Test.YtkibojjbghopkaaDoorG09
import Derived.Deep.MidRow
/-
  What 64 rounds make of a state and a block.
-/
namespace Go.Proofs.YtkibojjbghopkaaDoor.sh
open Go Go.RowKit
set_option linter.unusedVariables false
set_option linter.unusedSimpArgs false

theorem list8 (s : List Nat) (h : s.length = 8) : ∃ x0 x1 x2 x3 x4 x5 x6 x7, s = [x0, x1, x2, x3, x4, x5, x6, x7] := by
  match s, h with
  | [x0, x1, x2, x3, x4, x5, x6, x7], _ => exact ⟨x0, x1, x2, x3, x4, x5, x6, x7, rfl⟩
theorem roundL_eq (a b c d e f g h m : Nat) : roundL [a, b, c, d, e, f, g, h] m = [(tN e f g h m + uN a b c) % 4294967296, a, b, c, (d + tN e f g h m) % 4294967296, e, f, g] := by unfold roundL; rfl
theorem roundL_len (s : List Nat) (m : Nat) (h : s.length = 8) : (roundL s m).length = 8 := by
  obtain ⟨x0, x1, x2, x3, x4, x5, x6, x7, rfl⟩ := list8 s h
  rw [roundL_eq]
  simp only [List.length_cons, List.length_nil]
theorem roundL_small (s : List Nat) (m : Nat) (h : s.length = 8) (hs : Small s) : Small (roundL s m) := by
  obtain ⟨x0, x1, x2, x3, x4, x5, x6, x7, rfl⟩ := list8 s h
  intro i x hx
  rw [roundL_eq] at hx
  obtain ⟨p, hp⟩ : ∃ p, p = (tN x4 x5 x6 x7 m + uN x0 x1 x2) % 4294967296 := ⟨_, rfl⟩
  obtain ⟨q, hq⟩ : ∃ q, q = (x3 + tN x4 x5 x6 x7 m) % 4294967296 := ⟨_, rfl⟩
  have lp : p < 4294967296 := by rw [hp]; exact Nat.mod_lt _ (by decide)
  have lq : q < 4294967296 := by rw [hq]; exact Nat.mod_lt _ (by decide)
  rw [← hp, ← hq] at hx
  clear hp hq
  have e0 := hs 0 x0 (by simp)
  have e1 := hs 1 x1 (by simp)
  have e2 := hs 2 x2 (by simp)
  have e4 := hs 4 x4 (by simp)
  have e5 := hs 5 x5 (by simp)
  have e6 := hs 6 x6 (by simp)
  clear hs
  rcases i with _ | _ | _ | _ | _ | _ | _ | _ | i <;> simp at hx <;> omega
theorem round_at (s : List Nat) (m g : Nat) (w : World) (hl : s.length = 8) (hs : Small s) (hm : m < 4294967296) (A0 : Blk w g 55 (ints .u32 s)) :
    Calls Tryd.prog 85 #[.pointer (some ⟨g, 0, none⟩), .int .u32 (m : Int)] w fun e w' => Blk w' g 55 (ints .u32 (roundL s m)) ∧ Grew w w' g ∧ e = .returned (.tuple #[]) := by
  obtain ⟨x0, x1, x2, x3, x4, x5, x6, x7, rfl⟩ := list8 s hl
  exact round_any x0 x1 x2 x3 x4 x5 x6 x7 m g w (hs 0 x0 (by simp)) (hs 1 x1 (by simp)) (hs 2 x2 (by simp)) (hs 4 x4 (by simp)) (hs 5 x5 (by simp)) (hs 6 x6 (by simp)) hm A0

def rootsL : List Nat := [1116352408, 1899447441, 3049323471, 3921009573, 961987163, 1508970993, 2453635748, 2870763221, 3624381080, 310598401, 607225278, 1426881987, 1925078388, 2162078206, 2614888103, 3248222580, 3835390401, 4022224774, 264347078, 604807628, 770255983, 1249150122, 1555081692, 1996064986, 2554220882, 2821834349, 2952996808, 3210313671, 3336571891, 3584528711, 113926993, 338241895, 666307205, 773529912, 1294757372, 1396182291, 1695183700, 1986661051, 2177026350, 2456956037, 2730485921, 2820302411, 3259730800, 3345764771, 3516065817, 3600352804, 4094571909, 275423344, 430227734, 506948616, 659060556, 883997877, 958139571, 1322822218, 1537002063, 1747873779, 1955562222, 2024104815, 2227730452, 2361852424, 2428436474, 2756734187, 3204031479, 3329325298]
theorem rootsL_len : rootsL.length = 64 := by decide
/-- The program's variable holds the constants. -/
def RootsAt (w : World) : Prop := 1 < w.heap.size ∧ ∀ (i x : Nat), rootsL[i]? = some x → w.cell? ⟨1, i, none⟩ = some (.int .u32 (x : Int))
theorem RootsAt.below {w w' : World} {n : Nat} (h : RootsAt w) (hn : 1 < n) (hb : Below n w w') : RootsAt w' := ⟨Nat.lt_of_lt_of_le h.1 hb.size, fun i x hx => by rw [hb.cell hn]; exact h.2 i x hx⟩

/-- A state behind so many rounds. -/
def roundTo (s ws : List Nat) : Nat → List Nat
  | 0 => s
  | n + 1 => roundL (roundTo s ws n) ((rootsL.getD n 0 + ws.getD n 0) % 4294967296)
theorem roundTo_zero (s ws : List Nat) : roundTo s ws 0 = s := rfl
theorem roundTo_succ (s ws : List Nat) (n : Nat) : roundTo s ws (n + 1) = roundL (roundTo s ws n) ((rootsL.getD n 0 + ws.getD n 0) % 4294967296) := rfl
theorem roundTo_len (s ws : List Nat) (h : s.length = 8) : ∀ n, (roundTo s ws n).length = 8
  | 0 => h
  | n + 1 => by rw [roundTo_succ]; exact roundL_len _ _ (roundTo_len s ws h n)
theorem roundTo_small (s ws : List Nat) (h : s.length = 8) (hs : Small s) : ∀ n, Small (roundTo s ws n)
  | 0 => hs
  | n + 1 => by rw [roundTo_succ]; exact roundL_small _ _ (roundTo_len s ws h n) (roundTo_small s ws h hs n)
def mixedL (s b : List Nat) : List Nat := roundTo s (spreadL b) 64
theorem mixedL_len (s b : List Nat) (h : s.length = 8) : (mixedL s b).length = 8 := roundTo_len s _ h 64
theorem spreadL_len (b : List Nat) : (spreadL b).length = 64 := by unfold spreadL; rw [extTo_len, packTo_len]
theorem wl_cell {ops : Array Oper} {rest : List Oper} {o : Oper} {a : Act} {w : World} {Q : Exit → Act → World → Prop} (hgd : o.guard = none) (e : TypeId) (ag : ∀ w, (isAgg e).run Tryd.prog w = .ok false w) (x : Operand) (ho : o.op = .load e x) (A : Addr) (hx : a.eval x = .pointer (some A)) (v : Value)
    (hc : w.cell? A = some v) (h : wpList Tryd.prog ops Q rest (a.put o.dst v) w) : wpList Tryd.prog ops Q (o :: rest) a w :=
  wl_val hgd v (by
    unfold execOp
    simp only [ho, hx, Instr.loadAt, Instr.sureAddr, Sem.run_bind, Sem.run_pure, Result.andThen_ok]
    simp [loadVar, ag, go_sem, hc]) h

set_option maxHeartbeats 1000000 in
theorem mixed_any (s b : List Nat) (w : World) (hs : s.length = 8) (hS : Small s) (hl : b.length = 64) (hb : ∀ (i x : Nat), b[i]? = some x → x < 256) (hr : RootsAt w) :
    Calls Tryd.prog 73 #[.agg (ints .u32 s), .agg (ints .u8 b)] w fun e w' => e = .returned (.agg (ints .u32 (mixedL s b))) ∧ Below w.heap.size w w' := by
  obtain ⟨L, hL⟩ : ∃ L, L = mixedL s b := ⟨_, rfl⟩
  rw [← hL]
  have EL : Kept _ := ⟨hL⟩
  have HL : Kept (L.length = 8) := ⟨by rw [hL]; exact mixedL_len s b hs⟩
  have KS : Kept _ := ⟨hS⟩
  have KB : Kept _ := ⟨hb⟩
  have KR : Kept _ := ⟨hr⟩
  have h0 := hr.1
  clear hL hS hb hr
  go_enter Tryd.func73, Tryd.ntmps73
  go_wp2_with fail
  generalize hW : (((w.alloc (.cells (ints .u32 s) 55)).alloc (.cells (ints .u8 b) 56)).alloc (.cells #[.int .u32 0, .int .u32 0, .int .u32 0, .int .u32 0, .int .u32 0, .int .u32 0, .int .u32 0, .int .u32 0] 55)).alloc (.cells #[.int .u32 0, .int .u32 0, .int .u32 0, .int .u32 0, .int .u32 0, .int .u32 0, .int .u32 0, .int .u32 0] 55) = W0
  have B0 : Blk W0 w.heap.size 55 (ints .u32 s) := by subst hW; exact (((blk_new w _ _).alloc _).alloc _).alloc _
  have B1 : Blk W0 (w.heap.size + 1) 56 (ints .u8 b) := by subst hW; exact ((blk_top _ _ _ _ (by simp)).alloc _).alloc _
  have B2 : Blk W0 (w.heap.size + 2) 55 #[.int .u32 0, .int .u32 0, .int .u32 0, .int .u32 0, .int .u32 0, .int .u32 0, .int .u32 0, .int .u32 0] := by subst hW; exact (blk_top _ _ _ _ (by simp)).alloc _
  have B3 : Blk W0 (w.heap.size + 3) 55 #[.int .u32 0, .int .u32 0, .int .u32 0, .int .u32 0, .int .u32 0, .int .u32 0, .int .u32 0, .int .u32 0] := by subst hW; exact blk_top _ _ _ _ (by simp)
  have QB : Below w.heap.size w W0 := by subst hW; exact ((((Below.refl _ _).alloc (Nat.le_refl _) _).alloc (by simp) _).alloc (by simp; omega) _).alloc (by simp; omega) _
  clear hW
  refine wp_region_quiet_under (C := fun w' => Below W0.heap.size W0 w') 2 rfl (by kernel_rfl) (by kernel_rfl) (by kernel_rfl) (by kernel_rfl) (by kernel_rfl) (Below.drew (Below.refl _ _)) ?_
  dsimp only [List.take_succ_cons, List.take_zero]
  refine q_val (by kernel_rfl) (.slice (some ⟨w.heap.size + 1 + 1 + 1, 0, none⟩) 8 8) (fun w' => by kernel_rfl) ?_
  simp only [Act.put, List.setIfInBounds_toArray, List.set_cons_succ, List.set_cons_zero]
  refine q_val (by kernel_rfl) (.slice (some ⟨w.heap.size, 0, none⟩) 8 8) (fun w' => by kernel_rfl) ?_
  simp only [Act.put, List.setIfInBounds_toArray, List.set_cons_succ, List.set_cons_zero]
  refine wpQuiet_nil ?_
  intro w1 hb1
  have C0 := B0.under hb1
  have C1 := B1.under hb1
  have C2 := B2.under hb1
  have C3 := B3.under hb1
  have QC := QB.trans (hb1.mono QB.size)
  clear B0 B1 B2 B3 QB hb1
  have e8 : (ints .u32 s).toList.length = 8 := by simp [ints, hs]
  refine wl_copy rfl (.tmp 8) (.tmp 9) 122 122 rfl 45 Tryd.underlying122 (by kernel_rfl) (w.heap.size + 1 + 1 + 1) 0 8 8 ⟨w.heap.size, 0, none⟩ 8 8 (by kernel_rfl) (by kernel_rfl) _ C3 (ints .u32 s).toList (by rw [e8]; rfl) ?hsrc (by rw [e8]; decide) ?hone ?_
  case hsrc =>
    intro j v hv
    rw [addr_add, Nat.zero_add]
    exact C0.cell (by simpa using hv)
  case hone =>
    intro v hv
    simp [ints] at hv
    obtain ⟨x, _, rfl⟩ := hv
    rfl
  intro w2 D3 P2
  have es : (splice (#[.int .u32 0, .int .u32 0, .int .u32 0, .int .u32 0, .int .u32 0, .int .u32 0, .int .u32 0, .int .u32 0] : Array Value).toList 0 (ints .u32 s).toList).toArray = ints .u32 s := by
    unfold splice
    rw [List.take_zero, List.nil_append, Nat.zero_add, e8]
    simp
  rw [es] at D3
  have D1 := P2.blk C1 (by omega)
  have D2 := P2.blk C2 (by omega)
  have QD := QC.trans (P2.below (by omega))
  clear C0 C1 C2 C3 QC P2 e8 es
  go_wp2_with (first | (refine wl_load rfl 56 (.tmp 3) rfl _ rfl (ints .u8 b) 64 5 Tryd.underlying56 (by rw [ints_size, hl]; exact b64_info) D1 ?_))
  obtain ⟨ws, hws⟩ : ∃ ws, ws = spreadL b := ⟨_, rfl⟩
  have hc := spread_any b w2 hl KB.out
  rw [← hws] at hc
  have LW : Kept (ws.length = 64) := ⟨by rw [hws]; exact spreadL_len b⟩
  have EM : Kept (L = roundTo s ws 64) := ⟨by rw [EL.out, hws]; rfl⟩
  refine hc.mono ?_
  clear hc hws
  rintro e w3 ⟨rfl, hb3⟩
  have B2 := D2.under hb3
  have B3 := D3.under hb3
  have QB := QD.trans (hb3.mono QD.size)
  rw [← roundTo_zero s ws] at B3
  clear D1 D2 D3 QD hb3
  go_wp2_with fail
  go_loopg [13] 64 (fun k s13 wr => ∃ n : Nat, n + k = 64 ∧ s13 = .int .i64 (n : Int) ∧ Below w.heap.size w wr ∧ Blk wr (w.heap.size + 2) 55 #[.int .u32 0, .int .u32 0, .int .u32 0, .int .u32 0, .int .u32 0, .int .u32 0, .int .u32 0, .int .u32 0] ∧ Blk wr (w.heap.size + 3) 55 (ints .u32 (roundTo s ws n)))
  case atStart => exact ⟨0, by omega, rfl, QB, B2, B3⟩
  case round =>
    obtain ⟨n, hnk, rfl, HB, A2, A3⟩ := hrel
    clear QB B2 B3
    by_cases hk0 : gk = 0
    · obtain rfl : n = 64 := by omega
      rw [← EM.out] at A3
      go_wp2_with (first | (refine wl_load rfl 55 (.tmp 5) rfl _ rfl (ints .u32 L) 8 45 Tryd.underlying55 (by rw [ints_size, HL.out]; exact u32_info) A3 ?_) | (refine wl_store rfl 55 (.tmp 4) (.tmp 24) rfl _ (ints .u32 L) rfl rfl _ A2 (by rw [ints_size, HL.out]; exact u32_info) (by rw [ints_size, HL.out]; rfl) (ints_one _ _) ?_))
      intro w4 A4 P4
      go_wp2
      exact bodyPost_ret (v := .agg (ints .u32 L)) (results_cell_row Tryd.results73 _ _ _ 55 (ints .u32 L) (0, 0) _ rfl A4 Tryd.underlying55 rfl (by rw [ints_size, HL.out]; exact u32_info)) rfl ⟨rfl, HB.trans (P4.below (by omega))⟩
    · have hil : n < 64 := by omega
      have hlt : ((n : Int) < 64) := by omega
      obtain ⟨x, hx⟩ : ∃ x, ws[n]? = some x := ⟨_, List.getElem?_eq_getElem (by have := LW.out; omega)⟩
      obtain ⟨y, hy⟩ : ∃ y, rootsL[n]? = some y := ⟨_, List.getElem?_eq_getElem (by rw [rootsL_len]; exact hil)⟩
      have RC := (KR.out.below h0 HB).2 n y hy
      obtain ⟨m, hm⟩ : ∃ m, m = (y + x) % 4294967296 := ⟨_, rfl⟩
      have em : ((y : Int) + x) % 4294967296 = (m : Int) := by rw [hm]; omega
      have lm : m < 4294967296 := by rw [hm]; exact Nat.mod_lt _ (by decide)
      obtain ⟨P, hP⟩ : ∃ P, P = roundTo s ws n := ⟨_, rfl⟩
      have KN : Kept (roundL P m = roundTo s ws (n + 1)) := ⟨by rw [roundTo_succ, ← hP, hm]; simp [List.getD_eq_getElem?_getD, hx, hy]⟩
      have LP : Kept (P.length = 8) := ⟨by rw [hP]; exact roundTo_len s ws hs n⟩
      have SP : Kept (Small P) := ⟨by rw [hP]; exact roundTo_small s ws hs KS.out n⟩
      rw [← hP] at A3
      have KM : Kept _ := ⟨lm⟩
      clear hP hm lm
      go_wp2_with (first | (refine wl_at (d := 16) rfl rfl (.int .u32 (x : Int)) ?h1 ?_; (case h1 => exact index_run rfl rfl rfl Tryd.underlying123 hil ag_u32 sz_u32 (ints_get hx) _); simp only [Act.put, List.setIfInBounds_toArray, List.set_cons_succ, List.set_cons_zero]) | (refine wl_cell rfl 45 ag_u32 (.tmp 18) rfl ⟨0, n, none⟩ rfl (.int .u32 (y : Int)) RC ?_))
      try rw [em]
      refine (round_at P m _ wr LP.out SP.out KM.out A3).mono ?_
      rintro e w4 ⟨A4, G4, rfl⟩
      rw [KN.out] at A4
      have A24 := G4.blk A2 (by omega)
      have HB4 := HB.trans (G4.below (B := w.heap.size) (by omega) HB.size)
      clear A2 A3 HB G4 RC hx hy em KN
      go_wp2_with fail
      go_roundg (gk - 1)
      case measure => omega
      case rel => exact ⟨n + 1, by omega, by simp, HB4, A24, A4⟩
end Go.Proofs.YtkibojjbghopkaaDoor.sh
/-
  A digest in memory; bytes that come in; what bytes one by one make of a digest.
-/
namespace Go.Proofs.YtkibojjbghopkaaDoor.sh
open Go Go.RowKit
set_option linter.unusedVariables false
set_option linter.unusedSimpArgs false

/-- All below 256. -/
def Bytes (l : List Nat) : Prop := ∀ (i x : Nat), l[i]? = some x → x < 256
theorem Bytes.drop {l : List Nat} (h : Bytes l) (k : Nat) : Bytes (l.drop k) := fun i x hx => h (k + i) x (by rw [List.getElem?_drop] at hx; exact hx)
theorem Bytes.take {l : List Nat} (h : Bytes l) (k : Nat) : Bytes (l.take k) := fun i x hx => by
  rw [List.getElem?_take] at hx
  split at hx
  · exact h i x hx
  · cases hx
theorem Bytes.append {l m : List Nat} (h : Bytes l) (h' : Bytes m) : Bytes (l ++ m) := fun i x hx => by
  rw [List.getElem?_append] at hx
  split at hx
  · exact h i x hx
  · exact h' _ x hx
theorem Bytes.splice {l m : List Nat} (h : Bytes l) (h' : Bytes m) (o : Nat) : Bytes (splice l o m) := (h.take o).append (h'.append (h.drop _))
theorem bytes_zero (n : Nat) : Bytes (List.replicate n 0) := fun i x hx => by
  rw [List.getElem?_replicate] at hx
  split at hx <;> simp at hx
  omega

theorem splice_len {l m : List Nat} {o : Nat} (h : o + m.length ≤ l.length) : (splice l o m).length = l.length := length_splice l o m h
theorem splice_mid {α : Type} (X Y Z cs : List α) (i : Nat) (h : i + cs.length ≤ Y.length) : splice (X ++ (Y ++ Z)) (X.length + i) cs = X ++ (splice Y i cs ++ Z) := by
  unfold splice
  have e1 : (X ++ (Y ++ Z)).take (X.length + i) = X ++ Y.take i := by
    rw [List.take_append, List.take_of_length_le (by omega), Nat.add_sub_cancel_left, List.take_append_of_le_length (by omega)]
  have e2 : (X ++ (Y ++ Z)).drop (X.length + i + cs.length) = Y.drop (i + cs.length) ++ Z := by
    rw [show X.length + i + cs.length = X.length + (i + cs.length) from by omega, List.drop_append, List.drop_of_length_le (by omega), List.nil_append, Nat.add_sub_cancel_left, List.drop_append_of_le_length (by omega)]
  rw [e1, e2]
  simp
theorem splice_ints (k : IntKind) (l m : List Nat) (o : Nat) : splice (ints k l).toList o (ints k m).toList = (ints k (splice l o m)).toList := by
  simp [splice, ints, List.map_take, List.map_drop]
theorem splice_all {α : Type} (l m : List α) (h : m.length = l.length) : splice l 0 m = m := by
  unfold splice
  rw [List.take_zero, List.nil_append, Nat.zero_add, h, List.drop_length, List.append_nil]
theorem splice_nil {α : Type} (l : List α) (o : Nat) : splice l o [] = l := by
  unfold splice
  simp
theorem splice_cons (l : List Nat) (o x : Nat) (r : List Nat) (h : o < l.length) : splice (l.set o x) (o + 1) r = splice l o (x :: r) := by
  unfold splice
  have e1 : (l.set o x).take (o + 1) = l.take o ++ [x] := by
    rw [List.take_add_one, List.getElem?_set_self h, List.take_set_of_le (Nat.le_refl _)]
    rfl
  have e2 : (l.set o x).drop (o + 1 + r.length) = l.drop (o + (x :: r).length) := by
    rw [List.drop_set_of_lt (by omega), List.length_cons]
    congr 1
    omega
  rw [e1, e2]
  simp

/-- The cells of a digest. -/
def digA (G R : List Nat) (n : Nat) : Array Value := ((ints .u32 G).toList ++ ((ints .u8 R).toList ++ [Value.int .u64 (n : Int)])).toArray
theorem digA_size (G R : List Nat) (n : Nat) (hG : G.length = 8) (hR : R.length = 64) : (digA G R n).size = 73 := by simp [digA, ints, hG, hR]
theorem digA_n (G R : List Nat) (n : Nat) (hG : G.length = 8) (hR : R.length = 64) : (digA G R n)[72]? = some (.int .u64 (n : Int)) := by
  simp [digA, ints, List.getElem?_append, hG, hR]
theorem digA_setn (G R : List Nat) (n m : Nat) (hG : G.length = 8) (hR : R.length = 64) : (digA G R n).setIfInBounds 72 (.int .u64 (m : Int)) = digA G R m := by
  simp [digA, ints, List.set_append, hG, hR]
theorem digA_g (G R : List Nat) (n : Nat) (hG : G.length = 8) (j : Nat) (v : Value) (hv : (ints .u32 G)[j]? = some v) : (digA G R n)[0 + j]? = some v := by
  have hj : j < 8 := by have := (Array.getElem?_eq_some_iff.1 hv).1; rw [ints_size, hG] at this; exact this
  rw [Nat.zero_add, ← hv]
  simp [digA, List.getElem?_append, ints, hG, hj]
theorem digA_r (G R : List Nat) (n : Nat) (hG : G.length = 8) (hR : R.length = 64) (j : Nat) (v : Value) (hv : (ints .u8 R)[j]? = some v) : (digA G R n)[8 + j]? = some v := by
  have hj : j < 64 := by have := (Array.getElem?_eq_some_iff.1 hv).1; rw [ints_size, hR] at this; exact this
  rw [← hv]
  have h1 : ¬ (8 + j < 8) := by omega
  simp [digA, List.getElem?_append, ints, hG, hR, hj]
theorem digA_setg (G R G' : List Nat) (n : Nat) (hG : G.length = 8) (hG' : G'.length = 8) : (splice (digA G R n).toList 0 (ints .u32 G').toList).toArray = digA G' R n := by
  have h := splice_mid ([] : List Value) (ints .u32 G).toList ((ints .u8 R).toList ++ [.int .u64 (n : Int)]) (ints .u32 G').toList 0 (by simp [ints, hG, hG'])
  simp only [List.nil_append, List.length_nil, Nat.zero_add] at h
  unfold digA
  rw [h, splice_all _ _ (by simp [ints, hG, hG'])]
theorem digA_setr (G R cs : List Nat) (n o : Nat) (hG : G.length = 8) (h : o + cs.length ≤ R.length) : (splice (digA G R n).toList (8 + o) (ints .u8 cs).toList).toArray = digA G (splice R o cs) n := by
  have h := splice_mid (ints .u32 G).toList (ints .u8 R).toList [.int .u64 (n : Int)] (ints .u8 cs).toList o (by simpa [ints] using h)
  have e : (ints .u32 G).toList.length = 8 := by simp [ints, hG]
  rw [e] at h
  unfold digA
  rw [h, splice_ints]

/-- Bytes that a slice holds. -/
def BytesV (v : Value) (w : World) (bs : List Nat) : Prop := ∃ p c, v = .slice p bs.length c ∧ bs.length ≤ c ∧ (bs ≠ [] → ∃ A, p = some A ∧ A.block < w.heap.size ∧ ∀ (j x : Nat), bs[j]? = some x → w.cell? (A.add j) = some (.int .u8 (x : Int)))
theorem add_block (A : Addr) (k : Nat) : (A.add k).block = A.block := by unfold Addr.add; split <;> rfl
theorem add_add (A : Addr) (k j : Nat) : (A.add k).add j = A.add (k + j) := by
  unfold Addr.add
  by_cases hk : k = 0
  · subst hk; simp
  · by_cases hj : j = 0
    · subst hj; simp [hk]
    · simp [hk, hj]; omega
theorem BytesV.under {v : Value} {w w' : World} {bs : List Nat} (h : BytesV v w bs) (hb : Below w.heap.size w w') : BytesV v w' bs := by
  obtain ⟨p, c, h1, h2, h3⟩ := h
  refine ⟨p, c, h1, h2, fun hne => ?_⟩
  obtain ⟨A, e1, e2, e3⟩ := h3 hne
  exact ⟨A, e1, Nat.lt_of_lt_of_le e2 hb.size, fun j x hx => by rw [hb.cell (by rw [add_block]; exact e2)]; exact e3 j x hx⟩
theorem bytesV_slice {t : TypeId} {bs : List Nat} {cap : Nat} {v : Value} {w : World} (h : SliceAt t .u8 bs cap v w) (hc : bs.length ≤ cap) : BytesV v w bs := by
  obtain ⟨g, rfl, hb⟩ := h
  exact ⟨_, cap, rfl, hc, fun _ => ⟨_, rfl, hb.lt, fun j x hx => by rw [addr_add, Nat.zero_add]; exact hb.cell (ints_get hx)⟩⟩

section
variable {o : Oper} {a : Act} {x y : Operand}
theorem cut_run {p : Option Addr} {l c k : Nat} {t e : TypeId} (ho : o.op = .slice t x (some y) none none) (hx : a.eval x = .slice p l c) (hy : a.eval y = .int .i64 (k : Int)) (ht : Tryd.prog.underlying t = some (.slice e)) (sz : ∀ w, (sizeOf e).run Tryd.prog w = .ok 1 w) (hk : k ≤ l) (w : World) :
    (execOp a.eval o).run Tryd.prog w = .ok (.value (.slice (if c = k then p else p.map (·.add k)) (l - k) (c - k))) w := by
  have h1 : ((k : Int) ≤ (l : Int)) := by omega
  unfold execOp
  simp only [ho, hx, hy, Option.map_some, Option.map_none, Instr.sliceAt, Instr.slice, Instr.sliceBounds, Sem.run_bind, run_underlying ht, Result.andThen_ok]
  simp [Instr.sliceBound, asIntOf, sz, go_sem, h1]
  intro h
  omega
theorem arr_cut_run {g off n k : Nat} {t e : TypeId} (ho : o.op = .slice t x (some y) none none) (hx : a.eval x = .pointer (some ⟨g, off, none⟩)) (hy : a.eval y = .int .i64 (k : Int)) (ht : Tryd.prog.underlying t = some (.array n e)) (sz : ∀ w, (sizeOf e).run Tryd.prog w = .ok 1 w) (hk : k < n) (w : World) :
    (execOp a.eval o).run Tryd.prog w = .ok (.value (.slice (some ⟨g, off + k, none⟩) (n - k) (n - k))) w := by
  have h1 : ((k : Int) ≤ (n : Int)) := by omega
  have h2 : ¬ n = k := by omega
  unfold execOp
  simp only [ho, hx, hy, Option.map_some, Option.map_none, Instr.sliceAt, Instr.sliceBounds, Sem.run_bind, run_underlying ht, Result.andThen_ok]
  simp [Instr.sliceBound, Instr.sureAddr, asIntOf, sz, go_sem, h1, h2, addr_add]
  intro h
  omega
end
theorem BytesV.cut {p : Option Addr} {c k : Nat} {w : World} {bs : List Nat} (h : BytesV (.slice p bs.length c) w bs) (hk : k ≤ bs.length) : BytesV (.slice (if c = k then p else p.map (·.add k)) (bs.length - k) (c - k)) w (bs.drop k) := by
  obtain ⟨p', c', h1, h2, h3⟩ := h
  cases h1
  refine ⟨_, c - k, by rw [List.length_drop], by rw [List.length_drop]; omega, fun hne => ?_⟩
  have hlt : k < bs.length := by
    rcases Nat.lt_or_ge k bs.length with h | h
    · exact h
    · exact absurd (List.drop_of_length_le h) hne
  obtain ⟨A, rfl, e2, e3⟩ := h3 (by intro e; rw [e] at hlt; simp at hlt)
  rw [if_neg (by omega)]
  refine ⟨A.add k, rfl, by rw [add_block]; exact e2, fun j x hx => ?_⟩
  rw [add_add]
  rw [List.getElem?_drop] at hx
  exact e3 _ x hx

/-- What one byte more makes of a digest. -/
def feed1 (s : List Nat × List Nat × Nat) (x : Nat) : List Nat × List Nat × Nat :=
  if s.2.2 % 64 = 63 then (plusL s.1 (mixedL (plusL firstL s.1) (s.2.1.set 63 x)), List.replicate 64 0, s.2.2 + 1) else (s.1, s.2.1.set (s.2.2 % 64) x, s.2.2 + 1)
def feed (s : List Nat × List Nat × Nat) (bs : List Nat) : List Nat × List Nat × Nat := bs.foldl feed1 s
theorem feed_append (s : List Nat × List Nat × Nat) (a b : List Nat) : feed s (a ++ b) = feed (feed s a) b := by unfold feed; rw [List.foldl_append]
theorem feed_cons (s : List Nat × List Nat × Nat) (x : Nat) (r : List Nat) : feed s (x :: r) = feed (feed1 s x) r := rfl
theorem feed_nil (s : List Nat × List Nat × Nat) : feed s [] = s := rfl
theorem feed_part (G : List Nat) : ∀ (cs R : List Nat) (n : Nat), R.length = 64 → n % 64 + cs.length < 64 → feed (G, R, n) cs = (G, splice R (n % 64) cs, n + cs.length)
  | [], R, n, hR, h => by rw [feed_nil, splice_nil]; rfl
  | x :: r, R, n, hR, h => by
    simp only [List.length_cons] at h
    have h1 : ¬ n % 64 = 63 := by omega
    have e : feed1 (G, R, n) x = (G, R.set (n % 64) x, n + 1) := if_neg h1
    have h2 : (n + 1) % 64 = n % 64 + 1 := by omega
    rw [feed_cons, e, feed_part G r _ (n + 1) (by rw [List.length_set]; exact hR) (by omega), h2, splice_cons R _ x r (by omega)]
    simp only [List.length_cons, Prod.mk.injEq, true_and]
    omega
theorem feed_chunk (G : List Nat) : ∀ (cs R : List Nat) (n : Nat), R.length = 64 → n % 64 + cs.length = 64 → feed (G, R, n) cs = (plusL G (mixedL (plusL firstL G) (splice R (n % 64) cs)), List.replicate 64 0, n + cs.length)
  | [], R, n, hR, h => by simp only [List.length_nil] at h; omega
  | x :: r, R, n, hR, h => by
    simp only [List.length_cons] at h
    by_cases h1 : n % 64 = 63
    · have hr : r = [] := List.eq_nil_of_length_eq_zero (by omega)
      subst hr
      have e : feed1 (G, R, n) x = (plusL G (mixedL (plusL firstL G) (R.set 63 x)), List.replicate 64 0, n + 1) := if_pos h1
      have e2 := splice_cons R 63 x [] (by omega)
      rw [splice_nil] at e2
      rw [feed_cons, feed_nil, e, h1, ← e2]
      rfl
    · have e : feed1 (G, R, n) x = (G, R.set (n % 64) x, n + 1) := if_neg h1
      have h2 : (n + 1) % 64 = n % 64 + 1 := by omega
      rw [feed_cons, e, feed_chunk G r _ (n + 1) (by rw [List.length_set]; exact hR) (by omega), h2, splice_cons R _ x r (by omega)]
      simp only [List.length_cons, Prod.mk.injEq, true_and]
      omega
theorem firstL_len : firstL.length = 8 := by decide
theorem plusL_small (a b : List Nat) : Small (plusL a b) := by
  intro i x hx
  unfold plusL at hx
  rw [List.getElem?_zipWith] at hx
  cases h1 : a[i]? with
  | none => simp [h1] at hx
  | some p =>
    cases h2 : b[i]? with
    | none => simp [h1, h2] at hx
    | some q =>
      simp [h1, h2] at hx
      rw [← hx]
      exact Nat.mod_lt _ (by decide)
/-- A digest as it may be. -/
structure Good (s : List Nat × List Nat × Nat) : Prop where
  g : s.1.length = 8
  gs : Small s.1
  r : s.2.1.length = 64
  rb : Bytes s.2.1
theorem Good.feed1 {s : List Nat × List Nat × Nat} (h : Good s) (x : Nat) (hx : x < 256) : Good (feed1 s x) := by
  have hset : ∀ i, Bytes (s.2.1.set i x) := fun i j y hy => by
    by_cases hij : i = j
    · subst hij
      rw [List.getElem?_set_self'] at hy
      cases hq : s.2.1[i]? with
      | none => simp [hq] at hy
      | some z => simp [hq] at hy; omega
    · rw [List.getElem?_set_ne hij] at hy
      exact h.rb j y hy
  unfold sh.feed1
  split
  · have l1 : (plusL firstL s.1).length = 8 := by rw [plusL_len _ _ (by rw [firstL_len, h.g])]; exact firstL_len
    exact ⟨by rw [plusL_len _ _ (by rw [mixedL_len _ _ l1, h.g])]; exact h.g, plusL_small _ _, by simp, bytes_zero 64⟩
  · exact ⟨h.g, h.gs, by rw [List.length_set]; exact h.r, hset _⟩
theorem Good.feed {s : List Nat × List Nat × Nat} (h : Good s) : ∀ (bs : List Nat), Bytes bs → Good (feed s bs) := by
  intro bs
  induction bs generalizing s with
  | nil => intro _; exact h
  | cons x r ih =>
    intro hb
    rw [feed_cons]
    exact ih (h.feed1 x (hb 0 x rfl)) (fun i y hy => hb (i + 1) y hy)
theorem feed_n (s : List Nat × List Nat × Nat) : ∀ (bs : List Nat), (feed s bs).2.2 = s.2.2 + bs.length := by
  intro bs
  induction bs generalizing s with
  | nil => rfl
  | cons x r ih =>
    rw [feed_cons, ih]
    have : (feed1 s x).2.2 = s.2.2 + 1 := by unfold feed1; split <;> rfl
    rw [this, List.length_cons]
    omega

/-- A part of a block is written. -/
def setRange : Array Value → Nat → List Value → Array Value
  | A, _, [] => A
  | A, o, v :: r => setRange (A.setIfInBounds o v) (o + 1) r
theorem setRange_splice : ∀ (vs : List Value) (A : Array Value) (o : Nat), o + vs.length ≤ A.size → setRange A o vs = (splice A.toList o vs).toArray
  | [], A, o, h => by simp [setRange, splice]
  | v :: r, A, o, h => by
    simp only [List.length_cons] at h
    rw [setRange, setRange_splice r _ _ (by simp; omega)]
    congr 1
    unfold splice
    have hl : o < A.toList.length := by simp; omega
    have e1 : (A.setIfInBounds o v).toList.take (o + 1) = A.toList.take o ++ [v] := by
      rw [Array.toList_setIfInBounds, List.take_add_one, List.getElem?_set_self hl, List.take_set_of_le (Nat.le_refl _)]
      rfl
    have e2 : (A.setIfInBounds o v).toList.drop (o + 1 + r.length) = A.toList.drop (o + (v :: r).length) := by
      rw [Array.toList_setIfInBounds, List.drop_set_of_lt (by omega), List.length_cons]
      congr 1
      omega
    rw [e1, e2]
    simp
theorem setCells_heap {g : Nat} {t : TypeId} : ∀ (vs : List Value) (A : Array Value) (o : Nat) (w : World), w.heap[g]? = some (.cells A t (0, 0)) → (w.setCells g o vs).heap[g]? = some (.cells (setRange A o vs) t (0, 0))
  | [], _, _, _, h => h
  | v :: r, A, o, w, h => setCells_heap r _ _ _ (heap_setCell_same w g o A t v h)
theorem setCells_other {g k : Nat} (hne : k ≠ g) : ∀ (vs : List Value) (o : Nat) (w : World), (w.setCells g o vs).heap[k]? = w.heap[k]?
  | [], _, _ => rfl
  | v :: r, o, w => by rw [World.setCells, setCells_other hne r]; exact heap_setCell_other w ⟨g, o, none⟩ k v hne
theorem setCells_same (g : Nat) : ∀ (vs : List Value) (o : Nat) (w : World), (w.setCells g o vs).heap.size = w.heap.size ∧ (w.setCells g o vs).os = w.os ∧ (w.setCells g o vs).tape = w.tape ∧ (w.setCells g o vs).output = w.output
  | [], _, _ => ⟨rfl, rfl, rfl, rfl⟩
  | v :: r, o, w => by
    have h := setCells_same g r (o + 1) (w.setCell ⟨g, o, none⟩ v)
    rw [World.setCells]
    exact ⟨by rw [h.1]; simp, h.2.1, h.2.2.1, h.2.2.2⟩
theorem wl_setPart {ops : Array Oper} {rest : List Oper} {o : Oper} {a : Act} {w : World} {Q : Exit → Act → World → Prop} (hgd : o.guard = none) (ty : TypeId) (x y : Operand) (ho : o.op = .store ty x y) (g off : Nat) (es : Array Value) (hx : a.eval x = .pointer (some ⟨g, off, none⟩)) (hy : a.eval y = .agg es) {t : TypeId} (cur : Array Value) (hg : Blk w g t cur)
    (hfit : off + es.size ≤ cur.size) (hs : (Tryd.prog.info? ty).map (·.size) = some es.size) (h1 : es.all (·.oneCell') = true) (h : ∀ w', Blk w' g t (splice cur.toList off es.toList).toArray → Put w w' g → wpList Tryd.prog ops Q rest (a.put o.dst undef) w') : wpList Tryd.prog ops Q (o :: rest) a w := by
  have ht : w.there g off es.size := fun j hj => by
    have hlt : off + j < cur.size := by omega
    exact ⟨by rw [cell_row hg (Array.getElem?_eq_getElem hlt)]; rfl, frozen_of_row w g _ _ _ hg⟩
  refine wpList_store_mid hgd ty x y ho g off es hx hy ht hs h1 (h _ ?_ ?_)
  · have := setCells_heap es.toList cur off w hg
    rw [setRange_splice _ _ _ (by simpa using hfit)] at this
    exact this
  · have hs := setCells_same g es.toList off w
    exact ⟨⟨hs.2.1, hs.2.2.1, hs.2.2.2, by rw [hs.1]; exact Nat.le_refl _, fun k _ hk => setCells_other (fun e => hk (by rw [e])) _ _ _⟩, hs.1⟩
/-- A part of a block is read, in a region that draws its order. -/
theorem q_part {P : Program} {ops : Array Oper} {C : World → Prop} {Q : Act → Prop} {a : Act} {o : Oper} {rest : List Oper} (hw : Region.wanted o (yielded ops a.tmps) = true) (ty : TypeId) (x : Operand) (ho : o.op = .load ty x) (g off : Nat) (hx : a.eval x = .pointer (some ⟨g, off, none⟩)) (t : TypeId) (cs es : Array Value) (len : Nat) (e : TypeId)
    (hg : ∀ w, C w → Blk w g t cs) (hp : ∀ j v, es[j]? = some v → cs[off + j]? = some v) (hu : P.underlying ty = some (.array len e)) (hi : (P.info? ty).map (·.size) = some es.size) (h : wpQuiet P ops C Q rest (a.put o.dst (.agg es))) : wpQuiet P ops C Q (o :: rest) a := by
  refine BigFrame.wpQuiet_want hw fun K hK => ⟨.agg es, fun w hC => ?_, hK _ h⟩
  unfold Oper.quietAt execOp
  simp only [ho, hx, Instr.loadAt, Instr.sureAddr, Sem.run_bind, Sem.run_pure, Result.andThen_ok, run_loadVar_at w g off t ty cs es (0, 0) _ (hg w hC) hp hu rfl hi]
  exact ⟨rfl, rfl⟩
end Go.Proofs.YtkibojjbghopkaaDoor.sh
