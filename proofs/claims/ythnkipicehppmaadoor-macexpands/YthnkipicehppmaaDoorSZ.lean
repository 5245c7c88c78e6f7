/-
  What 64 rounds make of a state and a block.
-/
import Derived.Test.YthnkipicehppmaaDoorSY
namespace Go.Proofs.YthnkipicehppmaaDoor.sh
open Go Go.RowKit
set_option linter.unusedVariables false
set_option linter.unusedSimpArgs false

theorem list8 (s : List Nat) (h : s.length = 8) : ∃ x0 x1 x2 x3 x4 x5 x6 x7, s = [x0, x1, x2, x3, x4, x5, x6, x7] := by
  match s, h with
  | [x0, x1, x2, x3, x4, x5, x6, x7], _ => exact ⟨x0, x1, x2, x3, x4, x5, x6, x7, rfl⟩
theorem roundL_eq (a b c d e f g h m : Nat) : roundL [a, b, c, d, e, f, g, h] m = [(tN e f g h m + uN a b c) % 4294967296, a, b, c, (d + tN e f g h m) % 4294967296, e, f, g] := by unfold roundL; rfl
theorem roundL_len (s : List Nat) (m : Nat) (h : s.length = 8) : (roundL s m).length = 8 := by
  obtain ⟨x0, x1, x2, x3, x4, x5, x6, x7, rfl⟩ := list8 s h
  rw [roundL_eq]
  simp only [List.length_cons, List.length_nil]
theorem roundL_small (s : List Nat) (m : Nat) (h : s.length = 8) (hs : Small s) : Small (roundL s m) := by
  obtain ⟨x0, x1, x2, x3, x4, x5, x6, x7, rfl⟩ := list8 s h
  intro i x hx
  rw [roundL_eq] at hx
  obtain ⟨p, hp⟩ : ∃ p, p = (tN x4 x5 x6 x7 m + uN x0 x1 x2) % 4294967296 := ⟨_, rfl⟩
  obtain ⟨q, hq⟩ : ∃ q, q = (x3 + tN x4 x5 x6 x7 m) % 4294967296 := ⟨_, rfl⟩
  have lp : p < 4294967296 := by rw [hp]; exact Nat.mod_lt _ (by decide)
  have lq : q < 4294967296 := by rw [hq]; exact Nat.mod_lt _ (by decide)
  rw [← hp, ← hq] at hx
  clear hp hq
  have e0 := hs 0 x0 (by simp)
  have e1 := hs 1 x1 (by simp)
  have e2 := hs 2 x2 (by simp)
  have e4 := hs 4 x4 (by simp)
  have e5 := hs 5 x5 (by simp)
  have e6 := hs 6 x6 (by simp)
  clear hs
  rcases i with _ | _ | _ | _ | _ | _ | _ | _ | i <;> simp at hx <;> omega
theorem round_at (s : List Nat) (m g : Nat) (w : World) (hl : s.length = 8) (hs : Small s) (hm : m < 4294967296) (A0 : Blk w g 49 (ints .u32 s)) :
    Calls Tryd.prog 45 #[.pointer (some ⟨g, 0, none⟩), .int .u32 (m : Int)] w fun e w' => Blk w' g 49 (ints .u32 (roundL s m)) ∧ Grew w w' g ∧ e = .returned (.tuple #[]) := by
  obtain ⟨x0, x1, x2, x3, x4, x5, x6, x7, rfl⟩ := list8 s hl
  exact round_any x0 x1 x2 x3 x4 x5 x6 x7 m g w (hs 0 x0 (by simp)) (hs 1 x1 (by simp)) (hs 2 x2 (by simp)) (hs 4 x4 (by simp)) (hs 5 x5 (by simp)) (hs 6 x6 (by simp)) hm A0

def rootsL : List Nat := [1116352408, 1899447441, 3049323471, 3921009573, 961987163, 1508970993, 2453635748, 2870763221, 3624381080, 310598401, 607225278, 1426881987, 1925078388, 2162078206, 2614888103, 3248222580, 3835390401, 4022224774, 264347078, 604807628, 770255983, 1249150122, 1555081692, 1996064986, 2554220882, 2821834349, 2952996808, 3210313671, 3336571891, 3584528711, 113926993, 338241895, 666307205, 773529912, 1294757372, 1396182291, 1695183700, 1986661051, 2177026350, 2456956037, 2730485921, 2820302411, 3259730800, 3345764771, 3516065817, 3600352804, 4094571909, 275423344, 430227734, 506948616, 659060556, 883997877, 958139571, 1322822218, 1537002063, 1747873779, 1955562222, 2024104815, 2227730452, 2361852424, 2428436474, 2756734187, 3204031479, 3329325298]
theorem rootsL_len : rootsL.length = 64 := by decide
theorem rootsL_small : Small rootsL := by
  intro i x hx
  have h : rootsL.all (fun x => decide (x < 4294967296)) = true := by decide
  have := List.all_eq_true.1 h x (List.mem_of_getElem? hx)
  simpa using this
/-- The program's variable holds the constants. -/
def RootsAt (w : World) : Prop := 0 < w.heap.size ∧ ∀ (i x : Nat), rootsL[i]? = some x → w.cell? ⟨0, i, none⟩ = some (.int .u32 (x : Int))
theorem RootsAt.below {w w' : World} {n : Nat} (h : RootsAt w) (hn : 0 < n) (hb : Below n w w') : RootsAt w' := ⟨Nat.lt_of_lt_of_le h.1 hb.size, fun i x hx => by rw [hb.cell hn]; exact h.2 i x hx⟩

/-- A state behind so many rounds. -/
def roundTo (s ws : List Nat) : Nat → List Nat
  | 0 => s
  | n + 1 => roundL (roundTo s ws n) ((rootsL.getD n 0 + ws.getD n 0) % 4294967296)
theorem roundTo_zero (s ws : List Nat) : roundTo s ws 0 = s := rfl
theorem roundTo_succ (s ws : List Nat) (n : Nat) : roundTo s ws (n + 1) = roundL (roundTo s ws n) ((rootsL.getD n 0 + ws.getD n 0) % 4294967296) := rfl
theorem roundTo_len (s ws : List Nat) (h : s.length = 8) : ∀ n, (roundTo s ws n).length = 8
  | 0 => h
  | n + 1 => by rw [roundTo_succ]; exact roundL_len _ _ (roundTo_len s ws h n)
theorem roundTo_small (s ws : List Nat) (h : s.length = 8) (hs : Small s) : ∀ n, Small (roundTo s ws n)
  | 0 => hs
  | n + 1 => by rw [roundTo_succ]; exact roundL_small _ _ (roundTo_len s ws h n) (roundTo_small s ws h hs n)
def mixedL (s b : List Nat) : List Nat := roundTo s (spreadL b) 64
theorem mixedL_len (s b : List Nat) (h : s.length = 8) : (mixedL s b).length = 8 := roundTo_len s _ h 64
theorem mixedL_small (s b : List Nat) (h : s.length = 8) (hs : Small s) : Small (mixedL s b) := roundTo_small s _ h hs 64
theorem spreadL_len (b : List Nat) : (spreadL b).length = 64 := by unfold spreadL; rw [extTo_len, packTo_len]
theorem Grew.roots {w w' : World} {g : Nat} (h : Grew w w' g) (hg : 0 < g) (hr : RootsAt w) : RootsAt w' := hr.below (n := 1) (by decide) (h.below (by omega) (by have := hr.1; omega))
theorem wl_cell {ops : Array Oper} {rest : List Oper} {o : Oper} {a : Act} {w : World} {Q : Exit → Act → World → Prop} (hgd : o.guard = none) (e : TypeId) (ag : ∀ w, (isAgg e).run Tryd.prog w = .ok false w) (x : Operand) (ho : o.op = .load e x) (A : Addr) (hx : a.eval x = .pointer (some A)) (v : Value)
    (hc : w.cell? A = some v) (h : wpList Tryd.prog ops Q rest (a.put o.dst v) w) : wpList Tryd.prog ops Q (o :: rest) a w :=
  wl_val hgd v (by
    unfold execOp
    simp only [ho, hx, Instr.loadAt, Instr.sureAddr, Sem.run_bind, Sem.run_pure, Result.andThen_ok]
    simp [loadVar, ag, go_sem, hc]) h

set_option maxHeartbeats 1000000 in
theorem mixed_any (s b : List Nat) (w : World) (hs : s.length = 8) (hS : Small s) (hl : b.length = 64) (hb : ∀ (i x : Nat), b[i]? = some x → x < 256) (hr : RootsAt w) :
    Calls Tryd.prog 37 #[.agg (ints .u32 s), .agg (ints .u8 b)] w fun e w' => e = .returned (.agg (ints .u32 (mixedL s b))) ∧ Below w.heap.size w w' := by
  obtain ⟨L, hL⟩ : ∃ L, L = mixedL s b := ⟨_, rfl⟩
  rw [← hL]
  have EL : Kept _ := ⟨hL⟩
  have HL : Kept (L.length = 8) := ⟨by rw [hL]; exact mixedL_len s b hs⟩
  have KS : Kept _ := ⟨hS⟩
  have KB : Kept _ := ⟨hb⟩
  have KR : Kept _ := ⟨hr⟩
  have h0 := hr.1
  clear hL hS hb hr
  go_enter Tryd.func37, Tryd.ntmps37
  go_wp2_with fail
  generalize hW : (((w.alloc (.cells (ints .u32 s) 49)).alloc (.cells (ints .u8 b) 50)).alloc (.cells #[.int .u32 0, .int .u32 0, .int .u32 0, .int .u32 0, .int .u32 0, .int .u32 0, .int .u32 0, .int .u32 0] 49)).alloc (.cells #[.int .u32 0, .int .u32 0, .int .u32 0, .int .u32 0, .int .u32 0, .int .u32 0, .int .u32 0, .int .u32 0] 49) = W0
  have B0 : Blk W0 w.heap.size 49 (ints .u32 s) := by subst hW; exact (((blk_new w _ _).alloc _).alloc _).alloc _
  have B1 : Blk W0 (w.heap.size + 1) 50 (ints .u8 b) := by subst hW; exact ((blk_top _ _ _ _ (by simp)).alloc _).alloc _
  have B2 : Blk W0 (w.heap.size + 2) 49 #[.int .u32 0, .int .u32 0, .int .u32 0, .int .u32 0, .int .u32 0, .int .u32 0, .int .u32 0, .int .u32 0] := by subst hW; exact (blk_top _ _ _ _ (by simp)).alloc _
  have B3 : Blk W0 (w.heap.size + 3) 49 #[.int .u32 0, .int .u32 0, .int .u32 0, .int .u32 0, .int .u32 0, .int .u32 0, .int .u32 0, .int .u32 0] := by subst hW; exact blk_top _ _ _ _ (by simp)
  have QB : Below w.heap.size w W0 := by subst hW; exact ((((Below.refl _ _).alloc (Nat.le_refl _) _).alloc (by simp) _).alloc (by simp; omega) _).alloc (by simp; omega) _
  clear hW
  refine wp_region_quiet_under (C := fun w' => Below W0.heap.size W0 w') 2 rfl (by kernel_rfl) (by kernel_rfl) (by kernel_rfl) (by kernel_rfl) (by kernel_rfl) (Below.drew (Below.refl _ _)) ?_
  dsimp only [List.take_succ_cons, List.take_zero]
  refine q_val (by kernel_rfl) (.slice (some ⟨w.heap.size + 1 + 1 + 1, 0, none⟩) 8 8) (fun w' => by kernel_rfl) ?_
  simp only [Act.put, List.setIfInBounds_toArray, List.set_cons_succ, List.set_cons_zero]
  refine q_val (by kernel_rfl) (.slice (some ⟨w.heap.size, 0, none⟩) 8 8) (fun w' => by kernel_rfl) ?_
  simp only [Act.put, List.setIfInBounds_toArray, List.set_cons_succ, List.set_cons_zero]
  refine wpQuiet_nil ?_
  intro w1 hb1
  have C0 := B0.under hb1
  have C1 := B1.under hb1
  have C2 := B2.under hb1
  have C3 := B3.under hb1
  have QC := QB.trans (hb1.mono QB.size)
  clear B0 B1 B2 B3 QB hb1
  have e8 : (ints .u32 s).toList.length = 8 := by simp [ints, hs]
  refine wl_copy rfl (.tmp 8) (.tmp 9) 64 64 rfl 47 Tryd.underlying64 (by kernel_rfl) (w.heap.size + 1 + 1 + 1) 0 8 8 ⟨w.heap.size, 0, none⟩ 8 8 (by kernel_rfl) (by kernel_rfl) _ C3 (ints .u32 s).toList (by rw [e8]; rfl) ?hsrc (by rw [e8]; decide) ?hone ?_
  case hsrc =>
    intro j v hv
    rw [addr_add, Nat.zero_add]
    exact C0.cell (by simpa using hv)
  case hone =>
    intro v hv
    simp [ints] at hv
    obtain ⟨x, _, rfl⟩ := hv
    rfl
  intro w2 D3 P2
  have es : (splice (#[.int .u32 0, .int .u32 0, .int .u32 0, .int .u32 0, .int .u32 0, .int .u32 0, .int .u32 0, .int .u32 0] : Array Value).toList 0 (ints .u32 s).toList).toArray = ints .u32 s := by
    unfold splice
    rw [List.take_zero, List.nil_append, Nat.zero_add, e8]
    simp
  rw [es] at D3
  have D1 := P2.blk C1 (by omega)
  have D2 := P2.blk C2 (by omega)
  have QD := QC.trans (P2.below (by omega))
  clear C0 C1 C2 C3 QC P2 e8 es
  go_wp2_with (first | (refine wl_load rfl 50 (.tmp 3) rfl _ rfl (ints .u8 b) 64 5 Tryd.underlying50 (by rw [ints_size, hl]; exact b64_info) D1 ?_))
  obtain ⟨ws, hws⟩ : ∃ ws, ws = spreadL b := ⟨_, rfl⟩
  have hc := spread_any b w2 hl KB.out
  rw [← hws] at hc
  have LW : Kept (ws.length = 64) := ⟨by rw [hws]; exact spreadL_len b⟩
  have EM : Kept (L = roundTo s ws 64) := ⟨by rw [EL.out, hws]; rfl⟩
  refine hc.mono ?_
  clear hc hws
  rintro e w3 ⟨rfl, hb3⟩
  have B2 := D2.under hb3
  have B3 := D3.under hb3
  have QB := QD.trans (hb3.mono QD.size)
  rw [← roundTo_zero s ws] at B3
  clear D1 D2 D3 QD hb3
  go_wp2_with fail
  go_loopg [13] 64 (fun k s13 wr => ∃ n : Nat, n + k = 64 ∧ s13 = .int .i64 (n : Int) ∧ Below w.heap.size w wr ∧ Blk wr (w.heap.size + 2) 49 #[.int .u32 0, .int .u32 0, .int .u32 0, .int .u32 0, .int .u32 0, .int .u32 0, .int .u32 0, .int .u32 0] ∧ Blk wr (w.heap.size + 3) 49 (ints .u32 (roundTo s ws n)))
  case atStart => exact ⟨0, by omega, rfl, QB, B2, B3⟩
  case round =>
    obtain ⟨n, hnk, rfl, HB, A2, A3⟩ := hrel
    clear QB B2 B3
    by_cases hk0 : gk = 0
    · obtain rfl : n = 64 := by omega
      rw [← EM.out] at A3
      go_wp2_with (first | (refine wl_load rfl 49 (.tmp 5) rfl _ rfl (ints .u32 L) 8 47 Tryd.underlying49 (by rw [ints_size, HL.out]; exact u32_info) A3 ?_) | (refine wl_store rfl 49 (.tmp 4) (.tmp 24) rfl _ (ints .u32 L) rfl rfl _ A2 (by rw [ints_size, HL.out]; exact u32_info) (by rw [ints_size, HL.out]; rfl) (ints_one _ _) ?_))
      intro w4 A4 P4
      go_wp2
      exact bodyPost_ret (v := .agg (ints .u32 L)) (results_cell_row Tryd.results37 _ _ _ 49 (ints .u32 L) (0, 0) _ rfl A4 Tryd.underlying49 rfl (by rw [ints_size, HL.out]; exact u32_info)) rfl ⟨rfl, HB.trans (P4.below (by omega))⟩
    · have hil : n < 64 := by omega
      have hlt : ((n : Int) < 64) := by omega
      obtain ⟨x, hx⟩ : ∃ x, ws[n]? = some x := ⟨_, List.getElem?_eq_getElem (by have := LW.out; omega)⟩
      obtain ⟨y, hy⟩ : ∃ y, rootsL[n]? = some y := ⟨_, List.getElem?_eq_getElem (by rw [rootsL_len]; exact hil)⟩
      have RC := (KR.out.below h0 HB).2 n y hy
      obtain ⟨m, hm⟩ : ∃ m, m = (y + x) % 4294967296 := ⟨_, rfl⟩
      have em : ((y : Int) + x) % 4294967296 = (m : Int) := by rw [hm]; omega
      have lm : m < 4294967296 := by rw [hm]; exact Nat.mod_lt _ (by decide)
      obtain ⟨P, hP⟩ : ∃ P, P = roundTo s ws n := ⟨_, rfl⟩
      have KN : Kept (roundL P m = roundTo s ws (n + 1)) := ⟨by rw [roundTo_succ, ← hP, hm]; simp [List.getD_eq_getElem?_getD, hx, hy]⟩
      have LP : Kept (P.length = 8) := ⟨by rw [hP]; exact roundTo_len s ws hs n⟩
      have SP : Kept (Small P) := ⟨by rw [hP]; exact roundTo_small s ws hs KS.out n⟩
      rw [← hP] at A3
      have KM : Kept _ := ⟨lm⟩
      clear hP hm lm
      go_wp2_with (first | (refine wl_at (d := 16) rfl rfl (.int .u32 (x : Int)) ?h1 ?_; (case h1 => exact index_run rfl rfl rfl Tryd.underlying81 hil ag_u32 sz_u32 (ints_get hx) _); simp only [Act.put, List.setIfInBounds_toArray, List.set_cons_succ, List.set_cons_zero]) | (refine wl_cell rfl 47 ag_u32 (.tmp 18) rfl ⟨0, n, none⟩ rfl (.int .u32 (y : Int)) RC ?_))
      try rw [em]
      refine (round_at P m _ wr LP.out SP.out KM.out A3).mono ?_
      rintro e w4 ⟨A4, G4, rfl⟩
      rw [KN.out] at A4
      have A24 := G4.blk A2 (by omega)
      have HB4 := HB.trans (G4.below (B := w.heap.size) (by omega) HB.size)
      clear A2 A3 HB G4 RC hx hy em KN
      go_wp2_with fail
      go_roundg (gk - 1)
      case measure => omega
      case rel => exact ⟨n + 1, by omega, by simp, HB4, A24, A4⟩
end Go.Proofs.YthnkipicehppmaaDoor.sh
