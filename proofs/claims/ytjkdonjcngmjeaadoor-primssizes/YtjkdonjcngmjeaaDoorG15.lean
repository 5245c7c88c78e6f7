/-
  General pieces, joined: SF SG SH.
-/
import Derived.Test.YtjkdonjcngmjeaaDoorG14
import Derived.Laws.MakeOwn
import Derived.Deep.AppendLies
/-
  What comes behind so many bytes.
-/
namespace Go.Proofs.YtjkdonjcngmjeaaDoor.sh
open Go Go.RowKit
set_option linter.unusedVariables false
set_option linter.unusedSimpArgs false

theorem made_zero (n : Nat) : madeCells (Value.int .u8 0).cells n = ints .u8 (List.replicate n 0) := by
  apply Array.ext_getElem?
  intro i
  by_cases h : i < n
  · simp [madeCells, ints, Value.cells, h, Nat.mod_one]
  · rw [Array.getElem?_eq_none (by rw [size_madeCells]; omega), Array.getElem?_eq_none (by rw [ints_size, List.length_replicate]; omega)]
theorem info_u8 : (Tryd.prog.info? 5).map (fun i => (i.zero, i.size, i.bytes)) = some (some (.int .u8 0), 1, 1) := by kernel_rfl
theorem run_make8 (c : Nat) (hc : c < 1000000) (k : IntKind) (w : World) : (Instr.makeSlice 32 (.int k (c : Int)) (.int k (c : Int))).run Tryd.prog w = .ok (.slice (some ⟨w.heap.size, 0, none⟩) c c) (w.alloc (.cells (ints .u8 (List.replicate c 0)) 5)) := by
  have hi := info_u8
  cases hq : Tryd.prog.info? 5 with
  | none => rw [hq] at hi; cases hi
  | some i =>
    rw [hq] at hi
    simp only [Option.map_some, Option.some.injEq, Prod.mk.injEq] at hi
    obtain ⟨h1, h2, h3⟩ := hi
    have h := run_make (P := Tryd.prog) w 32 5 i (.int .u8 0) Tryd.underlying32 hq h1 k k (c : Int) (c : Int) (by omega) (Int.le_refl _) (by rw [h3]; omega) (by omega)
    rw [h2, Nat.mul_one, Int.toNat_natCast, made_zero] at h
    exact h
theorem wl_make {ops : Array Oper} {rest : List Oper} {o : Oper} {a : Act} {w : World} {Q : Exit → Act → World → Prop} (hgd : o.guard = none) (x : Operand) (ho : o.op = .makeSlice 32 x x) (k : IntKind) (c : Nat) (hx : a.eval x = .int k (c : Int)) (hc : c < 1000000)
    (h : wpList Tryd.prog ops Q rest (a.put o.dst (.slice (some ⟨w.heap.size, 0, none⟩) c c)) (w.alloc (.cells (ints .u8 (List.replicate c 0)) 5))) : wpList Tryd.prog ops Q (o :: rest) a w :=
  wpList_plain hgd fun K hK => by
    have hrun : (execOp a.eval o).run Tryd.prog w = .ok (.value (.slice (some ⟨w.heap.size, 0, none⟩) c c)) (w.alloc (.cells (ints .u8 (List.replicate c 0)) 5)) := by
      unfold execOp
      simp only [ho, hx]
      simp [run_make8 c hc k w]
    unfold Oper.wp
    rw [hrun]
    exact hK _ _ h

def zerosN (n : Nat) : Nat := (64 - (1 + n + 8) % 64) % 64
/-- What comes behind n bytes, so many bytes of their number laid. -/
def fillTo (n : Nat) : Nat → List Nat
  | 0 => (List.replicate (1 + zerosN n + 8) 0).set 0 128
  | i + 1 => (fillTo n i).set (1 + zerosN n + 8 - 1 - i) (n * 8 % 18446744073709551616 / 2 ^ (8 * i) % 256)
theorem fillTo_zero (n : Nat) : fillTo n 0 = (List.replicate (1 + zerosN n + 8) 0).set 0 128 := rfl
theorem fillTo_succ (n i : Nat) : fillTo n (i + 1) = (fillTo n i).set (1 + zerosN n + 8 - 1 - i) (n * 8 % 18446744073709551616 / 2 ^ (8 * i) % 256) := rfl
theorem fillTo_len (n : Nat) : ∀ i, (fillTo n i).length = 1 + zerosN n + 8
  | 0 => by rw [fillTo_zero, List.length_set, List.length_replicate]
  | i + 1 => by rw [fillTo_succ, List.length_set]; exact fillTo_len n i
theorem Bytes.set {l : List Nat} (h : Bytes l) (i v : Nat) (hv : v < 256) : Bytes (l.set i v) := by
  intro j x hx
  by_cases hij : i = j
  · subst hij
    rw [List.getElem?_set_self'] at hx
    cases hq : l[i]? with
    | none => simp [hq] at hx
    | some y => simp [hq] at hx; omega
  · rw [List.getElem?_set_ne hij] at hx
    exact h j x hx
theorem fillTo_bytes (n : Nat) : ∀ i, Bytes (fillTo n i)
  | 0 => by rw [fillTo_zero]; exact (bytes_zero _).set _ _ (by decide)
  | i + 1 => by rw [fillTo_succ]; exact (fillTo_bytes n i).set _ _ (Nat.mod_lt _ (by decide))
def fillL (n : Nat) : List Nat := fillTo n 8

set_option maxHeartbeats 1000000 in
theorem filling_any (n : Nat) (w : World) (hn : n < 4611686018427387904) :
    Calls Tryd.prog 14 #[.int .u64 (n : Int)] w fun e w' => ∃ v, e = .returned v ∧ SliceAt 5 .u8 (fillL n) (1 + zerosN n + 8) v w' ∧ Below w.heap.size w w' := by
  obtain ⟨z, hz⟩ : ∃ z, z = zerosN n := ⟨_, rfl⟩
  obtain ⟨L, hL⟩ : ∃ L, L = fillL n := ⟨_, rfl⟩
  rw [← hz, ← hL]
  have EL : Kept _ := ⟨hL⟩
  have EZ : Kept _ := ⟨hz⟩
  have hz64 : z < 64 := by rw [hz]; exact Nat.mod_lt _ (by decide)
  have ez : ((64 : Int) - (1 + (n : Int) + 8) % 64) % 64 = (z : Int) := by rw [hz]; unfold zerosN; omega
  obtain ⟨c, hc⟩ : ∃ c, c = 1 + z + 8 := ⟨_, rfl⟩
  have ec : (1 + (z : Int) + 8) = (c : Int) := by rw [hc]; omega
  have c9 : 9 ≤ c := by omega
  have cm : c < 1000000 := by omega
  have EC : Kept _ := ⟨hc⟩
  rw [← hc]
  have B0 : Blk (w.alloc (.cells (ints .u8 (List.replicate c 0)) 5)) w.heap.size 5 (ints .u8 (List.replicate c 0)) := blk_new w _ _
  have l0 : 0 < (ints .u8 (List.replicate c 0)).size := by rw [ints_size, List.length_replicate]; omega
  clear hL hz hc
  go_enter Tryd.func14, Tryd.ntmps14
  go_wp2_with (first | (refine wl_at (d := 11) rfl rfl (.int .u64 (z : Int)) ?h1 ?_; (case h1 => simp [execOp, Act.eval, go_sem, IntKind.wrap_u64]; omega); simp only [Act.put, List.setIfInBounds_toArray, List.set_cons_succ, List.set_cons_zero]) | (refine wl_at (d := 14) rfl rfl (.int .u64 (c : Int)) ?h2 ?_; (case h2 => simp [execOp, Act.eval, go_sem, IntKind.wrap_u64]; omega); simp only [Act.put, List.setIfInBounds_toArray, List.set_cons_succ, List.set_cons_zero]) | (refine wl_make rfl (.tmp 14) rfl .u64 c rfl cm ?_) | (refine wl_setElem rfl 5 sz_u8 (.tmp 17) (.const (.int .u8 128)) rfl w.heap.size 0 .u8 ((128 : Nat) : Int) rfl rfl _ B0 l0 ?_))
  intro w1 A1 P1
  have e128 := ints_set .u8 (List.replicate c 0) 0 128
  rw [show ((128 : Nat) : Int) = 128 from rfl] at e128
  rw [e128] at A1
  clear e128
  have A1 : Blk w1 w.heap.size 5 (ints .u8 (fillTo n 0)) := by rw [fillTo_zero, ← EZ.out, ← EC.out]; exact A1
  have Q1 : Below w.heap.size w w1 := ((Below.refl _ _).alloc (Nat.le_refl _) _).trans (P1.below (Nat.le_refl _))
  clear B0 P1 l0
  go_wp2_with fail
  go_loopg [18] 8 (fun k s18 wr => ∃ i : Nat, i + k = 8 ∧ s18 = .int .i64 (i : Int) ∧ Below w.heap.size w wr ∧ Blk wr w.heap.size 5 (ints .u8 (fillTo n i)))
  case atStart => exact ⟨0, by omega, rfl, Q1, A1⟩
  case round =>
    obtain ⟨i, hik, rfl, HB, A0⟩ := hrel
    clear A1 Q1
    by_cases hk0 : gk = 0
    · obtain rfl : i = 8 := by omega
      go_wp2_with fail
      go_ret
      refine ⟨_, rfl, ⟨w.heap.size, ?_, ?_⟩, HB⟩
      · rw [EL.out]
        unfold fillL
        rw [fillTo_len, ← EZ.out, ← EC.out]
        rfl
      · rw [EL.out]; exact A0
    · have hil : i < 8 := by omega
      have hlt : ((i : Int) < 8) := by omega
      obtain ⟨P, hP⟩ : ∃ P, P = fillTo n i := ⟨_, rfl⟩
      rw [← hP] at A0
      have l2 : c - 1 - i < (ints .u8 P).size := by rw [ints_size, hP, fillTo_len, ← EZ.out, ← EC.out]; omega
      obtain ⟨y, hy⟩ : ∃ y, y = n * 8 % 18446744073709551616 / 2 ^ (8 * i) % 256 := ⟨_, rfl⟩
      have KN : Kept (P.set (c - 1 - i) y = fillTo n (i + 1)) := ⟨by rw [fillTo_succ, ← hP, hy, ← EZ.out, ← EC.out]⟩
      have KY : Kept _ := ⟨hy⟩
      have c26 : ((c : Int) - 1 - (i : Int)) = ((c - 1 - i : Nat) : Int) := by omega
      clear hP hy
      go_wp2_with (first | (refine wl_at (d := 26) rfl rfl (.int .i64 ((c - 1 - i : Nat) : Int)) ?h3 ?_; (case h3 => simp [execOp, Act.eval, go_sem, IntKind.wrap_i64, wrap64]; omega); simp only [Act.put, List.setIfInBounds_toArray, List.set_cons_succ, List.set_cons_zero]) | (refine wl_setElem rfl 5 sz_u8 (.tmp 33) (.tmp 32) rfl w.heap.size (c - 1 - i) .u8 (IntKind.u64.wrap ((n : Int) * 8) / 2 ^ (8 * i) % 256) rfl rfl _ A0 l2 ?_))
      have ey : IntKind.u64.wrap ((n : Int) * 8) / 2 ^ (8 * i) % 256 = (y : Int) := by
        rw [IntKind.wrap_u64, KY.out, Int.natCast_emod, Int.natCast_ediv, Int.natCast_emod, Int.natCast_mul, Int.natCast_pow]
        rfl
      rw [ey]
      intro w4 A4 P4
      rw [ints_set, KN.out] at A4
      have HB4 := HB.trans (P4.below (Nat.le_refl _))
      clear A0 HB P4 KN ey l2 c26
      go_wp2_with fail
      go_roundg (gk - 1)
      case measure => omega
      case rel => exact ⟨i + 1, by omega, by simp, HB4, A4⟩
end Go.Proofs.YtjkdonjcngmjeaaDoor.sh
/-
  The digest of all bytes by now; the digest of bytes.
-/
namespace Go.Proofs.YtjkdonjcngmjeaaDoor.sh
open Go Go.RowKit
set_option linter.unusedVariables false
set_option linter.unusedSimpArgs false

section
variable {P : Program} {h : List Oper} {A0 A : Act} {W0 : World} {S : Nat → Option (Value → World → Prop)} {sp : List Nat} {o : Oper}
theorem rel_calld (hA : Full h A0 A S sp) (hdet : detB h sp o = true) (hsel : notSel o = true) (hg : o.guard = none) (d : Nat) (v : Value) (hd : o.dst = some d) (hds : sp.contains d = false) (hv : A.tmps[d]? = some v) (f : Nat) (fn : Func) (c : Code) (args : List Operand) (ts : Array TypeId) (vs : List Value) (ho : o.op = .call { callee := .value (.func f), args := args.toArray, argTypes := ts })
    (hargs : args.map A.eval = vs) (hf : P.funcs[f]? = some fn) (hname : (fn.name == "runtime.NumGoroutine") = false) (hb : fn.body = some c)
    (hc : ∀ w, Below W0.heap.size W0 w → Calls P f vs.toArray w fun e w' => e = .returned v ∧ Below w.heap.size w w') : RelOk P h A0 W0 (relR A S) o :=
  rel_q hA hdet hsel (want_none hg) d v hd (fun hm => by rw [List.contains_iff_mem.2 hm] at hds; cases hds) hv fun w hw => by
    have h1 : fn.name ≠ "runtime.NumGoroutine" := by simpa using hname
    have ha : args.toArray.map A.eval = vs.toArray := by rw [List.map_toArray, hargs]
    have hrun : (execOp A.eval o).run P w = .ok (.enter f vs.toArray) w := by
      unfold execOp
      simp only [ho, resolve, ha, Act.eval]
      simp [Deferred.ofValue, invoke, callFunc, hf, h1, hb]
    unfold Oper.quietAt
    rw [hrun]
    exact ⟨rfl, hc w hw⟩
theorem rel_rowS (hA : Full h A0 A S sp) (hdet : detB h sp o = true) (hsel : notSel o = true) (hg : o.guard = none) (d : Nat) (v : Value) (hd : o.dst = some d) (hds : sp.contains d = false) (hv : A.tmps[d]? = some v) (ty : TypeId) (x : Operand) (ho : o.op = .load ty x) (g : Nat) (hx : A.eval x = .pointer (some ⟨g, 0, none⟩)) (t : TypeId) (B : Array Value) (fs : Array Field) (hu : P.underlying ty = some (.struct fs)) (hi : (P.info? ty).map (·.size) = some B.size)
    (hb : ∀ w, Below W0.heap.size W0 w → Blk w g t B) (hvB : v = .agg B) : RelOk P h A0 W0 (relR A S) o :=
  rel_q hA hdet hsel (want_none hg) d v hd (fun hm => by rw [List.contains_iff_mem.2 hm] at hds; cases hds) hv fun w hw => by
    unfold Oper.quietAt execOp
    simp only [ho, hx, Instr.loadAt, Instr.sureAddr, Sem.run_bind, Sem.run_pure, Result.andThen_ok, run_loadVar_row w g t ty B (0, 0) _ (hb w hw) hu rfl hi]
    exact ⟨rfl, hvB.symm⟩
end

theorem digA_first (G R : List Nat) (n : Nat) (hG : G.length = 8) : (digA G R n).extract 0 8 = ints .u32 G := by
  apply Array.ext'
  simp [digA, Array.toList_extract]
  rw [List.take_append_of_le_length (by simp [ints, hG]), List.take_of_length_le (by simp [ints, hG])]
theorem field_run {o : Oper} {a : Act} {x : Operand} {G R : List Nat} {n : Nat} (ho : o.op = .field 51 x 0) (hx : a.eval x = .agg (digA G R n)) (hG : G.length = 8) (w : World) : (execOp a.eval o).run Tryd.prog w = .ok (.value (.agg (ints .u32 G))) w := by
  have h1 : ∀ w, (Instr.field 51 (.agg (digA G R n)) 0).run Tryd.prog w = .ok (.agg ((digA G R n).extract 0 8)) w := fun w => by kernel_rfl
  unfold execOp
  simp only [ho, hx]
  simp [h1, digA_first G R n hG]

def sumD (s : List Nat × List Nat × Nat) : List Nat := bytesL (plusL firstL (feed s (fillL s.2.2)).1)
theorem sumD_len (s : List Nat × List Nat × Nat) : (sumD s).length = 32 := bytesL_len _

set_option maxHeartbeats 2000000 in
theorem DSum_any (s : List Nat × List Nat × Nat) (w : World) (hs : Good s) (hn : s.2.2 < 1152921504606846976) (hr : RootsAt w) :
    Calls Tryd.prog 10 #[.agg (digOf s)] w fun e w' => e = .returned (.agg (ints .u8 (sumD s))) ∧ Below w.heap.size w w' := by
  obtain ⟨G, R, n⟩ := s
  simp only at hn
  obtain ⟨L, hL⟩ : ∃ L, L = sumD (G, R, n) := ⟨_, rfl⟩
  rw [← hL]
  have HL : Kept (L.length = 32) := ⟨by rw [hL]; exact sumD_len _⟩
  obtain ⟨FL, hFL⟩ : ∃ FL, FL = fillL n := ⟨_, rfl⟩
  obtain ⟨cap, hcap⟩ : ∃ c, c = 1 + zerosN n + 8 := ⟨_, rfl⟩
  have hz : zerosN n < 64 := Nat.mod_lt _ (by decide)
  have LF : FL.length = cap := by rw [hFL, hcap]; exact fillTo_len n 8
  have BF : Bytes FL := by rw [hFL]; exact fillTo_bytes n 8
  obtain ⟨T, hT⟩ : ∃ T, T = feed (G, R, n) FL := ⟨_, rfl⟩
  have GT : Good T := by rw [hT]; exact hs.feed FL BF
  obtain ⟨DT, hDT⟩ : ∃ DT, DT = digOf T := ⟨_, rfl⟩
  obtain ⟨DA, hDA⟩ : ∃ DA, DA = digOf (G, R, n) := ⟨_, rfl⟩
  obtain ⟨G2, hG2⟩ : ∃ G2, G2 = T.1 := ⟨_, rfl⟩
  obtain ⟨S2, hS2⟩ : ∃ S2, S2 = plusL firstL G2 := ⟨_, rfl⟩
  have LG2 : G2.length = 8 := by rw [hG2]; exact GT.g
  have LS2 : S2.length = 8 := by rw [hS2, plusL_len _ _ (by rw [firstL_len, LG2])]; exact firstL_len
  have EL : L = bytesL S2 := by rw [hL, hS2, hG2, hT, hFL]; rfl
  have SD : Kept ((Tryd.prog.info? 51).map (·.size) = some DA.size) := ⟨by rw [hDA, show digOf (G, R, n) = digA G R n from rfl, digA_size _ _ _ hs.g hs.r]; exact dig_info⟩
  have GN : Kept (DA[72]? = some (.int .u64 (n : Int))) := ⟨by rw [hDA]; exact digA_n G R n hs.g hs.r⟩
  have FR : Kept (∀ {o : Oper} {a : Act} (x : Operand), o.op = .field 51 x 0 → a.eval x = .agg DT → ∀ w, (execOp a.eval o).run Tryd.prog w = .ok (.value (.agg (ints .u32 G2))) w) := ⟨fun x ho hx w => by rw [hG2]; rw [hDT] at hx; exact field_run ho hx GT.g w⟩
  have C1 : Kept (∀ w', Calls Tryd.prog 12 ([] : List Value).toArray w' fun e w2 => e = .returned (.agg (ints .u32 firstL)) ∧ Below w'.heap.size w' w2) := ⟨fun w' => first_any w'⟩
  have C2 : Kept (∀ w', Calls Tryd.prog 14 [.int .u64 (n : Int)].toArray w' fun e w2 => ∃ v, e = .returned v ∧ SliceAt 5 .u8 FL cap v w2 ∧ Below w'.heap.size w' w2) := ⟨fun w' => by rw [hFL, hcap]; exact filling_any n w' (by omega)⟩
  have C3 : Kept (∀ w' vy, Below w.heap.size w w' → SliceAt 5 .u8 FL cap vy w' → Calls Tryd.prog 9 #[.agg DA, vy] w' fun e w2 => e = .returned (.agg DT) ∧ Below w'.heap.size w' w2) := ⟨fun w' vy hb hv => by
    rw [hDA, hDT, hT]
    exact Write_any (G, R, n) FL vy w' hs BF (by rw [LF, hcap]; simp only; omega) (bytesV_slice hv (by rw [LF]; exact Nat.le_refl _)) (hr.below hr.1 hb)⟩
  have C4 : Kept (∀ w', Calls Tryd.prog 11 [.agg (ints .u32 firstL), .agg (ints .u32 G2)].toArray w' fun e w2 => e = .returned (.agg (ints .u32 S2)) ∧ Below w'.heap.size w' w2) := ⟨fun w' => by rw [hS2]; exact plus_any firstL G2 w' firstL_len LG2⟩
  have C5 : Kept (∀ w', Calls Tryd.prog 15 [.agg (ints .u32 S2)].toArray w' fun e w2 => e = .returned (.agg (ints .u8 L)) ∧ Below w'.heap.size w' w2) := ⟨fun w' => by rw [EL]; exact bytes_any S2 w' LS2 (by rw [hS2]; exact plusL_small _ _)⟩
  have h0 := hr.1
  rw [← hDA]
  clear hL hFL hcap hT hDT hDA hG2 hS2 EL GT BF LF hs hr LG2 LS2 hz
  go_enter Tryd.func10, Tryd.ntmps10
  go_wp2_with fail
  generalize hW : (w.alloc (.cells DA 51)).alloc (.cells #[.int .u8 0, .int .u8 0, .int .u8 0, .int .u8 0, .int .u8 0, .int .u8 0, .int .u8 0, .int .u8 0, .int .u8 0, .int .u8 0, .int .u8 0, .int .u8 0, .int .u8 0, .int .u8 0, .int .u8 0, .int .u8 0, .int .u8 0, .int .u8 0, .int .u8 0, .int .u8 0, .int .u8 0, .int .u8 0, .int .u8 0, .int .u8 0, .int .u8 0, .int .u8 0, .int .u8 0, .int .u8 0, .int .u8 0, .int .u8 0, .int .u8 0, .int .u8 0] 22) = W1
  have A0 : Blk W1 w.heap.size 51 DA := by subst hW; exact (blk_new w _ _).alloc _
  have A1 : Blk W1 (w.heap.size + 1) 22 #[.int .u8 0, .int .u8 0, .int .u8 0, .int .u8 0, .int .u8 0, .int .u8 0, .int .u8 0, .int .u8 0, .int .u8 0, .int .u8 0, .int .u8 0, .int .u8 0, .int .u8 0, .int .u8 0, .int .u8 0, .int .u8 0, .int .u8 0, .int .u8 0, .int .u8 0, .int .u8 0, .int .u8 0, .int .u8 0, .int .u8 0, .int .u8 0, .int .u8 0, .int .u8 0, .int .u8 0, .int .u8 0, .int .u8 0, .int .u8 0, .int .u8 0, .int .u8 0] := by subst hW; exact blk_top _ _ _ _ (by simp)
  have QB : Below w.heap.size w W1 := by subst hW; exact ((Below.refl _ _).alloc (Nat.le_refl _) _).alloc (by simp) _
  clear hW
  refine region_list W1 9 [(3, .agg (ints .u32 firstL)), (4, .agg DA), (5, .pointer (some ⟨w.heap.size, 72, none⟩)), (6, .int .u64 (n : Int)), (8, .agg DT), (9, .agg (ints .u32 G2)), (10, .agg (ints .u32 S2)), (11, .agg (ints .u8 L))] [(7, SliceAt 5 .u8 FL cap)] rfl (by kernel_rfl) (by kernel_rfl) (by kernel_rfl) (by kernel_rfl) (by kernel_rfl) (by kernel_rfl) (by kernel_rfl) (by kernel_rfl) ?hst (Below.refl _ _) (fun hA => ⟨rel_calld hA (by kernel_rfl) rfl rfl 3 (.agg (ints .u32 firstL)) rfl rfl (by kernel_rfl) 12 Tryd.f12 _ [] _ [] rfl (by kernel_rfl) Tryd.func12 (by kernel_rfl) rfl (fun w' _ => C1.out w'), rel_rowS hA (by kernel_rfl) rfl rfl 4 (.agg DA) rfl rfl (by kernel_rfl) 51 (.tmp 1) rfl w.heap.size (by kernel_rfl) 51 DA _ Tryd.underlying51 SD.out (fun w' hb => Blk.under A0 hb) rfl, rel_val hA (by kernel_rfl) rfl rfl 5 (.pointer (some ⟨w.heap.size, 72, none⟩)) rfl rfl (by kernel_rfl) (fun w => by kernel_rfl), rel_elem hA (by kernel_rfl) rfl rfl 6 (.int .u64 (n : Int)) rfl rfl (by kernel_rfl) 49 ag_u64 (.tmp 5) rfl w.heap.size 72 (by kernel_rfl) 51 DA (fun w' hb => Blk.under A0 hb) GN.out, rel_call rfl 7 14 Tryd.f14 _ [.tmp 6] _ rfl rfl Tryd.func14 (by kernel_rfl) rfl (fun a w' hF hb hgot => by rw [List.map_cons, List.map_nil, det_slot hA hgot (v := .int .u64 (n : Int)) (by kernel_rfl) rfl (by kernel_rfl) ]; exact (C2.out w').mono fun e w2 hh => by obtain ⟨v, h1, h2, h3⟩ := hh; exact ⟨v, h1, rel_spec (SliceAt 5 .u8 FL cap) rfl h2, h3⟩), rel_call_ds hA rfl 8 9 Tryd.f9 _ 4 7 _ rfl rfl Tryd.func9 (by kernel_rfl) rfl (.agg DA) (by kernel_rfl) rfl (by kernel_rfl) (SliceAt 5 .u8 FL cap) (by kernel_rfl) rfl (fun w' vy hb hp => (C3.out w' vy (QB.trans (hb.mono QB.size)) hp).mono fun e w2 hh => ⟨_, hh.1, rel_det hA rfl (by kernel_rfl) , hh.2⟩), rel_val hA (by kernel_rfl) rfl rfl 9 (.agg (ints .u32 G2)) rfl rfl (by kernel_rfl) (fun w => FR.out _ rfl (by kernel_rfl) w), rel_calld hA (by kernel_rfl) rfl rfl 10 (.agg (ints .u32 S2)) rfl rfl (by kernel_rfl) 11 Tryd.f11 _ [.tmp 3, .tmp 9] _ [.agg (ints .u32 firstL), .agg (ints .u32 G2)] rfl (by kernel_rfl) Tryd.func11 (by kernel_rfl) rfl (fun w' _ => C4.out w'), rel_calld hA (by kernel_rfl) rfl rfl 11 (.agg (ints .u8 L)) rfl rfl (by kernel_rfl) 15 Tryd.f15 _ [.tmp 10] _ [.agg (ints .u32 S2)] rfl (by kernel_rfl) Tryd.func15 (by kernel_rfl) rfl (fun w' _ => C5.out w'), trivial⟩) ?_
  case hst =>
    intro q hq v w1 w2 h1 h2
    simp only [List.mem_cons, List.not_mem_nil, or_false] at hq
    obtain rfl := hq
    exact SliceAt.under h1 h2
  intro fv w4 hf hb4
  simp only [putR, List.foldl_cons, List.foldl_nil, List.map_cons, List.map_nil, Act.put, List.setIfInBounds_toArray, List.set_cons_succ, List.set_cons_zero]
  have A1' := A1.under hb4
  have QB' := QB.trans (hb4.mono QB.size)
  clear A0 A1 QB hb4 hf C1 C2 C3 C4 C5 FR
  refine wl_store rfl 22 (.tmp 2) (.tmp 11) rfl (w.heap.size + 1) (ints .u8 L) (by kernel_rfl) (by kernel_rfl) _ A1' (by rw [ints_size, HL.out]; exact t32_info) (by rw [ints_size, HL.out]; rfl) (ints_one _ _) ?_
  intro w5 A5 P5
  go_wp2
  exact bodyPost_ret (v := .agg (ints .u8 L)) (results_cell_row Tryd.results10 _ _ _ 22 (ints .u8 L) (0, 0) _ rfl A5 Tryd.underlying22 rfl (by rw [ints_size, HL.out]; exact t32_info)) rfl ⟨rfl, QB'.trans (P5.below (by omega))⟩

def initD : List Nat × List Nat × Nat := (List.replicate 8 0, List.replicate 64 0, 0)
theorem init_good : Good initD := ⟨by simp [initD], fun i x hx => by
  simp only [initD, List.getElem?_replicate] at hx
  split at hx <;> simp at hx
  omega, by simp [initD], bytes_zero 64⟩
theorem init_val : (#[.int .u32 0, .int .u32 0, .int .u32 0, .int .u32 0, .int .u32 0, .int .u32 0, .int .u32 0, .int .u32 0, .int .u8 0, .int .u8 0, .int .u8 0, .int .u8 0, .int .u8 0, .int .u8 0, .int .u8 0, .int .u8 0, .int .u8 0, .int .u8 0, .int .u8 0, .int .u8 0, .int .u8 0, .int .u8 0, .int .u8 0, .int .u8 0, .int .u8 0, .int .u8 0, .int .u8 0, .int .u8 0, .int .u8 0, .int .u8 0, .int .u8 0, .int .u8 0, .int .u8 0, .int .u8 0, .int .u8 0, .int .u8 0, .int .u8 0, .int .u8 0, .int .u8 0, .int .u8 0, .int .u8 0, .int .u8 0, .int .u8 0, .int .u8 0, .int .u8 0, .int .u8 0, .int .u8 0, .int .u8 0, .int .u8 0, .int .u8 0, .int .u8 0, .int .u8 0, .int .u8 0, .int .u8 0, .int .u8 0, .int .u8 0, .int .u8 0, .int .u8 0, .int .u8 0, .int .u8 0, .int .u8 0, .int .u8 0, .int .u8 0, .int .u8 0, .int .u8 0, .int .u8 0, .int .u8 0, .int .u8 0, .int .u8 0, .int .u8 0, .int .u8 0, .int .u8 0, .int .u64 0] : Array Value) = digOf initD := by kernel_rfl
/-- The digest of bytes. -/
def sumL (bs : List Nat) : List Nat := sumD (feed initD bs)
theorem sumL_len (bs : List Nat) : (sumL bs).length = 32 := sumD_len _

set_option maxHeartbeats 1000000 in
theorem Sum_any (bs : List Nat) (v : Value) (w : World) (hb : Bytes bs) (hn : bs.length < 1152921504606846976) (hv : BytesV v w bs) (hr : RootsAt w) :
    Calls Tryd.prog 8 #[v] w fun e w' => e = .returned (.agg (ints .u8 (sumL bs))) ∧ Below w.heap.size w w' := by
  obtain ⟨L, hL⟩ : ∃ L, L = sumL bs := ⟨_, rfl⟩
  rw [← hL]
  have EL : Kept _ := ⟨hL⟩
  have HL : Kept (L.length = 32) := ⟨by rw [hL]; exact sumL_len bs⟩
  have KB : Kept _ := ⟨hb⟩
  have KV : Kept _ := ⟨hv⟩
  have KR : Kept _ := ⟨hr⟩
  have KN : Kept _ := ⟨hn⟩
  obtain ⟨DI, hDI⟩ : ∃ DI, DI = digOf initD := ⟨_, rfl⟩
  obtain ⟨DT, hDT⟩ : ∃ DT, DT = digOf (feed initD bs) := ⟨_, rfl⟩
  have ED : Kept _ := ⟨hDI⟩
  have ET : Kept _ := ⟨hDT⟩
  have h0 := hr.1
  have hbuild : ∀ w, (Instr.build 51 #[]).run Tryd.prog w = .ok (.agg DI) w := fun w => by rw [hDI, ← init_val]; kernel_rfl
  clear hL hb hv hr hn hDI hDT
  have A0 : Blk (w.alloc (.cells #[.int .u8 0, .int .u8 0, .int .u8 0, .int .u8 0, .int .u8 0, .int .u8 0, .int .u8 0, .int .u8 0, .int .u8 0, .int .u8 0, .int .u8 0, .int .u8 0, .int .u8 0, .int .u8 0, .int .u8 0, .int .u8 0, .int .u8 0, .int .u8 0, .int .u8 0, .int .u8 0, .int .u8 0, .int .u8 0, .int .u8 0, .int .u8 0, .int .u8 0, .int .u8 0, .int .u8 0, .int .u8 0, .int .u8 0, .int .u8 0, .int .u8 0, .int .u8 0] 22)) w.heap.size 22 #[.int .u8 0, .int .u8 0, .int .u8 0, .int .u8 0, .int .u8 0, .int .u8 0, .int .u8 0, .int .u8 0, .int .u8 0, .int .u8 0, .int .u8 0, .int .u8 0, .int .u8 0, .int .u8 0, .int .u8 0, .int .u8 0, .int .u8 0, .int .u8 0, .int .u8 0, .int .u8 0, .int .u8 0, .int .u8 0, .int .u8 0, .int .u8 0, .int .u8 0, .int .u8 0, .int .u8 0, .int .u8 0, .int .u8 0, .int .u8 0, .int .u8 0, .int .u8 0] := blk_new w _ _
  have Q0 : Below w.heap.size w (w.alloc (.cells #[.int .u8 0, .int .u8 0, .int .u8 0, .int .u8 0, .int .u8 0, .int .u8 0, .int .u8 0, .int .u8 0, .int .u8 0, .int .u8 0, .int .u8 0, .int .u8 0, .int .u8 0, .int .u8 0, .int .u8 0, .int .u8 0, .int .u8 0, .int .u8 0, .int .u8 0, .int .u8 0, .int .u8 0, .int .u8 0, .int .u8 0, .int .u8 0, .int .u8 0, .int .u8 0, .int .u8 0, .int .u8 0, .int .u8 0, .int .u8 0, .int .u8 0, .int .u8 0] 22)) := (Below.refl _ _).alloc (Nat.le_refl _) _
  go_enter Tryd.func8, Tryd.ntmps8
  go_wp2_with (first | (refine wl_at (d := 3) rfl rfl (.agg DI) ?h3 ?_; (case h3 => exact build_run rfl hbuild _); simp only [Act.put, List.setIfInBounds_toArray, List.set_cons_succ, List.set_cons_zero]))
  generalize w.alloc (.cells #[.int .u8 0, .int .u8 0, .int .u8 0, .int .u8 0, .int .u8 0, .int .u8 0, .int .u8 0, .int .u8 0, .int .u8 0, .int .u8 0, .int .u8 0, .int .u8 0, .int .u8 0, .int .u8 0, .int .u8 0, .int .u8 0, .int .u8 0, .int .u8 0, .int .u8 0, .int .u8 0, .int .u8 0, .int .u8 0, .int .u8 0, .int .u8 0, .int .u8 0, .int .u8 0, .int .u8 0, .int .u8 0, .int .u8 0, .int .u8 0, .int .u8 0, .int .u8 0] 22) = w1 at *
  have hc := Write_any initD bs v w1 init_good KB.out (by have := KN.out; simp only [initD]; omega) (KV.out.under Q0) (KR.out.below h0 Q0)
  rw [← ED.out, ← ET.out] at hc
  refine hc.mono ?_
  clear hc
  rintro e w2 ⟨rfl, hb2⟩
  have A2 := A0.under hb2
  have Q2 := Q0.trans (hb2.mono Q0.size)
  clear A0 Q0 hb2
  go_wp2_with fail
  have hc := DSum_any (feed initD bs) w2 (init_good.feed bs KB.out) (by rw [feed_n]; have := KN.out; simp only [initD]; omega) (KR.out.below h0 Q2)
  rw [← ET.out, show sumD (feed initD bs) = L from EL.out.symm] at hc
  refine hc.mono ?_
  clear hc
  rintro e w3 ⟨rfl, hb3⟩
  have A3 := A2.under hb3
  have Q3 := Q2.trans (hb3.mono Q2.size)
  clear A2 Q2 hb3
  go_wp2_with (first | (refine wl_store rfl 22 (.tmp 2) (.tmp 6) rfl _ (ints .u8 L) rfl rfl _ A3 (by rw [ints_size, HL.out]; exact t32_info) (by rw [ints_size, HL.out]; rfl) (ints_one _ _) ?_))
  intro w5 A5 P5
  go_wp2
  exact bodyPost_ret (v := .agg (ints .u8 L)) (results_cell_row Tryd.results8 _ _ _ 22 (ints .u8 L) (0, 0) _ rfl A5 Tryd.underlying22 rfl (by rw [ints_size, HL.out]; exact t32_info)) rfl ⟨rfl, Q3.trans (P5.below (Nat.le_refl _))⟩
end Go.Proofs.YtjkdonjcngmjeaaDoor.sh
/-
  Regions that draw their order, in which slices are made, appended to in place and handed on: each slot that owns a block owns it alone, until an operation takes it over.
-/
namespace Go.Proofs.YtjkdonjcngmjeaaDoor.sh
open Go Go.RowKit
set_option linter.unusedVariables false
set_option linter.unusedSimpArgs false

def blkOf : Value → Option Nat
  | .slice (some a) _ _ => some a.block
  | .pointer (some a) => some a.block
  | _ => none

/-- What an operation meets in the slots that it waits for and that no other one takes over. -/
def GotE (h : List Oper) (E : List (Nat × Nat)) (R : Nat → Value → World → Prop) (O : List Nat) (B i : Nat) (a : Act) (w : World) (o : Oper) : Prop :=
  ∀ d, waitsFor h o d = true → (E.all fun q => q.2 != d || q.1 == i) = true → ∃ v, a.tmps[d]? = some v ∧ R d v w ∧ (O.contains d = true → ∀ b, blkOf v = some b → B ≤ b ∧ b < w.heap.size)

/-- What is asked of each operation: what it writes is a block that it takes over, or one that it makes. -/
def OwnOk (P : Program) (h : List Oper) (A0 : Act) (W0 : World) (R : Nat → Value → World → Prop) (O : List Nat) (E : List (Nat × Nat)) (i : Nat) (o : Oper) : Prop := ∃ d, o.dst = some d ∧ ∀ a w, Fr h A0 a → Below W0.heap.size W0 w → GotE h E R O W0.heap.size i a w o →
  Region.wanted o (yielded h.toArray a.tmps) = true ∧ o.wp P a w (fun a' w' => ∃ v row, a' = a.put (some d) v ∧ R d v w' ∧ w.grownBy w' row ∧ (∀ b, row = some b → ∃ s, (i, s) ∈ E ∧ (a.tmps[s]?).bind blkOf = some b) ∧
    (O.contains d = true → ∀ b, blkOf v = some b → (w.heap.size ≤ b ∧ b < w'.heap.size) ∨ ∃ s, (i, s) ∈ E ∧ (a.tmps[s]?).bind blkOf = some b)) (fun _ _ _ => False)
def OwnAll (P : Program) (h : List Oper) (A0 : Act) (W0 : World) (R : Nat → Value → World → Prop) (O : List Nat) (E : List (Nat × Nat)) : Nat → List Oper → Prop
  | _, [] => True
  | i, o :: r => OwnOk P h A0 W0 R O E i o ∧ OwnAll P h A0 W0 R O E (i + 1) r
theorem ownAll_get {P : Program} {h : List Oper} {A0 : Act} {W0 : World} {R : Nat → Value → World → Prop} {O : List Nat} {E : List (Nat × Nat)} : ∀ (r : List Oper) (k : Nat), OwnAll P h A0 W0 R O E k r → ∀ i o, r[i]? = some o → OwnOk P h A0 W0 R O E (k + i) o
  | [], _, _, i, o, ho => by simp at ho
  | x :: r, k, hr, 0, o, ho => by simp at ho; subst ho; exact hr.1
  | x :: r, k, hr, i + 1, o, ho => by
    have := ownAll_get r (k + 1) hr.2 i o (by simpa using ho)
    rwa [show k + 1 + i = k + (i + 1) from by omega] at this

theorem grown_mono {w w' : World} {row : Option Nat} {B : Nat} (h : w.grownBy w' row) (hB : B ≤ w.heap.size) (hr : ∀ b, row = some b → B ≤ b) : Below B w w' := (Below.refl _ _).grown h hB hr
theorem grown_none {w w' : World} (h : Below w.heap.size w w') : w.grownBy w' none := ⟨h.os, h.tape, h.output, h.size, fun k hk _ => h.block k hk⟩

section
variable (h : List Oper) (E : List (Nat × Nat))
def Liv (listed : Array Bool) (d : Nat) : Prop := (∃ (i : Nat) (o : Oper), h[i]? = some o ∧ listed.getD i false = true ∧ o.dst = some d) ∧ ∀ q ∈ E, q.2 = d → listed.getD q.1 false = false
def apartB : List Nat → Bool
  | [] => true
  | x :: r => !r.contains x && apartB r
end
theorem apart_eq : ∀ (E : List (Nat × Nat)), apartB (E.map (·.2)) = true → ∀ q ∈ E, ∀ q' ∈ E, q.2 = q'.2 → q = q'
  | [], _, q, hq, _, _, _ => by cases hq
  | x :: r, h, q, hq, q', hq', he => by
    simp only [List.map_cons, apartB, Bool.and_eq_true, Bool.not_eq_true'] at h
    have hn : ∀ y ∈ r, y.2 ≠ x.2 := fun y hy e => by
      have : (r.map (·.2)).contains x.2 = true := List.contains_iff_mem.2 (List.mem_map.2 ⟨y, hy, e⟩)
      rw [h.1] at this
      cases this
    rcases List.mem_cons.1 hq with h1 | h1 <;> rcases List.mem_cons.1 hq' with h2 | h2
    · rw [h1, h2]
    · exact absurd (by rw [← he, h1]) (hn q' h2)
    · exact absurd (by rw [he, h2]) (hn q h1)
    · exact apart_eq r h.2 q h1 q' h2 he

/-- A region that draws its order: each of the first n operations makes a value of which R holds; owners' blocks are apart; the last operations wait for all of those. -/
theorem region_own {P : Program} {Q : Exit → Act → World → Prop} {id : Nat} {a : Act} {w : World} (W0 : World) (n : Nat) {l : List Oper} (R : Nat → Value → World → Prop) (O : List Nat) (E : List (Nat × Nat)) (ds : List Nat) (hm : P.follows .mixedOrders = true)
    (hE : edgesIn (l.take n) = true) (hG : guardsIn (l.take n) = true) (hA : dstsApart (l.take n) 0 = true) (hI : dstsIn (l.take n) a.tmps.size = true) (hT : tailUnder (l.take n) (l.drop n) = true)
    (hS : Region.seqB .any l.toArray (l.drop n).length (l.take n).length (Array.replicate (l.take n).length true ++ Array.replicate (l.drop n).length false) = true)
    (hEw : (E.all fun q => O.contains q.2 && match (l.take n)[q.1]? with | some o => waitsFor (l.take n) o q.2 | none => false) = true) (hEn : apartB (E.map (·.2)) = true)
    (hds : dstsOf (l.take n) = ds)
    (hst1 : ∀ d v w w', O.contains d = false → R d v w → Below W0.heap.size W0 w → Below W0.heap.size w w' → R d v w')
    (hst2 : ∀ d v w w' row, O.contains d = true → R d v w → w.grownBy w' row → (blkOf v = none ∨ blkOf v ≠ row) → (∀ b, blkOf v = some b → b < w.heap.size) → R d v w') (hw : Below W0.heap.size W0 w)
    (hok : OwnAll P (l.take n) a W0 R O E 0 (l.take n))
    (hfin : ∀ (f : Nat → Value) w', (∀ d ∈ ds, d ∉ E.map (·.2) → R d (f d) w' ∧ (O.contains d = true → ∀ b, blkOf (f d) = some b → W0.heap.size ≤ b ∧ b < w'.heap.size)) →
      (∀ d ∈ ds, ∀ d' ∈ ds, d ∉ E.map (·.2) → d' ∉ E.map (·.2) → O.contains d = true → O.contains d' = true → d ≠ d' → ∀ b, blkOf (f d) = some b → blkOf (f d') ≠ some b) → Below W0.heap.size W0 w' →
      wpList P l.toArray Q (l.drop n) (putR a (ds.map fun d => (d, f d))) w') : (Code.region id l.toArray true).wp P Q a w := by
  have e : l.take n ++ l.drop n = l := List.take_append_drop n l
  refine wp_region_any hm ?_
  generalize hh : l.take n = h at *
  have hEw' : ∀ q ∈ E, O.contains q.2 = true ∧ ∃ o, h[q.1]? = some o ∧ waitsFor h o q.2 = true := fun q hq => by
    have := List.all_eq_true.1 hEw q hq
    simp only [Bool.and_eq_true] at this
    refine ⟨this.1, ?_⟩
    cases ho : h[q.1]? with
    | none => simp [ho] at this
    | some o => exact ⟨o, rfl, by simpa [ho] using this.2⟩
  have main := wpAny_inv (P := P) (l := h) (Q := headPost P (h ++ l.drop n).toArray Q (l.drop n))
    (fun listed a' w' => Fr h a a' ∧ Below W0.heap.size W0 w' ∧ (∀ d, Liv h E listed d → ∃ v, a'.tmps[d]? = some v ∧ R d v w' ∧ (O.contains d = true → ∀ b, blkOf v = some b → W0.heap.size ≤ b ∧ b < w'.heap.size)) ∧
      ∀ d d', Liv h E listed d → Liv h E listed d' → O.contains d = true → O.contains d' = true → d ≠ d' → ∀ b, (a'.tmps[d]?).bind blkOf = some b → (a'.tmps[d']?).bind blkOf ≠ some b) hE
    (by
      intro listed a' w' i o hls hI' ho hun hall
      obtain ⟨hF, hB, hV, hD⟩ := hI'
      have hil : i < listed.size := by rw [hls]; exact (List.getElem?_eq_some_iff.1 ho).1
      have hun' : listed.getD i false = false := by simpa [hil] using hun
      obtain ⟨d, hd, hrun⟩ := by have := ownAll_get h 0 hok i o ho; rwa [Nat.zero_add] at this
      have hson : ∀ k, (listed.setIfInBounds i true).getD k false = if k = i then true else listed.getD k false := fun k => by
        by_cases hk : k = i
        · subst hk; simp [hil]
        · rw [if_neg hk, getD_set_ne false (Ne.symm hk)]
      have hlist : ∀ s, waitsFor h o s = true → ∃ (j : Nat) (o' : Oper), h[j]? = some o' ∧ listed.getD j false = true ∧ o'.dst = some s := fun s hs => by
        obtain ⟨x, hx, h1⟩ := Array.any_eq_true'.1 hs
        simp only [Bool.and_eq_true] at h1
        cases ho' : h[x.on]? with
        | none => simp [ho'] at h1
        | some o' => exact ⟨x.on, o', ho', hall x hx h1.1, by simpa [ho'] using h1.2⟩
      have hgot : GotE h E R O W0.heap.size i a' w' o := fun s hs hq => hV s ⟨hlist s hs, fun q hq' he => by
        have := List.all_eq_true.1 hq q hq'
        simp only [he, bne_self_eq_false, Bool.false_or, beq_iff_eq] at this
        rw [this]
        exact hun'⟩
      have hSe : ∀ s, (i, s) ∈ E → Liv h E listed s ∧ O.contains s = true := fun s hs => by
        obtain ⟨h1, o', h2, h3⟩ := hEw' _ hs
        rw [ho] at h2
        cases h2
        refine ⟨⟨hlist s h3, fun q hq he => ?_⟩, h1⟩
        have := apart_eq E hEn q hq (i, s) hs he
        rw [this]
        exact hun'
      obtain ⟨hwant, hwp⟩ := hrun a' w' hF hB hgot
      refine ⟨hwant, wp_false ?_ hwp⟩
      rintro a2 w2 ⟨v, row, rfl, hR, hg, hrow, hblk⟩
      have hdl : d < a'.tmps.size := by
        have := List.all_eq_true.1 hI o (List.mem_of_getElem? ho)
        rw [hd] at this
        rw [hF.size]
        simpa using this
      have hother : ∀ d', d' ≠ d → (a'.put (some d) v).tmps[d']? = a'.tmps[d']? := fun d' hne => by simp [Act.put, Array.getElem?_setIfInBounds_ne (Ne.symm hne)]
      have hself : (a'.put (some d) v).tmps[d]? = some v := by simp [Act.put, hdl]
      have hrange : ∀ s, (i, s) ∈ E → ∀ b, (a'.tmps[s]?).bind blkOf = some b → W0.heap.size ≤ b ∧ b < w'.heap.size := fun s hs b hb => by
        obtain ⟨h1, h2⟩ := hSe s hs
        obtain ⟨u, e1, _, e3⟩ := hV s h1
        rw [e1] at hb
        exact e3 h2 b hb
      have hBw : Below W0.heap.size w' w2 := grown_mono hg hB.size (fun b hb => by
        obtain ⟨s, hs, hb'⟩ := hrow b hb
        exact (hrange s hs b hb').1)
      have hold : ∀ d', Liv h E (listed.setIfInBounds i true) d' → d' ≠ d → Liv h E listed d' := fun d' hL hne => by
        obtain ⟨⟨j, o', h1, h2, h3⟩, h4⟩ := hL
        refine ⟨⟨j, o', h1, ?_, h3⟩, fun q hq he => ?_⟩
        · rw [hson j] at h2
          split at h2
          · next hji => subst hji; rw [ho] at h1; cases h1; rw [hd] at h3; exact absurd (Option.some.inj h3).symm hne
          · exact h2
        · have := h4 q hq he
          rw [hson q.1] at this
          split at this
          · cases this
          · exact this
      have hne_s : ∀ s d', (i, s) ∈ E → Liv h E (listed.setIfInBounds i true) d' → s ≠ d' := fun s d' hs hL he => by
        have := hL.2 (i, s) hs he
        rw [hson i, if_pos rfl] at this
        cases this
      refine ⟨⟨by rw [size_put]; exact hF.size, hF.defers, fun d' h' => ?_⟩, hB.trans hBw, fun d' hL => ?_, fun d1 d2 hL1 hL2 hO1 hO2 hne b hb1 hb2 => ?_⟩
      · rw [hother d' (fun e2 => h' i o ho (by rw [hd, e2]))]
        exact hF.out d' h'
      · by_cases hdd : d' = d
        · subst hdd
          refine ⟨v, hself, hR, fun hO b hb => ?_⟩
          rcases hblk hO b hb with ⟨h1, h2⟩ | ⟨s, hs, hb'⟩
          · exact ⟨Nat.le_trans hB.size h1, h2⟩
          · have := hrange s hs b hb'
            exact ⟨this.1, Nat.lt_of_lt_of_le this.2 hg.size⟩
        · have hL' := hold d' hL hdd
          obtain ⟨u, e1, e2, e3⟩ := hV d' hL'
          refine ⟨u, by rw [hother d' hdd]; exact e1, ?_, fun hO b hb => ⟨(e3 hO b hb).1, Nat.lt_of_lt_of_le (e3 hO b hb).2 hg.size⟩⟩
          cases hO : O.contains d' with
          | false => exact hst1 d' u w' w2 hO e2 hB hBw
          | true =>
            refine hst2 d' u w' w2 row hO e2 hg ?_ (fun b hb => (e3 hO b hb).2)
            cases hb : blkOf u with
            | none => exact .inl rfl
            | some b =>
              refine .inr fun hr => ?_
              obtain ⟨s, hs, hb'⟩ := hrow b hr.symm
              obtain ⟨h1, h2⟩ := hSe s hs
              exact hD s d' h1 hL' h2 hO (hne_s s d' hs hL) b hb' (by rw [e1]; exact hb)
      · by_cases h1 : d1 = d
        · subst h1
          have h2 : d2 ≠ d1 := Ne.symm hne
          have hL2' := hold d2 hL2 h2
          rw [hother d2 h2] at hb2
          rw [hself] at hb1
          rcases hblk hO1 b hb1 with ⟨h3, _⟩ | ⟨s, hs, hb'⟩
          · obtain ⟨u, e1, _, e3⟩ := hV d2 hL2'
            rw [e1] at hb2
            have := (e3 hO2 b hb2).2
            omega
          · obtain ⟨h4, h5⟩ := hSe s hs
            exact hD s d2 h4 hL2' h5 hO2 (hne_s s d2 hs hL2) b hb' hb2
        · have hL1' := hold d1 hL1 h1
          rw [hother d1 h1] at hb1
          by_cases h2 : d2 = d
          · subst h2
            rw [hself] at hb2
            rcases hblk hO2 b hb2 with ⟨h3, _⟩ | ⟨s, hs, hb'⟩
            · obtain ⟨u, e1, _, e3⟩ := hV d1 hL1'
              rw [e1] at hb1
              have := (e3 hO1 b hb1).2
              omega
            · obtain ⟨h4, h5⟩ := hSe s hs
              exact hD s d1 h4 hL1' h5 hO1 (hne_s s d1 hs hL1) b hb' hb1
          · rw [hother d2 h2] at hb2
            exact hD d1 d2 hL1' (hold d2 hL2 h2) hO1 hO2 hne b hb1 hb2)
    (by
      intro a' w' hI'
      obtain ⟨hF, hB, hV, hD⟩ := hI'
      have hliv : ∀ d ∈ ds, d ∉ E.map (·.2) → Liv h E (Array.replicate h.length true) d := fun d hd hn => by
        rw [← hds] at hd
        obtain ⟨o, ho, hd'⟩ := List.mem_filterMap.1 hd
        obtain ⟨i, hi, he⟩ := List.getElem_of_mem ho
        exact ⟨⟨i, o, by rw [List.getElem?_eq_getElem hi, he], by simp [hi], hd'⟩, fun q hq he => absurd (List.mem_map.2 ⟨q, hq, he⟩) hn⟩
      have hsome : ∀ d ∈ ds, ∃ v, a'.tmps[d]? = some v := fun d hd => by
        rw [← hds] at hd
        obtain ⟨o, ho, hd'⟩ := List.mem_filterMap.1 hd
        have := List.all_eq_true.1 hI o ho
        rw [hd'] at this
        exact ⟨_, Array.getElem?_eq_getElem (by rw [hF.size]; simpa using this)⟩
      have hfr := hfin (fun d => (a'.tmps[d]?).getD undef) w' (fun d hd hn => by obtain ⟨v, h1, h2⟩ := hV d (hliv d hd hn); simp only [h1, Option.getD_some]; exact h2)
        (fun d hd d' hd' hn hn' hO hO' hne b hb hb' => by
          obtain ⟨v, h1, _⟩ := hV d (hliv d hd hn)
          obtain ⟨v', h1', _⟩ := hV d' (hliv d' hd' hn')
          simp only [h1, h1', Option.getD_some] at hb hb'
          exact hD d d' (hliv d hd hn) (hliv d' hd' hn') hO hO' hne b (by rw [h1]; exact hb) (by rw [h1']; exact hb')) hB
      have ea : a' = putR a (ds.map fun d => (d, (a'.tmps[d]?).getD undef)) := by
        refine act_eq (Array.ext_getElem? fun d => ?_) (by rw [putR_defers]; exact hF.defers)
        by_cases hdl : d < a.tmps.size
        · rw [putR_get (fun d => (a'.tmps[d]?).getD undef) d ds a hdl]
          by_cases hd : d ∈ ds
          · rw [if_pos hd]
            obtain ⟨v, h1⟩ := hsome d hd
            simp [h1]
          · rw [if_neg hd]
            refine hF.out d fun i o ho hd' => hd ?_
            rw [← hds]
            exact List.mem_filterMap.2 ⟨o, List.mem_of_getElem? ho, hd'⟩
        · rw [Array.getElem?_eq_none (by rw [hF.size]; omega), Array.getElem?_eq_none (by rw [putR_size]; omega)]
      rw [← ea] at hfr
      show wpList P (h ++ l.drop n).toArray Q (l.drop n) a' w'
      rw [e]
      exact hfr)
    h.length (Array.replicate h.length false) a { w with drawn := w.drawn + 1 } (by simp) (by simp [open_])
    ⟨⟨rfl, rfl, fun _ _ => rfl⟩, hw.drew, fun d hL => by
      exfalso
      obtain ⟨⟨i, o, _, hon, _⟩, _⟩ := hL
      rw [Array.getD_eq_getD_getElem?, Array.getElem?_replicate] at hon
      split at hon <;> simp at hon, fun d d' hL => by
      exfalso
      obtain ⟨⟨i, o, _, hon, _⟩, _⟩ := hL
      rw [Array.getD_eq_getD_getElem?, Array.getElem?_replicate] at hon
      split at hon <;> simp at hon⟩
  have h3 := lift_under (Q := Q) hE hG hT (by rw [e]; exact hS) h.length (Array.replicate h.length false) a _ (by simp) (by simp [open_]) (closed_none _) main
  rw [e] at h3
  have e1 : l.toArray.size = h.length + (l.drop n).length := by rw [← List.length_append, e]; simp
  rw [e1, show Array.replicate (h.length + (l.drop n).length) false = Array.replicate h.length false ++ Array.replicate (l.drop n).length false by simp]
  exact h3
end Go.Proofs.YtjkdonjcngmjeaaDoor.sh
