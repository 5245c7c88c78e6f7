/-
  The digest of all bytes by now; the digest of bytes.
-/
import Derived.Test.YthnkipicehppmaaDoorSF
namespace Go.Proofs.YthnkipicehppmaaDoor.sh
open Go Go.RowKit
set_option linter.unusedVariables false
set_option linter.unusedSimpArgs false

section
variable {P : Program} {h : List Oper} {A0 A : Act} {W0 : World} {S : Nat → Option (Value → World → Prop)} {sp : List Nat} {o : Oper}
theorem rel_calld (hA : Full h A0 A S sp) (hdet : detB h sp o = true) (hsel : notSel o = true) (hg : o.guard = none) (d : Nat) (v : Value) (hd : o.dst = some d) (hds : sp.contains d = false) (hv : A.tmps[d]? = some v) (f : Nat) (fn : Func) (c : Code) (args : List Operand) (ts : Array TypeId) (vs : List Value) (ho : o.op = .call { callee := .value (.func f), args := args.toArray, argTypes := ts })
    (hargs : args.map A.eval = vs) (hf : P.funcs[f]? = some fn) (hname : (fn.name == "runtime.NumGoroutine") = false) (hb : fn.body = some c)
    (hc : ∀ w, Below W0.heap.size W0 w → Calls P f vs.toArray w fun e w' => e = .returned v ∧ Below w.heap.size w w') : RelOk P h A0 W0 (relR A S) o :=
  rel_q hA hdet hsel (want_none hg) d v hd (fun hm => by rw [List.contains_iff_mem.2 hm] at hds; cases hds) hv fun w hw => by
    have h1 : fn.name ≠ "runtime.NumGoroutine" := by simpa using hname
    have ha : args.toArray.map A.eval = vs.toArray := by rw [List.map_toArray, hargs]
    have hrun : (execOp A.eval o).run P w = .ok (.enter f vs.toArray) w := by
      unfold execOp
      simp only [ho, resolve, ha, Act.eval]
      simp [Deferred.ofValue, invoke, callFunc, hf, h1, hb]
    unfold Oper.quietAt
    rw [hrun]
    exact ⟨rfl, hc w hw⟩
theorem rel_rowS (hA : Full h A0 A S sp) (hdet : detB h sp o = true) (hsel : notSel o = true) (hg : o.guard = none) (d : Nat) (v : Value) (hd : o.dst = some d) (hds : sp.contains d = false) (hv : A.tmps[d]? = some v) (ty : TypeId) (x : Operand) (ho : o.op = .load ty x) (g : Nat) (hx : A.eval x = .pointer (some ⟨g, 0, none⟩)) (t : TypeId) (B : Array Value) (fs : Array Field) (hu : P.underlying ty = some (.struct fs)) (hi : (P.info? ty).map (·.size) = some B.size)
    (hb : ∀ w, Below W0.heap.size W0 w → Blk w g t B) (hvB : v = .agg B) : RelOk P h A0 W0 (relR A S) o :=
  rel_q hA hdet hsel (want_none hg) d v hd (fun hm => by rw [List.contains_iff_mem.2 hm] at hds; cases hds) hv fun w hw => by
    unfold Oper.quietAt execOp
    simp only [ho, hx, Instr.loadAt, Instr.sureAddr, Sem.run_bind, Sem.run_pure, Result.andThen_ok, run_loadVar_row w g t ty B (0, 0) _ (hb w hw) hu rfl hi]
    exact ⟨rfl, hvB.symm⟩
end

theorem digA_first (G R : List Nat) (n : Nat) (hG : G.length = 8) : (digA G R n).extract 0 8 = ints .u32 G := by
  apply Array.ext'
  simp [digA, Array.toList_extract]
  rw [List.take_append_of_le_length (by simp [ints, hG]), List.take_of_length_le (by simp [ints, hG])]
theorem field_run {o : Oper} {a : Act} {x : Operand} {G R : List Nat} {n : Nat} (ho : o.op = .field 53 x 0) (hx : a.eval x = .agg (digA G R n)) (hG : G.length = 8) (w : World) : (execOp a.eval o).run Tryd.prog w = .ok (.value (.agg (ints .u32 G))) w := by
  have h1 : ∀ w, (Instr.field 53 (.agg (digA G R n)) 0).run Tryd.prog w = .ok (.agg ((digA G R n).extract 0 8)) w := fun w => by kernel_rfl
  unfold execOp
  simp only [ho, hx]
  simp [h1, digA_first G R n hG]

def sumD (s : List Nat × List Nat × Nat) : List Nat := bytesL (plusL firstL (feed s (fillL s.2.2)).1)
theorem sumD_len (s : List Nat × List Nat × Nat) : (sumD s).length = 32 := bytesL_len _

set_option maxHeartbeats 2000000 in
theorem DSum_any (s : List Nat × List Nat × Nat) (w : World) (hs : Good s) (hn : s.2.2 < 1152921504606846976) (hr : RootsAt w) :
    Calls Tryd.prog 28 #[.agg (digOf s)] w fun e w' => e = .returned (.agg (ints .u8 (sumD s))) ∧ Below w.heap.size w w' := by
  obtain ⟨G, R, n⟩ := s
  simp only at hn
  obtain ⟨L, hL⟩ : ∃ L, L = sumD (G, R, n) := ⟨_, rfl⟩
  rw [← hL]
  have HL : Kept (L.length = 32) := ⟨by rw [hL]; exact sumD_len _⟩
  obtain ⟨FL, hFL⟩ : ∃ FL, FL = fillL n := ⟨_, rfl⟩
  obtain ⟨cap, hcap⟩ : ∃ c, c = 1 + zerosN n + 8 := ⟨_, rfl⟩
  have hz : zerosN n < 64 := Nat.mod_lt _ (by decide)
  have LF : FL.length = cap := by rw [hFL, hcap]; exact fillTo_len n 8
  have BF : Bytes FL := by rw [hFL]; exact fillTo_bytes n 8
  obtain ⟨T, hT⟩ : ∃ T, T = feed (G, R, n) FL := ⟨_, rfl⟩
  have GT : Good T := by rw [hT]; exact hs.feed FL BF
  obtain ⟨DT, hDT⟩ : ∃ DT, DT = digOf T := ⟨_, rfl⟩
  obtain ⟨DA, hDA⟩ : ∃ DA, DA = digOf (G, R, n) := ⟨_, rfl⟩
  obtain ⟨G2, hG2⟩ : ∃ G2, G2 = T.1 := ⟨_, rfl⟩
  obtain ⟨S2, hS2⟩ : ∃ S2, S2 = plusL firstL G2 := ⟨_, rfl⟩
  have LG2 : G2.length = 8 := by rw [hG2]; exact GT.g
  have LS2 : S2.length = 8 := by rw [hS2, plusL_len _ _ (by rw [firstL_len, LG2])]; exact firstL_len
  have EL : L = bytesL S2 := by rw [hL, hS2, hG2, hT, hFL]; rfl
  have SD : Kept ((Tryd.prog.info? 53).map (·.size) = some DA.size) := ⟨by rw [hDA, show digOf (G, R, n) = digA G R n from rfl, digA_size _ _ _ hs.g hs.r]; exact dig_info⟩
  have GN : Kept (DA[72]? = some (.int .u64 (n : Int))) := ⟨by rw [hDA]; exact digA_n G R n hs.g hs.r⟩
  have FR : Kept (∀ {o : Oper} {a : Act} (x : Operand), o.op = .field 53 x 0 → a.eval x = .agg DT → ∀ w, (execOp a.eval o).run Tryd.prog w = .ok (.value (.agg (ints .u32 G2))) w) := ⟨fun x ho hx w => by rw [hG2]; rw [hDT] at hx; exact field_run ho hx GT.g w⟩
  have C1 : Kept (∀ w', Calls Tryd.prog 36 ([] : List Value).toArray w' fun e w2 => e = .returned (.agg (ints .u32 firstL)) ∧ Below w'.heap.size w' w2) := ⟨fun w' => first_any w'⟩
  have C2 : Kept (∀ w', Calls Tryd.prog 38 [.int .u64 (n : Int)].toArray w' fun e w2 => ∃ v, e = .returned v ∧ SliceAt 5 .u8 FL cap v w2 ∧ Below w'.heap.size w' w2) := ⟨fun w' => by rw [hFL, hcap]; exact filling_any n w' (by omega)⟩
  have C3 : Kept (∀ w' vy, Below w.heap.size w w' → SliceAt 5 .u8 FL cap vy w' → Calls Tryd.prog 27 #[.agg DA, vy] w' fun e w2 => e = .returned (.agg DT) ∧ Below w'.heap.size w' w2) := ⟨fun w' vy hb hv => by
    rw [hDA, hDT, hT]
    exact Write_any (G, R, n) FL vy w' hs BF (by rw [LF, hcap]; simp only; omega) (bytesV_slice hv (by rw [LF]; exact Nat.le_refl _)) (hr.below hr.1 hb)⟩
  have C4 : Kept (∀ w', Calls Tryd.prog 35 [.agg (ints .u32 firstL), .agg (ints .u32 G2)].toArray w' fun e w2 => e = .returned (.agg (ints .u32 S2)) ∧ Below w'.heap.size w' w2) := ⟨fun w' => by rw [hS2]; exact plus_any firstL G2 w' firstL_len LG2⟩
  have C5 : Kept (∀ w', Calls Tryd.prog 39 [.agg (ints .u32 S2)].toArray w' fun e w2 => e = .returned (.agg (ints .u8 L)) ∧ Below w'.heap.size w' w2) := ⟨fun w' => by rw [EL]; exact bytes_any S2 w' LS2 (by rw [hS2]; exact plusL_small _ _)⟩
  have h0 := hr.1
  rw [← hDA]
  clear hL hFL hcap hT hDT hDA hG2 hS2 EL GT BF LF hs hr LG2 LS2 hz
  go_enter Tryd.func28, Tryd.ntmps28
  go_wp2_with fail
  generalize hW : (w.alloc (.cells DA 53)).alloc (.cells #[.int .u8 0, .int .u8 0, .int .u8 0, .int .u8 0, .int .u8 0, .int .u8 0, .int .u8 0, .int .u8 0, .int .u8 0, .int .u8 0, .int .u8 0, .int .u8 0, .int .u8 0, .int .u8 0, .int .u8 0, .int .u8 0, .int .u8 0, .int .u8 0, .int .u8 0, .int .u8 0, .int .u8 0, .int .u8 0, .int .u8 0, .int .u8 0, .int .u8 0, .int .u8 0, .int .u8 0, .int .u8 0, .int .u8 0, .int .u8 0, .int .u8 0, .int .u8 0] 24) = W1
  have A0 : Blk W1 w.heap.size 53 DA := by subst hW; exact (blk_new w _ _).alloc _
  have A1 : Blk W1 (w.heap.size + 1) 24 #[.int .u8 0, .int .u8 0, .int .u8 0, .int .u8 0, .int .u8 0, .int .u8 0, .int .u8 0, .int .u8 0, .int .u8 0, .int .u8 0, .int .u8 0, .int .u8 0, .int .u8 0, .int .u8 0, .int .u8 0, .int .u8 0, .int .u8 0, .int .u8 0, .int .u8 0, .int .u8 0, .int .u8 0, .int .u8 0, .int .u8 0, .int .u8 0, .int .u8 0, .int .u8 0, .int .u8 0, .int .u8 0, .int .u8 0, .int .u8 0, .int .u8 0, .int .u8 0] := by subst hW; exact blk_top _ _ _ _ (by simp)
  have QB : Below w.heap.size w W1 := by subst hW; exact ((Below.refl _ _).alloc (Nat.le_refl _) _).alloc (by simp) _
  clear hW
  refine region_list W1 9 [(3, .agg (ints .u32 firstL)), (4, .agg DA), (5, .pointer (some ⟨w.heap.size, 72, none⟩)), (6, .int .u64 (n : Int)), (8, .agg DT), (9, .agg (ints .u32 G2)), (10, .agg (ints .u32 S2)), (11, .agg (ints .u8 L))] [(7, SliceAt 5 .u8 FL cap)] rfl (by kernel_rfl) (by kernel_rfl) (by kernel_rfl) (by kernel_rfl) (by kernel_rfl) (by kernel_rfl) (by kernel_rfl) (by kernel_rfl) ?hst (Below.refl _ _) (fun hA => ⟨rel_calld hA (by kernel_rfl) rfl rfl 3 (.agg (ints .u32 firstL)) rfl rfl (by kernel_rfl) 36 Tryd.f36 _ [] _ [] rfl (by kernel_rfl) Tryd.func36 (by kernel_rfl) rfl (fun w' _ => C1.out w'), rel_rowS hA (by kernel_rfl) rfl rfl 4 (.agg DA) rfl rfl (by kernel_rfl) 53 (.tmp 1) rfl w.heap.size (by kernel_rfl) 53 DA _ Tryd.underlying53 SD.out (fun w' hb => Blk.under A0 hb) rfl, rel_val hA (by kernel_rfl) rfl rfl 5 (.pointer (some ⟨w.heap.size, 72, none⟩)) rfl rfl (by kernel_rfl) (fun w => by kernel_rfl), rel_elem hA (by kernel_rfl) rfl rfl 6 (.int .u64 (n : Int)) rfl rfl (by kernel_rfl) 51 ag_u64 (.tmp 5) rfl w.heap.size 72 (by kernel_rfl) 53 DA (fun w' hb => Blk.under A0 hb) GN.out, rel_call rfl 7 38 Tryd.f38 _ [.tmp 6] _ rfl rfl Tryd.func38 (by kernel_rfl) rfl (fun a w' hF hb hgot => by rw [List.map_cons, List.map_nil, det_slot hA hgot (v := .int .u64 (n : Int)) (by kernel_rfl) rfl (by kernel_rfl) ]; exact (C2.out w').mono fun e w2 hh => by obtain ⟨v, h1, h2, h3⟩ := hh; exact ⟨v, h1, rel_spec (SliceAt 5 .u8 FL cap) rfl h2, h3⟩), rel_call_ds hA rfl 8 27 Tryd.f27 _ 4 7 _ rfl rfl Tryd.func27 (by kernel_rfl) rfl (.agg DA) (by kernel_rfl) rfl (by kernel_rfl) (SliceAt 5 .u8 FL cap) (by kernel_rfl) rfl (fun w' vy hb hp => (C3.out w' vy (QB.trans (hb.mono QB.size)) hp).mono fun e w2 hh => ⟨_, hh.1, rel_det hA rfl (by kernel_rfl) , hh.2⟩), rel_val hA (by kernel_rfl) rfl rfl 9 (.agg (ints .u32 G2)) rfl rfl (by kernel_rfl) (fun w => FR.out _ rfl (by kernel_rfl) w), rel_calld hA (by kernel_rfl) rfl rfl 10 (.agg (ints .u32 S2)) rfl rfl (by kernel_rfl) 35 Tryd.f35 _ [.tmp 3, .tmp 9] _ [.agg (ints .u32 firstL), .agg (ints .u32 G2)] rfl (by kernel_rfl) Tryd.func35 (by kernel_rfl) rfl (fun w' _ => C4.out w'), rel_calld hA (by kernel_rfl) rfl rfl 11 (.agg (ints .u8 L)) rfl rfl (by kernel_rfl) 39 Tryd.f39 _ [.tmp 10] _ [.agg (ints .u32 S2)] rfl (by kernel_rfl) Tryd.func39 (by kernel_rfl) rfl (fun w' _ => C5.out w'), trivial⟩) ?_
  case hst =>
    intro q hq v w1 w2 h1 h2
    simp only [List.mem_cons, List.not_mem_nil, or_false] at hq
    obtain rfl := hq
    exact SliceAt.under h1 h2
  intro fv w4 hf hb4
  simp only [putR, List.foldl_cons, List.foldl_nil, List.map_cons, List.map_nil, Act.put, List.setIfInBounds_toArray, List.set_cons_succ, List.set_cons_zero]
  have A1' := A1.under hb4
  have QB' := QB.trans (hb4.mono QB.size)
  clear A0 A1 QB hb4 hf C1 C2 C3 C4 C5 FR
  refine wl_store rfl 24 (.tmp 2) (.tmp 11) rfl (w.heap.size + 1) (ints .u8 L) (by kernel_rfl) (by kernel_rfl) _ A1' (by rw [ints_size, HL.out]; exact t32_info) (by rw [ints_size, HL.out]; rfl) (ints_one _ _) ?_
  intro w5 A5 P5
  go_wp2
  exact bodyPost_ret (v := .agg (ints .u8 L)) (results_cell_row Tryd.results28 _ _ _ 24 (ints .u8 L) (0, 0) _ rfl A5 Tryd.underlying24 rfl (by rw [ints_size, HL.out]; exact t32_info)) rfl ⟨rfl, QB'.trans (P5.below (by omega))⟩

def initD : List Nat × List Nat × Nat := (List.replicate 8 0, List.replicate 64 0, 0)
theorem init_good : Good initD := ⟨by simp [initD], fun i x hx => by
  simp only [initD, List.getElem?_replicate] at hx
  split at hx <;> simp at hx
  omega, by simp [initD], bytes_zero 64⟩
theorem init_val : (#[.int .u32 0, .int .u32 0, .int .u32 0, .int .u32 0, .int .u32 0, .int .u32 0, .int .u32 0, .int .u32 0, .int .u8 0, .int .u8 0, .int .u8 0, .int .u8 0, .int .u8 0, .int .u8 0, .int .u8 0, .int .u8 0, .int .u8 0, .int .u8 0, .int .u8 0, .int .u8 0, .int .u8 0, .int .u8 0, .int .u8 0, .int .u8 0, .int .u8 0, .int .u8 0, .int .u8 0, .int .u8 0, .int .u8 0, .int .u8 0, .int .u8 0, .int .u8 0, .int .u8 0, .int .u8 0, .int .u8 0, .int .u8 0, .int .u8 0, .int .u8 0, .int .u8 0, .int .u8 0, .int .u8 0, .int .u8 0, .int .u8 0, .int .u8 0, .int .u8 0, .int .u8 0, .int .u8 0, .int .u8 0, .int .u8 0, .int .u8 0, .int .u8 0, .int .u8 0, .int .u8 0, .int .u8 0, .int .u8 0, .int .u8 0, .int .u8 0, .int .u8 0, .int .u8 0, .int .u8 0, .int .u8 0, .int .u8 0, .int .u8 0, .int .u8 0, .int .u8 0, .int .u8 0, .int .u8 0, .int .u8 0, .int .u8 0, .int .u8 0, .int .u8 0, .int .u8 0, .int .u64 0] : Array Value) = digOf initD := by kernel_rfl
/-- The digest of bytes. -/
def sumL (bs : List Nat) : List Nat := sumD (feed initD bs)
theorem sumL_len (bs : List Nat) : (sumL bs).length = 32 := sumD_len _

set_option maxHeartbeats 1000000 in
theorem Sum_any (bs : List Nat) (v : Value) (w : World) (hb : Bytes bs) (hn : bs.length < 1152921504606846976) (hv : BytesV v w bs) (hr : RootsAt w) :
    Calls Tryd.prog 19 #[v] w fun e w' => e = .returned (.agg (ints .u8 (sumL bs))) ∧ Below w.heap.size w w' := by
  obtain ⟨L, hL⟩ : ∃ L, L = sumL bs := ⟨_, rfl⟩
  rw [← hL]
  have EL : Kept _ := ⟨hL⟩
  have HL : Kept (L.length = 32) := ⟨by rw [hL]; exact sumL_len bs⟩
  have KB : Kept _ := ⟨hb⟩
  have KV : Kept _ := ⟨hv⟩
  have KR : Kept _ := ⟨hr⟩
  have KN : Kept _ := ⟨hn⟩
  obtain ⟨DI, hDI⟩ : ∃ DI, DI = digOf initD := ⟨_, rfl⟩
  obtain ⟨DT, hDT⟩ : ∃ DT, DT = digOf (feed initD bs) := ⟨_, rfl⟩
  have ED : Kept _ := ⟨hDI⟩
  have ET : Kept _ := ⟨hDT⟩
  have h0 := hr.1
  have hbuild : ∀ w, (Instr.build 53 #[]).run Tryd.prog w = .ok (.agg DI) w := fun w => by rw [hDI, ← init_val]; kernel_rfl
  clear hL hb hv hr hn hDI hDT
  have A0 : Blk (w.alloc (.cells #[.int .u8 0, .int .u8 0, .int .u8 0, .int .u8 0, .int .u8 0, .int .u8 0, .int .u8 0, .int .u8 0, .int .u8 0, .int .u8 0, .int .u8 0, .int .u8 0, .int .u8 0, .int .u8 0, .int .u8 0, .int .u8 0, .int .u8 0, .int .u8 0, .int .u8 0, .int .u8 0, .int .u8 0, .int .u8 0, .int .u8 0, .int .u8 0, .int .u8 0, .int .u8 0, .int .u8 0, .int .u8 0, .int .u8 0, .int .u8 0, .int .u8 0, .int .u8 0] 24)) w.heap.size 24 #[.int .u8 0, .int .u8 0, .int .u8 0, .int .u8 0, .int .u8 0, .int .u8 0, .int .u8 0, .int .u8 0, .int .u8 0, .int .u8 0, .int .u8 0, .int .u8 0, .int .u8 0, .int .u8 0, .int .u8 0, .int .u8 0, .int .u8 0, .int .u8 0, .int .u8 0, .int .u8 0, .int .u8 0, .int .u8 0, .int .u8 0, .int .u8 0, .int .u8 0, .int .u8 0, .int .u8 0, .int .u8 0, .int .u8 0, .int .u8 0, .int .u8 0, .int .u8 0] := blk_new w _ _
  have Q0 : Below w.heap.size w (w.alloc (.cells #[.int .u8 0, .int .u8 0, .int .u8 0, .int .u8 0, .int .u8 0, .int .u8 0, .int .u8 0, .int .u8 0, .int .u8 0, .int .u8 0, .int .u8 0, .int .u8 0, .int .u8 0, .int .u8 0, .int .u8 0, .int .u8 0, .int .u8 0, .int .u8 0, .int .u8 0, .int .u8 0, .int .u8 0, .int .u8 0, .int .u8 0, .int .u8 0, .int .u8 0, .int .u8 0, .int .u8 0, .int .u8 0, .int .u8 0, .int .u8 0, .int .u8 0, .int .u8 0] 24)) := (Below.refl _ _).alloc (Nat.le_refl _) _
  go_enter Tryd.func19, Tryd.ntmps19
  go_wp2_with (first | (refine wl_at (d := 3) rfl rfl (.agg DI) ?h3 ?_; (case h3 => exact build_run rfl hbuild _); simp only [Act.put, List.setIfInBounds_toArray, List.set_cons_succ, List.set_cons_zero]))
  generalize w.alloc (.cells #[.int .u8 0, .int .u8 0, .int .u8 0, .int .u8 0, .int .u8 0, .int .u8 0, .int .u8 0, .int .u8 0, .int .u8 0, .int .u8 0, .int .u8 0, .int .u8 0, .int .u8 0, .int .u8 0, .int .u8 0, .int .u8 0, .int .u8 0, .int .u8 0, .int .u8 0, .int .u8 0, .int .u8 0, .int .u8 0, .int .u8 0, .int .u8 0, .int .u8 0, .int .u8 0, .int .u8 0, .int .u8 0, .int .u8 0, .int .u8 0, .int .u8 0, .int .u8 0] 24) = w1 at *
  have hc := Write_any initD bs v w1 init_good KB.out (by have := KN.out; simp only [initD]; omega) (KV.out.under Q0) (KR.out.below h0 Q0)
  rw [← ED.out, ← ET.out] at hc
  refine hc.mono ?_
  clear hc
  rintro e w2 ⟨rfl, hb2⟩
  have A2 := A0.under hb2
  have Q2 := Q0.trans (hb2.mono Q0.size)
  clear A0 Q0 hb2
  go_wp2_with fail
  have hc := DSum_any (feed initD bs) w2 (init_good.feed bs KB.out) (by rw [feed_n]; have := KN.out; simp only [initD]; omega) (KR.out.below h0 Q2)
  rw [← ET.out, show sumD (feed initD bs) = L from EL.out.symm] at hc
  refine hc.mono ?_
  clear hc
  rintro e w3 ⟨rfl, hb3⟩
  have A3 := A2.under hb3
  have Q3 := Q2.trans (hb3.mono Q2.size)
  clear A2 Q2 hb3
  go_wp2_with (first | (refine wl_store rfl 24 (.tmp 2) (.tmp 6) rfl _ (ints .u8 L) rfl rfl _ A3 (by rw [ints_size, HL.out]; exact t32_info) (by rw [ints_size, HL.out]; rfl) (ints_one _ _) ?_))
  intro w5 A5 P5
  go_wp2
  exact bodyPost_ret (v := .agg (ints .u8 L)) (results_cell_row Tryd.results19 _ _ _ 24 (ints .u8 L) (0, 0) _ rfl A5 Tryd.underlying24 rfl (by rw [ints_size, HL.out]; exact t32_info)) rfl ⟨rfl, Q3.trans (P5.below (Nat.le_refl _))⟩
end Go.Proofs.YthnkipicehppmaaDoor.sh
