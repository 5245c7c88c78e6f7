/-
  General pieces, joined: UD UE UF.
-/
import Derived.Test.YtkibojjbghopkaaDoorG27
/-
  The key as it is used: two digests.
-/
namespace Go.Proofs.YtkibojjbghopkaaDoor.sh
open Go Go.RowKit
set_option linter.unusedVariables false
set_option linter.unusedSimpArgs false

theorem foldl_zip : ∀ (l : List Value) (k o : Nat) (cs : Array Value), (l.zipIdx k).foldl (fun (cs : Array Value) (x : Value × Nat) => cs.setIfInBounds (o + x.2) x.1) cs = setRange cs (o + k) l
  | [], k, o, cs => by simp [setRange]
  | v :: r, k, o, cs => by
    rw [List.zipIdx_cons, List.foldl_cons, foldl_zip r (k + 1) o]
    rfl
theorem fold_zipA (A cs : Array Value) (o : Nat) : A.zipIdx.foldl (fun (cs : Array Value) (x : Value × Nat) => cs.setIfInBounds (o + x.2) x.1) cs = setRange cs o A.toList := by
  rw [← Array.foldl_toList, Array.toList_zipIdx, foldl_zip]
  rfl
theorem splice_two (X Y A B : List Value) (hA : A.length = X.length) (hB : B.length = Y.length) : splice (splice (X ++ Y) 0 A) X.length B = A ++ B := by
  unfold splice
  rw [List.take_zero, List.nil_append, Nat.zero_add, hA, List.drop_left, ← hA, List.take_left, List.drop_append, List.drop_of_length_le (by omega), List.drop_of_length_le (by omega)]
  simp
theorem splice_behind (X Y B : List Value) (n : Nat) (hn : n = X.length) (hB : B.length = Y.length) : splice (X ++ Y) n B = X ++ B := by
  subst hn
  unfold splice
  rw [List.take_left, List.drop_append, List.drop_of_length_le (by omega), List.drop_of_length_le (by omega)]
  simp
theorem kd_places (parts : List (Nat × Value)) : Tryd.prog.built 60 parts = Instr.fill (#[(0, 73), (73, 73)][·]?) (dgs [] ++ dgs []) parts := by kernel_rfl
theorem kd_built (A B : Array Value) (hA : A.size = 73) (hB : B.size = 73) : Tryd.prog.built 60 [(0, .agg A), (1, .agg B)] = some (A ++ B) := by
  have hz : (dgs []).size = 73 := dgs_size nil_bytes
  rw [kd_places]
  generalize dgs [] = Z at *
  have e1 : setRange (Z ++ Z) 0 A.toList = (splice (Z ++ Z).toList 0 A.toList).toArray := setRange_splice _ _ _ (by simp; omega)
  have e2 : setRange (setRange (Z ++ Z) 0 A.toList) 73 B.toList = A ++ B := by
    rw [e1, setRange_splice _ _ _ (by simp [splice]; omega), List.toList_toArray, Array.toList_append, show (73 : Nat) = Z.toList.length from by simp [hz], splice_two _ _ _ _ (by simp [hz, hA]) (by simp [hz, hB])]
    simp
  have s1 : (setRange (Z ++ Z) 0 A.toList).size = 146 := by rw [e1]; simp [splice]; omega
  simp only [Instr.fill, Value.cells, hA, hB, show (#[(0, 73), (73, 73)] : Array (Nat × Nat))[0]? = some (0, 73) from rfl, show (#[(0, 73), (73, 73)] : Array (Nat × Nat))[1]? = some (73, 73) from rfl, fold_zipA, s1, e2]
  simp [hz]
theorem kd_run {o : Oper} {a : Act} (A B : Array Value) (hA : A.size = 73) (hB : B.size = 73) (x y : Operand) (ho : o.op = .build 60 #[(0, x), (1, y)]) (hx : a.eval x = .agg A) (hy : a.eval y = .agg B) (w : World) : (execOp a.eval o).run Tryd.prog w = .ok (.value (.agg (A ++ B))) w := by
  have h := run_build (P := Tryd.prog) w 60 #[(0, .agg A), (1, .agg B)] _ (kd_built A B hA hB)
  unfold execOp
  simp only [ho]
  simp [hx, hy, h]
theorem kd_info : (Tryd.prog.info? 60).map (·.size) = some 146 := by kernel_rfl
theorem kd_zero (w : World) : (zeroValue 60).run Tryd.prog w = .ok (.agg (dgs [] ++ dgs [])) w := by kernel_rfl
/-- The cells of a key as it is used. -/
def keyD (k : List Nat) : Array Value := dgs (xorL 92 (padL k)) ++ dgs (xorL 54 (padL k))

set_option maxRecDepth 100000 in
set_option maxHeartbeats 2000000 in
theorem keyedBy_any (bs : List Nat) (v : Value) (w : World) (hy : Bytes bs) (hn : bs.length < 1000000000) (hr : RootsAt w) (hv : BytesV v w bs) :
    Calls Tryd.prog 27 #[v] w fun e w' => e = .returned (.agg (keyD bs)) ∧ Below w.heap.size w w' := by
  have KR : Kept _ := ⟨hr⟩
  obtain ⟨P, hP⟩ : ∃ P, P = padL bs := ⟨_, rfl⟩
  have LP : Kept (P.length = 64) := ⟨by rw [hP]; exact padL_len bs⟩
  have YP : Kept (Bytes P) := ⟨by rw [hP]; exact padL_bytes hy⟩
  obtain ⟨DO, hO⟩ : ∃ D, D = dgs (xorL 92 P) := ⟨_, rfl⟩
  obtain ⟨DI, hI⟩ : ∃ D, D = dgs (xorL 54 P) := ⟨_, rfl⟩
  have LO : Kept (DO.size = 73) := ⟨by rw [hO]; exact dgs_size (xorL_bytes YP.out (by decide))⟩
  have LI : Kept (DI.size = 73) := ⟨by rw [hI]; exact dgs_size (xorL_bytes YP.out (by decide))⟩
  have OO : Kept ((DO ++ DI).all (·.oneCell') = true) := ⟨by rw [Array.all_append, hO, hI, dgs_one, dgs_one]; rfl⟩
  rw [show keyD bs = DO ++ DI from by rw [hO, hI, hP]; rfl]
  have EO : Kept _ := ⟨hO⟩
  have EI : Kept _ := ⟨hI⟩
  obtain ⟨Z, hZ⟩ : ∃ Z, Z = dgs [] ++ dgs [] := ⟨_, rfl⟩
  have hz : ∀ w, (zeroValue 60).run Tryd.prog w = .ok (.agg Z) w := fun w => by rw [hZ]; exact kd_zero w
  have LZ : Kept (Z.size = 146) := ⟨by rw [hZ, Array.size_append, dgs_size nil_bytes]⟩
  have A0 : Blk (w.alloc (.cells Z 60)) w.heap.size 60 Z := blk_new w _ _
  have Q0 : Below w.heap.size w (w.alloc (.cells Z 60)) := (Below.refl _ _).alloc (Nat.le_refl _) _
  have C0 : Kept (Calls Tryd.prog 46 #[v] (w.alloc (.cells Z 60)) fun e w' => e = .returned (.agg (ints .u8 P)) ∧ Below (w.alloc (.cells Z 60)).heap.size (w.alloc (.cells Z 60)) w') := ⟨by rw [hP]; exact mfilled_any bs v _ hy hn (hr.below hr.1 Q0) (hv.under Q0)⟩
  clear hy hr hP hO hI hZ hv
  go_enter Tryd.func27, Tryd.ntmps27
  go_wp2_with fail
  refine C0.out.mono ?_
  rintro e w1 ⟨rfl, hb1⟩
  have A1 := A0.under hb1
  have Q1 := Q0.trans (hb1.mono Q0.size)
  have sz1 := A1.lt
  clear hb1 A0 Q0 C0
  go_wp2_with (first | (refine wl_store rfl 56 (.tmp 3) (.tmp 5) rfl w1.heap.size (ints .u8 P) rfl rfl _ (blk_new w1 _ _) (by rw [ints_size, LP.out]; exact t64_info) (by rw [ints_size, LP.out]; rfl) (ints_one _ _) ?_))
  intro w3 A3 P3
  have A13 := P3.blk (A1.alloc _) (by omega)
  have Q3 := (Q1.alloc Q1.size _).trans (P3.below Q1.size)
  generalize hg3 : w1.heap.size = g3 at *
  clear A1 Q1 P3 hg3 hz
  have RR : Kept (∀ w', Below w3.heap.size w3 w' → RootsAt w') := ⟨fun w' hb => (KR.out.below KR.out.1 Q3).under hb⟩
  have C1 : Kept (∀ w', Below w3.heap.size w3 w' → Calls Tryd.prog 47 [.agg (ints .u8 P), .int .u8 92].toArray w' fun e w2 => e = .returned (.agg DO) ∧ Below w'.heap.size w' w2) := ⟨fun w' hb => by rw [EO.out]; exact changed_any P 92 w' LP.out YP.out (by decide) (RR.out w' hb)⟩
  have C2 : Kept (∀ w', Below w3.heap.size w3 w' → Calls Tryd.prog 47 [.agg (ints .u8 P), .int .u8 54].toArray w' fun e w2 => e = .returned (.agg DI) ∧ Below w'.heap.size w' w2) := ⟨fun w' hb => by rw [EI.out]; exact changed_any P 54 w' LP.out YP.out (by decide) (RR.out w' hb)⟩
  have HB : Kept (∀ {o : Oper} {a : Act} (x y : Operand), o.op = .build 60 #[(0, x), (1, y)] → a.eval x = .agg DO → a.eval y = .agg DI → ∀ w, (execOp a.eval o).run Tryd.prog w = .ok (.value (.agg (DO ++ DI))) w) := ⟨fun x y ho hx hy w => kd_run DO DI LO.out LI.out x y ho hx hy w⟩
  go_wp2_with fail
  refine region_ownL w3 5 [(6, .agg (ints .u8 P)), (7, .agg DO), (8, .agg (ints .u8 P)), (9, .agg DI), (10, .agg (DO ++ DI))] [] [] [] rfl (by kernel_rfl) (by kernel_rfl) (by kernel_rfl) (by kernel_rfl) (by kernel_rfl) (by kernel_rfl) (by kernel_rfl) (by kernel_rfl) (by kernel_rfl) (by kernel_rfl) (by kernel_rfl) ?hst1 ?hst2 (Below.refl _ _) (fun hA => ⟨ow_row hA (wants_none rfl) 6 (.agg (ints .u8 P)) (by kernel_rfl) rfl rfl rfl rfl (by kernel_rfl) 56 (.tmp 3) rfl (g3) (by kernel_rfl) 56 (ints .u8 P) 64 5 Tryd.underlying56 (by rw [ints_size, LP.out]; exact t64_info) (fun w1 hb => Blk.under A3 hb) rfl, ow_calld hA (wants_none rfl) 7 (.agg DO) (by kernel_rfl) rfl rfl rfl rfl (by kernel_rfl) 47 Tryd.f47 _ [.tmp 6, .const (.int .u8 92)] _ [.agg (ints .u8 P), .int .u8 92] rfl (by kernel_rfl) Tryd.func47 (by kernel_rfl) rfl (fun w1 hb => C1.out w1 hb), ow_row hA (wants_none rfl) 8 (.agg (ints .u8 P)) (by kernel_rfl) rfl rfl rfl rfl (by kernel_rfl) 56 (.tmp 3) rfl (g3) (by kernel_rfl) 56 (ints .u8 P) 64 5 Tryd.underlying56 (by rw [ints_size, LP.out]; exact t64_info) (fun w1 hb => Blk.under A3 hb) rfl, ow_calld hA (wants_none rfl) 9 (.agg DI) (by kernel_rfl) rfl rfl rfl rfl (by kernel_rfl) 47 Tryd.f47 _ [.tmp 8, .const (.int .u8 54)] _ [.agg (ints .u8 P), .int .u8 54] rfl (by kernel_rfl) Tryd.func47 (by kernel_rfl) rfl (fun w1 hb => C2.out w1 hb), ow_val hA (wants_none rfl) 10 (.agg (DO ++ DI)) (by kernel_rfl) rfl rfl rfl rfl (by kernel_rfl) (fun w => HB.out _ _ rfl (by kernel_rfl) (by kernel_rfl) w), trivial⟩) ?_
  case hst1 => intro q hq; cases hq
  case hst2 => intro q hq; cases hq
  intro fv w4 hf hD hb4
  simp only [putR, List.foldl_cons, List.foldl_nil, List.map_cons, List.map_nil, Act.put, List.setIfInBounds_toArray, List.set_cons_succ, List.set_cons_zero]
  have A14 := A13.under hb4
  have Q4 := Q3.trans (hb4.mono Q3.size)
  have SK : Kept ((Tryd.prog.info? 60).map (·.size) = some (DO ++ DI).size) := ⟨by rw [Array.size_append, LO.out, LI.out]; exact kd_info⟩
  clear hf hD C1 C2 A3 A13 Q3 hb4
  refine wl_store rfl 60 (.tmp 2) (.tmp 10) rfl w.heap.size (DO ++ DI) (by kernel_rfl) (by kernel_rfl) _ A14 SK.out (by rw [Array.size_append, LO.out, LI.out, LZ.out]) OO.out ?_
  intro w5 A5 P5
  go_wp2
  exact bodyPost_ret (v := .agg (DO ++ DI)) (results_cell_row Tryd.results27 _ _ _ 60 (DO ++ DI) (0, 0) _ rfl A5 Tryd.underlying60 rfl SK.out) rfl ⟨rfl, Q4.trans (P5.below (Nat.le_refl _))⟩
end Go.Proofs.YtkibojjbghopkaaDoor.sh
/-
  HMAC of a key as it is used, and pieces.
-/
namespace Go.Proofs.YtkibojjbghopkaaDoor.sh
open Go Go.RowKit
set_option linter.unusedVariables false
set_option linter.unusedSimpArgs false

/-- A struct in the midst of a block is read, in a plain region. -/
theorem wv_partS {ops : Array Oper} {rest : List Oper} {o : Oper} {a : Act} {w : World} {Q : Exit → Act → World → Prop} {d : Nat} (hd : o.dst = some d) (hw : Region.wanted o (yielded ops a.tmps) = true) (t : TypeId) (x : Operand) (ho : o.op = .load t x) (g off : Nat) (hx : a.eval x = .pointer (some ⟨g, off, none⟩)) {t' : TypeId} (cs es : Array Value) (fs : Array Field) (hu : Tryd.prog.underlying t = some (.struct fs)) (hs : (Tryd.prog.info? t).map (·.size) = some es.size)
    (hg : Blk w g t' cs) (hp : ∀ j v, es[j]? = some v → cs[off + j]? = some v) (h : wpList Tryd.prog ops Q rest (a.put o.dst (.agg es)) w) : wpList Tryd.prog ops Q (o :: rest) a w :=
  BigFrame.wpList_want hw fun K hK => by
    unfold Oper.wp execOp
    simp only [ho, hx, Instr.loadAt, Instr.sureAddr, Sem.run_bind, Sem.run_pure, Result.andThen_ok, run_loadVar_at w g off t' t cs es (0, 0) _ hg hp hu rfl hs]
    exact hK _ _ h
theorem part_first (A B : Array Value) : ∀ (j : Nat) (v : Value), A[j]? = some v → (A ++ B)[0 + j]? = some v := fun j v h => by
  rw [Nat.zero_add, Array.getElem?_append_left (Array.getElem?_eq_some_iff.1 h).1]
  exact h
theorem part_second (A B : Array Value) (n : Nat) (hA : A.size = n) : ∀ (j : Nat) (v : Value), B[j]? = some v → (A ++ B)[n + j]? = some v := fun j v h => by
  subst hA
  rw [Array.getElem?_append_right (by omega), Nat.add_sub_cancel_left]
  exact h
/-- The first i of some texts, one behind the other. -/
def catTo (ll : List (List Nat)) (i : Nat) : List Nat := (ll.take i).flatten
theorem catTo_succ (ll : List (List Nat)) (i : Nat) (b : List Nat) (h : ll[i]? = some b) : catTo ll (i + 1) = catTo ll i ++ b := by
  unfold catTo
  rw [List.take_add_one, h]
  simp
theorem catTo_all (ll : List (List Nat)) (i : Nat) (h : ll.length ≤ i) : catTo ll i = ll.flatten := by
  unfold catTo
  rw [List.take_of_length_le h]
theorem catTo_len (ll : List (List Nat)) (i : Nat) : (catTo ll i).length ≤ ll.flatten.length := by
  have h : ll.flatten = (ll.take i).flatten ++ (ll.drop i).flatten := by rw [← List.flatten_append, List.take_append_drop]
  rw [h, List.length_append]
  exact Nat.le_add_right _ _
theorem bytes_flat {ll : List (List Nat)} (h : ∀ b ∈ ll, Bytes b) : Bytes ll.flatten := by
  induction ll with
  | nil => exact nil_bytes
  | cons x r ih => rw [List.flatten_cons]; exact (h x List.mem_cons_self).append (ih fun b hb => h b (List.mem_cons_of_mem _ hb))
theorem catTo_bytes {ll : List (List Nat)} (h : ∀ b ∈ ll, Bytes b) (i : Nat) : Bytes (catTo ll i) := bytes_flat fun b hb => h b (List.mem_of_mem_take hb)

set_option maxRecDepth 100000 in
set_option maxHeartbeats 4000000 in
theorem ksum_any (O I : List Nat) (ll : List (List Nat)) (V : Nat → Value) (v : Value) (w : World) (hO : Bytes O) (hI : Bytes I) (hr : RootsAt w) (hv : RowsV v w V ll) (hn : O.length < 1000000 ∧ I.length + ll.flatten.length < 1000000000) (hlen : ll.length < 1000000) :
    Calls Tryd.prog 28 #[.agg (dgs O ++ dgs I), v] w fun e w' => e = .returned (.agg (ints .u8 (sumL (O ++ sumL (I ++ ll.flatten))))) ∧ Below w.heap.size w w' := by
  have KR : Kept _ := ⟨hr⟩
  have KO : Kept _ := ⟨hO⟩
  have KI : Kept _ := ⟨hI⟩
  have KV : Kept _ := ⟨hv⟩
  have KN : Kept _ := ⟨hn⟩
  obtain ⟨p, c, rfl, hlc, hp, hel⟩ := hv
  have YL : Kept (∀ b ∈ ll, Bytes b) := ⟨fun b hb => by obtain ⟨j, hj, e⟩ := List.getElem_of_mem hb; exact (hel j b (by rw [List.getElem?_eq_getElem hj, e])).2.1⟩
  have KE : Kept _ := ⟨hel⟩
  have KP : Kept _ := ⟨hp⟩
  obtain ⟨n, hnn⟩ : ∃ n, n = ll.length := ⟨_, rfl⟩
  have EN : Kept _ := ⟨hnn⟩
  have n62 : n < 1000000 := by rw [hnn]; exact hlen
  rw [← hnn]
  obtain ⟨DO, hDO⟩ : ∃ D, D = dgs O := ⟨_, rfl⟩
  have EO : Kept _ := ⟨hDO⟩
  have LO : Kept (DO.size = 73) := ⟨by rw [hDO]; exact dgs_size hO⟩
  have SO : Kept ((Tryd.prog.info? 58).map (·.size) = some DO.size) := ⟨by rw [hDO]; exact dgs_info hO⟩
  obtain ⟨L1, hL1⟩ : ∃ L, L = sumL (I ++ ll.flatten) := ⟨_, rfl⟩
  obtain ⟨L, hL⟩ : ∃ L, L = sumL (O ++ L1) := ⟨_, rfl⟩
  rw [← hL1, ← hL, ← hDO]
  have EL1 : Kept _ := ⟨hL1⟩
  have EL : Kept _ := ⟨hL⟩
  have LL1 : Kept (L1.length = 32) := ⟨by rw [hL1]; exact sumL_len _⟩
  have LL : Kept (L.length = 32) := ⟨by rw [hL]; exact sumL_len _⟩
  have A0 : Blk ((w.alloc (.cells (DO ++ dgs I) 60)).alloc (.cells #[.int .u8 0, .int .u8 0, .int .u8 0, .int .u8 0, .int .u8 0, .int .u8 0, .int .u8 0, .int .u8 0, .int .u8 0, .int .u8 0, .int .u8 0, .int .u8 0, .int .u8 0, .int .u8 0, .int .u8 0, .int .u8 0, .int .u8 0, .int .u8 0, .int .u8 0, .int .u8 0, .int .u8 0, .int .u8 0, .int .u8 0, .int .u8 0, .int .u8 0, .int .u8 0, .int .u8 0, .int .u8 0, .int .u8 0, .int .u8 0, .int .u8 0, .int .u8 0] 22)) w.heap.size 60 (DO ++ dgs (I ++ catTo ll 0)) := by rw [show I ++ catTo ll 0 = I from by simp [catTo]]; exact (blk_new w _ _).alloc _
  have A1 : Blk ((w.alloc (.cells (DO ++ dgs I) 60)).alloc (.cells #[.int .u8 0, .int .u8 0, .int .u8 0, .int .u8 0, .int .u8 0, .int .u8 0, .int .u8 0, .int .u8 0, .int .u8 0, .int .u8 0, .int .u8 0, .int .u8 0, .int .u8 0, .int .u8 0, .int .u8 0, .int .u8 0, .int .u8 0, .int .u8 0, .int .u8 0, .int .u8 0, .int .u8 0, .int .u8 0, .int .u8 0, .int .u8 0, .int .u8 0, .int .u8 0, .int .u8 0, .int .u8 0, .int .u8 0, .int .u8 0, .int .u8 0, .int .u8 0] 22)) (w.heap.size + 1) 22 #[.int .u8 0, .int .u8 0, .int .u8 0, .int .u8 0, .int .u8 0, .int .u8 0, .int .u8 0, .int .u8 0, .int .u8 0, .int .u8 0, .int .u8 0, .int .u8 0, .int .u8 0, .int .u8 0, .int .u8 0, .int .u8 0, .int .u8 0, .int .u8 0, .int .u8 0, .int .u8 0, .int .u8 0, .int .u8 0, .int .u8 0, .int .u8 0, .int .u8 0, .int .u8 0, .int .u8 0, .int .u8 0, .int .u8 0, .int .u8 0, .int .u8 0, .int .u8 0] := blk_top _ _ _ _ (by simp)
  have Q0 : Below w.heap.size w ((w.alloc (.cells (DO ++ dgs I) 60)).alloc (.cells #[.int .u8 0, .int .u8 0, .int .u8 0, .int .u8 0, .int .u8 0, .int .u8 0, .int .u8 0, .int .u8 0, .int .u8 0, .int .u8 0, .int .u8 0, .int .u8 0, .int .u8 0, .int .u8 0, .int .u8 0, .int .u8 0, .int .u8 0, .int .u8 0, .int .u8 0, .int .u8 0, .int .u8 0, .int .u8 0, .int .u8 0, .int .u8 0, .int .u8 0, .int .u8 0, .int .u8 0, .int .u8 0, .int .u8 0, .int .u8 0, .int .u8 0, .int .u8 0] 22)) := ((Below.refl _ _).alloc (Nat.le_refl _) _).alloc (by simp) _
  obtain ⟨DI, hDI⟩ : ∃ D, D = dgs I := ⟨_, rfl⟩
  rw [← hDI] at A0 A1 Q0 ⊢
  clear hr hO hI hL1 hL hDO hDI hel hp hnn hn hlen
  go_enter Tryd.func28, Tryd.ntmps28
  go_wp2_with fail
  generalize hW : (w.alloc (.cells (DO ++ DI) 60)).alloc (.cells #[.int .u8 0, .int .u8 0, .int .u8 0, .int .u8 0, .int .u8 0, .int .u8 0, .int .u8 0, .int .u8 0, .int .u8 0, .int .u8 0, .int .u8 0, .int .u8 0, .int .u8 0, .int .u8 0, .int .u8 0, .int .u8 0, .int .u8 0, .int .u8 0, .int .u8 0, .int .u8 0, .int .u8 0, .int .u8 0, .int .u8 0, .int .u8 0, .int .u8 0, .int .u8 0, .int .u8 0, .int .u8 0, .int .u8 0, .int .u8 0, .int .u8 0, .int .u8 0] 22) = wa at *
  clear hW
  go_loopg [10] n (fun k s10 wr => ∃ i : Nat, i + k = n ∧ s10 = .int .i64 (i : Int) ∧ Below w.heap.size w wr ∧ Blk wr w.heap.size 60 (DO ++ dgs (I ++ catTo ll i)) ∧ Blk wr (w.heap.size + 1) 22 #[.int .u8 0, .int .u8 0, .int .u8 0, .int .u8 0, .int .u8 0, .int .u8 0, .int .u8 0, .int .u8 0, .int .u8 0, .int .u8 0, .int .u8 0, .int .u8 0, .int .u8 0, .int .u8 0, .int .u8 0, .int .u8 0, .int .u8 0, .int .u8 0, .int .u8 0, .int .u8 0, .int .u8 0, .int .u8 0, .int .u8 0, .int .u8 0, .int .u8 0, .int .u8 0, .int .u8 0, .int .u8 0, .int .u8 0, .int .u8 0, .int .u8 0, .int .u8 0])
  case atStart => exact ⟨0, by omega, rfl, Q0, A0, A1⟩
  case round =>
    clear A0 A1 Q0
    obtain ⟨i, hik, rfl, HB, A0, A1⟩ := hrel
    have YI : Kept (Bytes (I ++ catTo ll i)) := ⟨KI.out.append (catTo_bytes YL.out i)⟩
    have NI : Kept ((I ++ catTo ll i).length < 1000000000) := ⟨by rw [List.length_append]; have := catTo_len ll i; have := KN.out.2; omega⟩
    obtain ⟨D1, hD1⟩ : ∃ D, D = dgs (I ++ catTo ll i) := ⟨_, rfl⟩
    have E1 : Kept _ := ⟨hD1⟩
    have S1 : Kept ((Tryd.prog.info? 58).map (·.size) = some D1.size) := ⟨by rw [hD1]; exact dgs_info YI.out⟩
    have L73 : Kept (D1.size = 73) := ⟨by rw [hD1]; exact dgs_size YI.out⟩
    have HP1 : Kept (∀ (j : Nat) (v : Value), D1[j]? = some v → (DO ++ D1)[73 + j]? = some v) := ⟨part_second DO D1 73 LO.out⟩
    have HP0 : Kept (∀ (j : Nat) (v : Value), DO[j]? = some v → (DO ++ D1)[0 + j]? = some v) := ⟨part_first DO D1⟩
    rw [← hD1] at A0
    clear hD1
    by_cases hi : i < n
    case pos =>
      have hi' : (i : Int) < (n : Int) := by omega
      obtain ⟨b, hb⟩ : ∃ b, ll[i]? = some b := ⟨_, List.getElem?_eq_getElem (by have := EN.out; omega)⟩
      obtain ⟨VB, YB, _⟩ := KE.out i b hb
      obtain ⟨A, rfl, hAl, hAc⟩ := KP.out (by intro e; have := EN.out; rw [e] at this; simp at this; omega)
      have hc : wr.cell? (A.add i) = some (V i) := by rw [HB.cell (by rw [add_block]; exact hAl)]; exact hAc i (by have := EN.out; omega)
      have NB : Kept ((I ++ catTo ll i).length + b.length < 1000000000) := ⟨by have h := catTo_len ll (i + 1); rw [catTo_succ ll i b hb, List.length_append] at h; rw [List.length_append]; have := KN.out.2; omega⟩
      obtain ⟨D2, hD2⟩ : ∃ D, D = dgs (I ++ catTo ll (i + 1)) := ⟨_, rfl⟩
      have Y2 : Bytes (I ++ catTo ll (i + 1)) := KI.out.append (catTo_bytes YL.out (i + 1))
      have S2 : Kept ((Tryd.prog.info? 58).map (·.size) = some D2.size) := ⟨by rw [hD2]; exact dgs_info Y2⟩
      have L2 : Kept (D2.size = 73) := ⟨by rw [hD2]; exact dgs_size Y2⟩
      have O2 : Kept (D2.all (·.oneCell') = true) := ⟨by rw [hD2]; exact dgs_one _⟩
      have C0 : Kept (Calls Tryd.prog 48 #[.agg D1, V i] wr fun e w' => e = .returned (.agg D2) ∧ Below wr.heap.size wr w') := ⟨by
        rw [E1.out, hD2, catTo_succ ll i b hb, ← List.append_assoc]
        exact cWrite YI.out YB NB.out (KR.out.below KR.out.1 HB) (VB.under HB)⟩
      have E2 : Kept _ := ⟨hD2⟩
      clear hD2 Y2 hb VB YB
      obtain ⟨Vi, hVi⟩ : ∃ u, u = V i := ⟨_, rfl⟩
      rw [← hVi] at hc C0
      clear hVi
      go_wp2_with (first | ((with_reducible refine wv_val (d := 12) ?hd ?hw (.pointer (some (A.add i))) ?hr ?_); (case hd => rfl); (case hw => kernel_rfl); (case hr => intro w; exact run_idxS (l := n) (c := c) rfl (by kernel_rfl) (by kernel_rfl) Tryd.underlying81 hi sz_bytes w); simp only [Act.put, List.setIfInBounds_toArray, List.set_cons_succ, List.set_cons_zero]) | ((with_reducible refine wv_elem (d := 13) ?hd ?hw 23 ag_bytes (.tmp 12) ?ho (A.add i) ?hx Vi ?hg ?_); (case hd => rfl); (case hw => kernel_rfl); (case ho => rfl); (case hx => first | rfl | kernel_rfl); (case hg => exact hc); simp only [Act.put, List.setIfInBounds_toArray, List.set_cons_succ, List.set_cons_zero]) | ((with_reducible refine wv_partS (d := 15) ?hd ?hw 58 (.tmp 14) ?ho w.heap.size 73 ?hx (t' := 60) (DO ++ D1) (D1) _ Tryd.underlying58 ?hs ?hg ?hp ?_); (case hd => rfl); (case hw => kernel_rfl); (case ho => rfl); (case hx => kernel_rfl); (case hs => exact S1.out); (case hg => exact A0); (case hp => exact HP1.out); simp only [Act.put, List.setIfInBounds_toArray, List.set_cons_succ, List.set_cons_zero]))
      refine C0.out.mono ?_
      rintro e w4 ⟨rfl, hb4⟩
      have A04 := A0.under hb4
      have A14 := A1.under hb4
      have HB4 := HB.trans (hb4.mono HB.size)
      clear A0 A1 HB hb4 C0 hc hAc
      go_wp2_with (first | (refine wl_setPart rfl 58 (.tmp 18) (.tmp 17) rfl w.heap.size 73 D2 rfl rfl _ A04 (by rw [Array.size_append, LO.out, L73.out, L2.out]; decide) S2.out O2.out ?_))
      intro w5 A5 P5
      have A5 : Blk w5 w.heap.size 60 (DO ++ dgs (I ++ catTo ll (i + 1))) := by
        try rw [Array.toList_append] at A5
        rw [splice_behind _ _ _ 73 (by simp [LO.out]) (by simp [L73.out, L2.out]), E2.out] at A5
        rw [show DO ++ dgs (I ++ catTo ll (i + 1)) = (DO.toList ++ (dgs (I ++ catTo ll (i + 1))).toList).toArray from by simp]
        exact A5
      have A15 := P5.blk A14 (by omega)
      have HB5 := HB4.trans (P5.below (Nat.le_refl _))
      clear A04 A14 HB4 P5 E2 S2 L2 O2
      go_wp2_with fail
      go_roundg (gk - 1)
      case measure => omega
      case rel => exact ⟨i + 1, by omega, by simp, HB5, A5, A15⟩
    case neg =>
      have hi' : ¬ (i : Int) < (n : Int) := by omega
      have C0 : Kept (Calls Tryd.prog 49 #[.agg D1] wr fun e w' => e = .returned (.agg (ints .u8 L1)) ∧ Below wr.heap.size wr w') := ⟨by
        rw [E1.out, EL1.out, ← catTo_all ll i (by have := EN.out; omega)]
        exact cDSum YI.out NI.out (KR.out.below KR.out.1 HB)⟩
      go_wp2_with (first | ((with_reducible refine wv_partS (d := 21) ?hd ?hw 58 (.tmp 20) ?ho w.heap.size 73 ?hx (t' := 60) (DO ++ D1) (D1) _ Tryd.underlying58 ?hs ?hg ?hp ?_); (case hd => rfl); (case hw => kernel_rfl); (case ho => rfl); (case hx => kernel_rfl); (case hs => exact S1.out); (case hg => exact A0); (case hp => exact HP1.out); simp only [Act.put, List.setIfInBounds_toArray, List.set_cons_succ, List.set_cons_zero]))
      refine C0.out.mono ?_
      rintro e w4 ⟨rfl, hb4⟩
      have A04 := A0.under hb4
      have A14 := A1.under hb4
      have HB4 := HB.trans (hb4.mono HB.size)
      have sz4 : w.heap.size + 1 < w4.heap.size := A14.lt
      clear A0 A1 HB hb4 C0
      go_wp2_with (first | (refine wl_store rfl 22 (.tmp 7) (.tmp 22) rfl w4.heap.size (ints .u8 L1) rfl rfl _ (blk_new w4 _ _) (by rw [ints_size, LL1.out]; exact t32_info) (by rw [ints_size, LL1.out]; rfl) (ints_one _ _) ?_))
      intro w5 A7 P5
      have A5 := P5.blk (A04.alloc _) (by omega)
      have A15 := P5.blk (A14.alloc _) (by omega)
      have HB5 := (HB4.alloc HB4.size _).trans (P5.below HB4.size)
      generalize hg7 : w4.heap.size = g7 at *
      clear A04 A14 HB4 P5 hg7
      have V7 : Kept (BytesV (.slice (some ⟨g7, 0, none⟩) 32 32) w5 L1) := ⟨arr_bytes A7 LL1.out⟩
      have RR : Kept (∀ w', Below w5.heap.size w5 w' → RootsAt w') := ⟨fun w' hb => (KR.out.below KR.out.1 HB5).under hb⟩
      obtain ⟨DX, hDX⟩ : ∃ D, D = dgs (O ++ L1) := ⟨_, rfl⟩
      have YL1 : Kept (Bytes L1) := ⟨by rw [EL1.out]; exact sumL_bytes _⟩
      have NX : (O ++ L1).length < 1000000000 := by rw [List.length_append, LL1.out]; have := KN.out.1; omega
      have C1 : Kept (∀ w', Below w5.heap.size w5 w' → Calls Tryd.prog 48 [.agg DO, .slice (some ⟨g7, 0, none⟩) 32 32].toArray w' fun e w2 => e = .returned (.agg DX) ∧ Below w'.heap.size w' w2) := ⟨fun w' hb => by
        rw [EO.out, hDX]
        exact cWrite KO.out YL1.out (by rw [← List.length_append]; exact NX) (RR.out w' hb) (V7.out.under hb)⟩
      have C2 : Kept (∀ w', Below w5.heap.size w5 w' → Calls Tryd.prog 49 [.agg DX].toArray w' fun e w2 => e = .returned (.agg (ints .u8 L)) ∧ Below w'.heap.size w' w2) := ⟨fun w' hb => by
        rw [hDX, EL.out]
        exact cDSum (KO.out.append YL1.out) NX (RR.out w' hb)⟩
      clear hDX A7 V7 NX
      go_wp2_with fail
      refine region_ownL w5 5 [(23, .pointer (some ⟨w.heap.size, 0, none⟩)), (24, .agg DO), (25, .slice (some ⟨g7, 0, none⟩) 32 32), (26, .agg DX), (27, .agg (ints .u8 L))] [] [] [] rfl (by kernel_rfl) (by kernel_rfl) (by kernel_rfl) (by kernel_rfl) (by kernel_rfl) (by kernel_rfl) (by kernel_rfl) (by kernel_rfl) (by kernel_rfl) (by kernel_rfl) (by kernel_rfl) ?hst1 ?hst2 (Below.refl _ _) (fun hA => ⟨ow_val hA (wants_none rfl) 23 (.pointer (some ⟨w.heap.size, 0, none⟩)) (by kernel_rfl) rfl rfl rfl rfl (by kernel_rfl) (fun w => by kernel_rfl), ow_partS hA (wants_none rfl) 24 (.agg DO) (by kernel_rfl) rfl rfl rfl rfl (by kernel_rfl) 58 (.tmp 23) rfl w.heap.size 0 (by kernel_rfl) 60 (DO ++ D1) DO _ Tryd.underlying58 SO.out (fun w1 hb => Blk.under A5 hb) HP0.out rfl, ow_val hA (wants_none rfl) 25 (.slice (some ⟨g7, 0, none⟩) 32 32) (by kernel_rfl) rfl rfl rfl rfl (by kernel_rfl) (fun w => by kernel_rfl), ow_calld hA (wants_none rfl) 26 (.agg DX) (by kernel_rfl) rfl rfl rfl rfl (by kernel_rfl) 48 Tryd.f48 _ [.tmp 24, .tmp 25] _ [.agg DO, .slice (some ⟨g7, 0, none⟩) 32 32] rfl (by kernel_rfl) Tryd.func48 (by kernel_rfl) rfl (fun w1 hb => C1.out w1 hb), ow_calld hA (wants_none rfl) 27 (.agg (ints .u8 L)) (by kernel_rfl) rfl rfl rfl rfl (by kernel_rfl) 49 Tryd.f49 _ [.tmp 26] _ [.agg DX] rfl (by kernel_rfl) Tryd.func49 (by kernel_rfl) rfl (fun w1 hb => C2.out w1 hb), trivial⟩) ?_
      case hst1 => intro q hq; cases hq
      case hst2 => intro q hq; cases hq
      intro fv w6 hf hD hb6
      simp only [putR, List.foldl_cons, List.foldl_nil, List.map_cons, List.map_nil, Act.put, List.setIfInBounds_toArray, List.set_cons_succ, List.set_cons_zero]
      have A16 := A15.under hb6
      have HB6 := HB5.trans (hb6.mono HB5.size)
      clear hf hD C1 C2 A5 A15 HB5 hb6
      refine wl_store rfl 22 (.tmp 4) (.tmp 27) rfl (w.heap.size + 1) (ints .u8 L) (by kernel_rfl) (by kernel_rfl) _ A16 (by rw [ints_size, LL.out]; exact t32_info) (by rw [ints_size, LL.out]; rfl) (ints_one _ _) ?_
      intro w7 A8 P8
      go_wp2
      exact bodyPost_ret (v := .agg (ints .u8 L)) (results_cell_row Tryd.results28 _ _ _ 22 (ints .u8 L) (0, 0) _ rfl A8 Tryd.underlying22 rfl (by rw [ints_size, LL.out]; exact t32_info)) rfl ⟨rfl, HB6.trans (P8.below (by omega))⟩
end Go.Proofs.YtkibojjbghopkaaDoor.sh
/-
  HMAC of a key and bytes: mac.Sum, mac.Extract.
-/
namespace Go.Proofs.YtkibojjbghopkaaDoor.sh
open Go Go.RowKit
set_option linter.unusedVariables false
set_option linter.unusedSimpArgs false

theorem rowsV_of {w : World} {g n : Nat} {t : TypeId} (vs : List Value) (ll : List (List Nat)) (hlen : vs.length = ll.length) (hn : ll.length = n) (hg : Blk w g t vs.toArray) (h : ∀ (j : Nat) (v : Value) (bs : List Nat), vs[j]? = some v → ll[j]? = some bs → BytesV v w bs ∧ Bytes bs ∧ bs.length ≤ maxLen) :
    RowsV (.slice (some ⟨g, 0, none⟩) n n) w (fun j => vs.getD j undef) ll := by
  subst hn
  refine ⟨_, _, rfl, Nat.le_refl _, fun _ => ⟨_, rfl, hg.lt, fun j hj => ?_⟩, fun j bs hj => ?_⟩
  · rw [addr_add, Nat.zero_add]
    exact hg.cell (by simp [List.getD_eq_getElem?_getD, show j < vs.length from by omega])
  · have hjl := (List.getElem?_eq_some_iff.1 hj).1
    exact h j _ bs (by simp [List.getD_eq_getElem?_getD, show j < vs.length from by omega]) hj

set_option maxRecDepth 100000 in
set_option maxHeartbeats 2000000 in
theorem mSum_any (k b : List Nat) (vk vb : Value) (w : World) (hk : Bytes k) (hkn : k.length < 1000000000) (hb : Bytes b) (hbn : b.length < 900000000) (hr : RootsAt w) (hvk : BytesV vk w k) (hvb : BytesV vb w b) :
    Calls Tryd.prog 29 #[vk, vb] w fun e w' => e = .returned (.agg (ints .u8 (macL k b))) ∧ Below w.heap.size w w' := by
  have KR : Kept _ := ⟨hr⟩
  have KB : Kept _ := ⟨hb⟩
  have KN : Kept _ := ⟨hbn⟩
  have KV : Kept _ := ⟨hvb⟩
  obtain ⟨pb, cb, eb, _, _⟩ := hvb
  obtain ⟨nb, hnb⟩ : ∃ n, n = b.length := ⟨_, rfl⟩
  rw [← hnb] at eb
  clear hnb
  subst eb
  obtain ⟨O, hO⟩ : ∃ P, P = xorL 92 (padL k) := ⟨_, rfl⟩
  obtain ⟨I, hI⟩ : ∃ P, P = xorL 54 (padL k) := ⟨_, rfl⟩
  have YO : Kept (Bytes O) := ⟨by rw [hO]; exact xorL_bytes (padL_bytes hk) (by decide)⟩
  have YI : Kept (Bytes I) := ⟨by rw [hI]; exact xorL_bytes (padL_bytes hk) (by decide)⟩
  have LO : Kept (O.length = 64) := ⟨by rw [hO, xorL_len]; exact padL_len k⟩
  have LI : Kept (I.length = 64) := ⟨by rw [hI, xorL_len]; exact padL_len k⟩
  obtain ⟨L, hL⟩ : ∃ L, L = macL k b := ⟨_, rfl⟩
  have EL : Kept (L = sumL (O ++ sumL (I ++ [b].flatten))) := ⟨by rw [hL, hO, hI]; simp [macL]⟩
  have LL : Kept (L.length = 32) := ⟨by rw [hL]; exact macL_len k b⟩
  rw [← hL]
  obtain ⟨D, hD⟩ : ∃ D, D = dgs O ++ dgs I := ⟨_, rfl⟩
  have ED : Kept _ := ⟨hD⟩
  have A0 : Blk (w.alloc (.cells #[.int .u8 0, .int .u8 0, .int .u8 0, .int .u8 0, .int .u8 0, .int .u8 0, .int .u8 0, .int .u8 0, .int .u8 0, .int .u8 0, .int .u8 0, .int .u8 0, .int .u8 0, .int .u8 0, .int .u8 0, .int .u8 0, .int .u8 0, .int .u8 0, .int .u8 0, .int .u8 0, .int .u8 0, .int .u8 0, .int .u8 0, .int .u8 0, .int .u8 0, .int .u8 0, .int .u8 0, .int .u8 0, .int .u8 0, .int .u8 0, .int .u8 0, .int .u8 0] 22)) w.heap.size 22 #[.int .u8 0, .int .u8 0, .int .u8 0, .int .u8 0, .int .u8 0, .int .u8 0, .int .u8 0, .int .u8 0, .int .u8 0, .int .u8 0, .int .u8 0, .int .u8 0, .int .u8 0, .int .u8 0, .int .u8 0, .int .u8 0, .int .u8 0, .int .u8 0, .int .u8 0, .int .u8 0, .int .u8 0, .int .u8 0, .int .u8 0, .int .u8 0, .int .u8 0, .int .u8 0, .int .u8 0, .int .u8 0, .int .u8 0, .int .u8 0, .int .u8 0, .int .u8 0] := blk_new w _ _
  have Q0 : Below w.heap.size w (w.alloc (.cells #[.int .u8 0, .int .u8 0, .int .u8 0, .int .u8 0, .int .u8 0, .int .u8 0, .int .u8 0, .int .u8 0, .int .u8 0, .int .u8 0, .int .u8 0, .int .u8 0, .int .u8 0, .int .u8 0, .int .u8 0, .int .u8 0, .int .u8 0, .int .u8 0, .int .u8 0, .int .u8 0, .int .u8 0, .int .u8 0, .int .u8 0, .int .u8 0, .int .u8 0, .int .u8 0, .int .u8 0, .int .u8 0, .int .u8 0, .int .u8 0, .int .u8 0, .int .u8 0] 22)) := (Below.refl _ _).alloc (Nat.le_refl _) _
  have C0 : Kept (Calls Tryd.prog 27 #[vk] (w.alloc (.cells #[.int .u8 0, .int .u8 0, .int .u8 0, .int .u8 0, .int .u8 0, .int .u8 0, .int .u8 0, .int .u8 0, .int .u8 0, .int .u8 0, .int .u8 0, .int .u8 0, .int .u8 0, .int .u8 0, .int .u8 0, .int .u8 0, .int .u8 0, .int .u8 0, .int .u8 0, .int .u8 0, .int .u8 0, .int .u8 0, .int .u8 0, .int .u8 0, .int .u8 0, .int .u8 0, .int .u8 0, .int .u8 0, .int .u8 0, .int .u8 0, .int .u8 0, .int .u8 0] 22)) fun e w' => e = .returned (.agg D) ∧ Below (w.alloc (.cells #[.int .u8 0, .int .u8 0, .int .u8 0, .int .u8 0, .int .u8 0, .int .u8 0, .int .u8 0, .int .u8 0, .int .u8 0, .int .u8 0, .int .u8 0, .int .u8 0, .int .u8 0, .int .u8 0, .int .u8 0, .int .u8 0, .int .u8 0, .int .u8 0, .int .u8 0, .int .u8 0, .int .u8 0, .int .u8 0, .int .u8 0, .int .u8 0, .int .u8 0, .int .u8 0, .int .u8 0, .int .u8 0, .int .u8 0, .int .u8 0, .int .u8 0, .int .u8 0] 22)).heap.size (w.alloc (.cells #[.int .u8 0, .int .u8 0, .int .u8 0, .int .u8 0, .int .u8 0, .int .u8 0, .int .u8 0, .int .u8 0, .int .u8 0, .int .u8 0, .int .u8 0, .int .u8 0, .int .u8 0, .int .u8 0, .int .u8 0, .int .u8 0, .int .u8 0, .int .u8 0, .int .u8 0, .int .u8 0, .int .u8 0, .int .u8 0, .int .u8 0, .int .u8 0, .int .u8 0, .int .u8 0, .int .u8 0, .int .u8 0, .int .u8 0, .int .u8 0, .int .u8 0, .int .u8 0] 22)) w') := ⟨by rw [hD, hO, hI]; exact keyedBy_any k vk _ hk hkn (hr.below hr.1 Q0) (hvk.under Q0)⟩
  clear hr hb hbn hvk hk hkn hO hI hL hD
  go_enter Tryd.func29, Tryd.ntmps29
  go_wp2_with fail
  refine C0.out.mono ?_
  rintro e w1 ⟨rfl, hb1⟩
  have A1 := A0.under hb1
  have Q1 := Q0.trans (hb1.mono Q0.size)
  clear hb1 A0 Q0 C0
  go_wp2_with fail
  have A2 := A1.alloc (.cells #[.slice pb nb cb] 23)
  have Q2 : Below w.heap.size w (w1.alloc (.cells #[.slice pb nb cb] 23)) := Q1.alloc Q1.size _
  have RV : Kept (RowsV (.slice (some ⟨w1.heap.size, 0, none⟩) 1 1) (w1.alloc (.cells #[.slice pb nb cb] 23)) (fun j => [.slice pb nb cb].getD j undef) [b]) := ⟨rowsV_of (t := 23) [.slice pb nb cb] [b] rfl rfl (blk_new w1 _ _) (fun j v bs h1 h2 => by
    rcases j with _ | j <;> simp at h1 h2
    subst h1 h2
    exact ⟨KV.out.under Q2, KB.out, Nat.le_of_lt (Nat.lt_of_lt_of_le KN.out (by decide))⟩)⟩
  have C1 : Kept (Calls Tryd.prog 28 #[.agg D, .slice (some ⟨w1.heap.size, 0, none⟩) 1 1] (w1.alloc (.cells #[.slice pb nb cb] 23)) fun e w' => e = .returned (.agg (ints .u8 L)) ∧ Below (w1.alloc (.cells #[.slice pb nb cb] 23)).heap.size (w1.alloc (.cells #[.slice pb nb cb] 23)) w') := ⟨by
    rw [ED.out, EL.out]
    exact ksum_any O I [b] _ _ _ YO.out YI.out (KR.out.below KR.out.1 Q2) RV.out ⟨by rw [LO.out]; decide, by rw [LI.out]; simp; have := KN.out; omega⟩ (by simp)⟩
  refine C1.out.mono ?_
  rintro e w3 ⟨rfl, hb3⟩
  have A3 := A2.under hb3
  have Q3 := Q2.trans (hb3.mono Q2.size)
  clear hb3 A1 A2 Q1 Q2 C1 RV
  go_wp2_with (first | (refine wl_store rfl 22 (.tmp 4) (.tmp 9) rfl w.heap.size (ints .u8 L) rfl rfl _ A3 (by rw [ints_size, LL.out]; exact t32_info) (by rw [ints_size, LL.out]; rfl) (ints_one _ _) ?_))
  intro w4 A4 P4
  go_wp2
  exact bodyPost_ret (v := .agg (ints .u8 L)) (results_cell_row Tryd.results29 _ _ _ 22 (ints .u8 L) (0, 0) _ rfl A4 Tryd.underlying22 rfl (by rw [ints_size, LL.out]; exact t32_info)) rfl ⟨rfl, Q3.trans (P4.below (Nat.le_refl _))⟩

set_option maxRecDepth 100000 in
set_option maxHeartbeats 2000000 in
theorem mExtract_any (k b : List Nat) (vk vb : Value) (w : World) (hk : Bytes k) (hkn : k.length < 1000000000) (hb : Bytes b) (hbn : b.length < 900000000) (hr : RootsAt w) (hvk : BytesV vk w k) (hvb : BytesV vb w b) :
    Calls Tryd.prog 14 #[vk, vb] w fun e w' => e = .returned (.agg (ints .u8 (macL k b))) ∧ Below w.heap.size w w' := by
  obtain ⟨L, hL⟩ : ∃ L, L = macL k b := ⟨_, rfl⟩
  have LL : Kept (L.length = 32) := ⟨by rw [hL]; exact macL_len k b⟩
  have A0 : Blk (w.alloc (.cells #[.int .u8 0, .int .u8 0, .int .u8 0, .int .u8 0, .int .u8 0, .int .u8 0, .int .u8 0, .int .u8 0, .int .u8 0, .int .u8 0, .int .u8 0, .int .u8 0, .int .u8 0, .int .u8 0, .int .u8 0, .int .u8 0, .int .u8 0, .int .u8 0, .int .u8 0, .int .u8 0, .int .u8 0, .int .u8 0, .int .u8 0, .int .u8 0, .int .u8 0, .int .u8 0, .int .u8 0, .int .u8 0, .int .u8 0, .int .u8 0, .int .u8 0, .int .u8 0] 22)) w.heap.size 22 #[.int .u8 0, .int .u8 0, .int .u8 0, .int .u8 0, .int .u8 0, .int .u8 0, .int .u8 0, .int .u8 0, .int .u8 0, .int .u8 0, .int .u8 0, .int .u8 0, .int .u8 0, .int .u8 0, .int .u8 0, .int .u8 0, .int .u8 0, .int .u8 0, .int .u8 0, .int .u8 0, .int .u8 0, .int .u8 0, .int .u8 0, .int .u8 0, .int .u8 0, .int .u8 0, .int .u8 0, .int .u8 0, .int .u8 0, .int .u8 0, .int .u8 0, .int .u8 0] := blk_new w _ _
  have Q0 : Below w.heap.size w (w.alloc (.cells #[.int .u8 0, .int .u8 0, .int .u8 0, .int .u8 0, .int .u8 0, .int .u8 0, .int .u8 0, .int .u8 0, .int .u8 0, .int .u8 0, .int .u8 0, .int .u8 0, .int .u8 0, .int .u8 0, .int .u8 0, .int .u8 0, .int .u8 0, .int .u8 0, .int .u8 0, .int .u8 0, .int .u8 0, .int .u8 0, .int .u8 0, .int .u8 0, .int .u8 0, .int .u8 0, .int .u8 0, .int .u8 0, .int .u8 0, .int .u8 0, .int .u8 0, .int .u8 0] 22)) := (Below.refl _ _).alloc (Nat.le_refl _) _
  have C0 : Kept (Calls Tryd.prog 29 #[vk, vb] (w.alloc (.cells #[.int .u8 0, .int .u8 0, .int .u8 0, .int .u8 0, .int .u8 0, .int .u8 0, .int .u8 0, .int .u8 0, .int .u8 0, .int .u8 0, .int .u8 0, .int .u8 0, .int .u8 0, .int .u8 0, .int .u8 0, .int .u8 0, .int .u8 0, .int .u8 0, .int .u8 0, .int .u8 0, .int .u8 0, .int .u8 0, .int .u8 0, .int .u8 0, .int .u8 0, .int .u8 0, .int .u8 0, .int .u8 0, .int .u8 0, .int .u8 0, .int .u8 0, .int .u8 0] 22)) fun e w' => e = .returned (.agg (ints .u8 L)) ∧ Below (w.alloc (.cells #[.int .u8 0, .int .u8 0, .int .u8 0, .int .u8 0, .int .u8 0, .int .u8 0, .int .u8 0, .int .u8 0, .int .u8 0, .int .u8 0, .int .u8 0, .int .u8 0, .int .u8 0, .int .u8 0, .int .u8 0, .int .u8 0, .int .u8 0, .int .u8 0, .int .u8 0, .int .u8 0, .int .u8 0, .int .u8 0, .int .u8 0, .int .u8 0, .int .u8 0, .int .u8 0, .int .u8 0, .int .u8 0, .int .u8 0, .int .u8 0, .int .u8 0, .int .u8 0] 22)).heap.size (w.alloc (.cells #[.int .u8 0, .int .u8 0, .int .u8 0, .int .u8 0, .int .u8 0, .int .u8 0, .int .u8 0, .int .u8 0, .int .u8 0, .int .u8 0, .int .u8 0, .int .u8 0, .int .u8 0, .int .u8 0, .int .u8 0, .int .u8 0, .int .u8 0, .int .u8 0, .int .u8 0, .int .u8 0, .int .u8 0, .int .u8 0, .int .u8 0, .int .u8 0, .int .u8 0, .int .u8 0, .int .u8 0, .int .u8 0, .int .u8 0, .int .u8 0, .int .u8 0, .int .u8 0] 22)) w') := ⟨by rw [hL]; exact mSum_any k b vk vb _ hk hkn hb hbn (hr.below hr.1 Q0) (hvk.under Q0) (hvb.under Q0)⟩
  rw [← hL]
  clear hr hb hbn hvb hvk hk hkn hL
  go_enter Tryd.func14, Tryd.ntmps14
  go_wp2_with fail
  refine C0.out.mono ?_
  rintro e w1 ⟨rfl, hb1⟩
  have A1 := A0.under hb1
  have Q1 := Q0.trans (hb1.mono Q0.size)
  clear hb1 A0 Q0 C0
  go_wp2_with (first | (refine wl_store rfl 22 (.tmp 4) (.tmp 7) rfl w.heap.size (ints .u8 L) rfl rfl _ A1 (by rw [ints_size, LL.out]; exact t32_info) (by rw [ints_size, LL.out]; rfl) (ints_one _ _) ?_))
  intro w4 A4 P4
  go_wp2
  exact bodyPost_ret (v := .agg (ints .u8 L)) (results_cell_row Tryd.results14 _ _ _ 22 (ints .u8 L) (0, 0) _ rfl A4 Tryd.underlying22 rfl (by rw [ints_size, LL.out]; exact t32_info)) rfl ⟨rfl, Q1.trans (P4.below (Nat.le_refl _))⟩
end Go.Proofs.YtkibojjbghopkaaDoor.sh
