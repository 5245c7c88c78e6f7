/-
  General pieces, joined: UE UF UG.
-/
import Derived.Test.YtjkdonjcngmjeaaDoorG18
/-
  HMAC of a key as it is used, and pieces.
-/
namespace Go.Proofs.YtjkdonjcngmjeaaDoor.sh
open Go Go.RowKit
set_option linter.unusedVariables false
set_option linter.unusedSimpArgs false

/-- A struct in the midst of a block is read, in a plain region. -/
theorem wv_partS {ops : Array Oper} {rest : List Oper} {o : Oper} {a : Act} {w : World} {Q : Exit → Act → World → Prop} {d : Nat} (hd : o.dst = some d) (hw : Region.wanted o (yielded ops a.tmps) = true) (t : TypeId) (x : Operand) (ho : o.op = .load t x) (g off : Nat) (hx : a.eval x = .pointer (some ⟨g, off, none⟩)) {t' : TypeId} (cs es : Array Value) (fs : Array Field) (hu : Tryd.prog.underlying t = some (.struct fs)) (hs : (Tryd.prog.info? t).map (·.size) = some es.size)
    (hg : Blk w g t' cs) (hp : ∀ j v, es[j]? = some v → cs[off + j]? = some v) (h : wpList Tryd.prog ops Q rest (a.put o.dst (.agg es)) w) : wpList Tryd.prog ops Q (o :: rest) a w :=
  BigFrame.wpList_want hw fun K hK => by
    unfold Oper.wp execOp
    simp only [ho, hx, Instr.loadAt, Instr.sureAddr, Sem.run_bind, Sem.run_pure, Result.andThen_ok, run_loadVar_at w g off t' t cs es (0, 0) _ hg hp hu rfl hs]
    exact hK _ _ h
theorem part_first (A B : Array Value) : ∀ (j : Nat) (v : Value), A[j]? = some v → (A ++ B)[0 + j]? = some v := fun j v h => by
  rw [Nat.zero_add, Array.getElem?_append_left (Array.getElem?_eq_some_iff.1 h).1]
  exact h
theorem part_second (A B : Array Value) (n : Nat) (hA : A.size = n) : ∀ (j : Nat) (v : Value), B[j]? = some v → (A ++ B)[n + j]? = some v := fun j v h => by
  subst hA
  rw [Array.getElem?_append_right (by omega), Nat.add_sub_cancel_left]
  exact h
/-- The first i of some texts, one behind the other. -/
def catTo (ll : List (List Nat)) (i : Nat) : List Nat := (ll.take i).flatten
theorem catTo_succ (ll : List (List Nat)) (i : Nat) (b : List Nat) (h : ll[i]? = some b) : catTo ll (i + 1) = catTo ll i ++ b := by
  unfold catTo
  rw [List.take_add_one, h]
  simp
theorem catTo_all (ll : List (List Nat)) (i : Nat) (h : ll.length ≤ i) : catTo ll i = ll.flatten := by
  unfold catTo
  rw [List.take_of_length_le h]
theorem catTo_len (ll : List (List Nat)) (i : Nat) : (catTo ll i).length ≤ ll.flatten.length := by
  have h : ll.flatten = (ll.take i).flatten ++ (ll.drop i).flatten := by rw [← List.flatten_append, List.take_append_drop]
  rw [h, List.length_append]
  exact Nat.le_add_right _ _
theorem bytes_flat {ll : List (List Nat)} (h : ∀ b ∈ ll, Bytes b) : Bytes ll.flatten := by
  induction ll with
  | nil => exact nil_bytes
  | cons x r ih => rw [List.flatten_cons]; exact (h x List.mem_cons_self).append (ih fun b hb => h b (List.mem_cons_of_mem _ hb))
theorem catTo_bytes {ll : List (List Nat)} (h : ∀ b ∈ ll, Bytes b) (i : Nat) : Bytes (catTo ll i) := bytes_flat fun b hb => h b (List.mem_of_mem_take hb)

set_option maxRecDepth 100000 in
set_option maxHeartbeats 4000000 in
theorem ksum_any (O I : List Nat) (ll : List (List Nat)) (V : Nat → Value) (v : Value) (w : World) (hO : Bytes O) (hI : Bytes I) (hr : RootsAt w) (hv : RowsV v w V ll) (hn : O.length < 1000000 ∧ I.length + ll.flatten.length < 1000000000) (hlen : ll.length < 1000000) :
    Calls Tryd.prog 75 #[.agg (dgs O ++ dgs I), v] w fun e w' => e = .returned (.agg (ints .u8 (sumL (O ++ sumL (I ++ ll.flatten))))) ∧ Below w.heap.size w w' := by
  have KR : Kept _ := ⟨hr⟩
  have KO : Kept _ := ⟨hO⟩
  have KI : Kept _ := ⟨hI⟩
  have KV : Kept _ := ⟨hv⟩
  have KN : Kept _ := ⟨hn⟩
  obtain ⟨p, c, rfl, hlc, hp, hel⟩ := hv
  have YL : Kept (∀ b ∈ ll, Bytes b) := ⟨fun b hb => by obtain ⟨j, hj, e⟩ := List.getElem_of_mem hb; exact (hel j b (by rw [List.getElem?_eq_getElem hj, e])).2.1⟩
  have KE : Kept _ := ⟨hel⟩
  have KP : Kept _ := ⟨hp⟩
  obtain ⟨n, hnn⟩ : ∃ n, n = ll.length := ⟨_, rfl⟩
  have EN : Kept _ := ⟨hnn⟩
  have n62 : n < 1000000 := by rw [hnn]; exact hlen
  rw [← hnn]
  obtain ⟨DO, hDO⟩ : ∃ D, D = dgs O := ⟨_, rfl⟩
  have EO : Kept _ := ⟨hDO⟩
  have LO : Kept (DO.size = 73) := ⟨by rw [hDO]; exact dgs_size hO⟩
  have SO : Kept ((Tryd.prog.info? 51).map (·.size) = some DO.size) := ⟨by rw [hDO]; exact dgs_info hO⟩
  obtain ⟨L1, hL1⟩ : ∃ L, L = sumL (I ++ ll.flatten) := ⟨_, rfl⟩
  obtain ⟨L, hL⟩ : ∃ L, L = sumL (O ++ L1) := ⟨_, rfl⟩
  rw [← hL1, ← hL, ← hDO]
  have EL1 : Kept _ := ⟨hL1⟩
  have EL : Kept _ := ⟨hL⟩
  have LL1 : Kept (L1.length = 32) := ⟨by rw [hL1]; exact sumL_len _⟩
  have LL : Kept (L.length = 32) := ⟨by rw [hL]; exact sumL_len _⟩
  have A0 : Blk ((w.alloc (.cells (DO ++ dgs I) 129)).alloc (.cells #[.int .u8 0, .int .u8 0, .int .u8 0, .int .u8 0, .int .u8 0, .int .u8 0, .int .u8 0, .int .u8 0, .int .u8 0, .int .u8 0, .int .u8 0, .int .u8 0, .int .u8 0, .int .u8 0, .int .u8 0, .int .u8 0, .int .u8 0, .int .u8 0, .int .u8 0, .int .u8 0, .int .u8 0, .int .u8 0, .int .u8 0, .int .u8 0, .int .u8 0, .int .u8 0, .int .u8 0, .int .u8 0, .int .u8 0, .int .u8 0, .int .u8 0, .int .u8 0] 22)) w.heap.size 129 (DO ++ dgs (I ++ catTo ll 0)) := by rw [show I ++ catTo ll 0 = I from by simp [catTo]]; exact (blk_new w _ _).alloc _
  have A1 : Blk ((w.alloc (.cells (DO ++ dgs I) 129)).alloc (.cells #[.int .u8 0, .int .u8 0, .int .u8 0, .int .u8 0, .int .u8 0, .int .u8 0, .int .u8 0, .int .u8 0, .int .u8 0, .int .u8 0, .int .u8 0, .int .u8 0, .int .u8 0, .int .u8 0, .int .u8 0, .int .u8 0, .int .u8 0, .int .u8 0, .int .u8 0, .int .u8 0, .int .u8 0, .int .u8 0, .int .u8 0, .int .u8 0, .int .u8 0, .int .u8 0, .int .u8 0, .int .u8 0, .int .u8 0, .int .u8 0, .int .u8 0, .int .u8 0] 22)) (w.heap.size + 1) 22 #[.int .u8 0, .int .u8 0, .int .u8 0, .int .u8 0, .int .u8 0, .int .u8 0, .int .u8 0, .int .u8 0, .int .u8 0, .int .u8 0, .int .u8 0, .int .u8 0, .int .u8 0, .int .u8 0, .int .u8 0, .int .u8 0, .int .u8 0, .int .u8 0, .int .u8 0, .int .u8 0, .int .u8 0, .int .u8 0, .int .u8 0, .int .u8 0, .int .u8 0, .int .u8 0, .int .u8 0, .int .u8 0, .int .u8 0, .int .u8 0, .int .u8 0, .int .u8 0] := blk_top _ _ _ _ (by simp)
  have Q0 : Below w.heap.size w ((w.alloc (.cells (DO ++ dgs I) 129)).alloc (.cells #[.int .u8 0, .int .u8 0, .int .u8 0, .int .u8 0, .int .u8 0, .int .u8 0, .int .u8 0, .int .u8 0, .int .u8 0, .int .u8 0, .int .u8 0, .int .u8 0, .int .u8 0, .int .u8 0, .int .u8 0, .int .u8 0, .int .u8 0, .int .u8 0, .int .u8 0, .int .u8 0, .int .u8 0, .int .u8 0, .int .u8 0, .int .u8 0, .int .u8 0, .int .u8 0, .int .u8 0, .int .u8 0, .int .u8 0, .int .u8 0, .int .u8 0, .int .u8 0] 22)) := ((Below.refl _ _).alloc (Nat.le_refl _) _).alloc (by simp) _
  obtain ⟨DI, hDI⟩ : ∃ D, D = dgs I := ⟨_, rfl⟩
  rw [← hDI] at A0 A1 Q0 ⊢
  clear hr hO hI hL1 hL hDO hDI hel hp hnn hn hlen
  go_enter Tryd.func75, Tryd.ntmps75
  go_wp2_with fail
  generalize hW : (w.alloc (.cells (DO ++ DI) 129)).alloc (.cells #[.int .u8 0, .int .u8 0, .int .u8 0, .int .u8 0, .int .u8 0, .int .u8 0, .int .u8 0, .int .u8 0, .int .u8 0, .int .u8 0, .int .u8 0, .int .u8 0, .int .u8 0, .int .u8 0, .int .u8 0, .int .u8 0, .int .u8 0, .int .u8 0, .int .u8 0, .int .u8 0, .int .u8 0, .int .u8 0, .int .u8 0, .int .u8 0, .int .u8 0, .int .u8 0, .int .u8 0, .int .u8 0, .int .u8 0, .int .u8 0, .int .u8 0, .int .u8 0] 22) = wa at *
  clear hW
  go_loopg [10] n (fun k s10 wr => ∃ i : Nat, i + k = n ∧ s10 = .int .i64 (i : Int) ∧ Below w.heap.size w wr ∧ Blk wr w.heap.size 129 (DO ++ dgs (I ++ catTo ll i)) ∧ Blk wr (w.heap.size + 1) 22 #[.int .u8 0, .int .u8 0, .int .u8 0, .int .u8 0, .int .u8 0, .int .u8 0, .int .u8 0, .int .u8 0, .int .u8 0, .int .u8 0, .int .u8 0, .int .u8 0, .int .u8 0, .int .u8 0, .int .u8 0, .int .u8 0, .int .u8 0, .int .u8 0, .int .u8 0, .int .u8 0, .int .u8 0, .int .u8 0, .int .u8 0, .int .u8 0, .int .u8 0, .int .u8 0, .int .u8 0, .int .u8 0, .int .u8 0, .int .u8 0, .int .u8 0, .int .u8 0])
  case atStart => exact ⟨0, by omega, rfl, Q0, A0, A1⟩
  case round =>
    clear A0 A1 Q0
    obtain ⟨i, hik, rfl, HB, A0, A1⟩ := hrel
    have YI : Kept (Bytes (I ++ catTo ll i)) := ⟨KI.out.append (catTo_bytes YL.out i)⟩
    have NI : Kept ((I ++ catTo ll i).length < 1000000000) := ⟨by rw [List.length_append]; have := catTo_len ll i; have := KN.out.2; omega⟩
    obtain ⟨D1, hD1⟩ : ∃ D, D = dgs (I ++ catTo ll i) := ⟨_, rfl⟩
    have E1 : Kept _ := ⟨hD1⟩
    have S1 : Kept ((Tryd.prog.info? 51).map (·.size) = some D1.size) := ⟨by rw [hD1]; exact dgs_info YI.out⟩
    have L73 : Kept (D1.size = 73) := ⟨by rw [hD1]; exact dgs_size YI.out⟩
    have HP1 : Kept (∀ (j : Nat) (v : Value), D1[j]? = some v → (DO ++ D1)[73 + j]? = some v) := ⟨part_second DO D1 73 LO.out⟩
    have HP0 : Kept (∀ (j : Nat) (v : Value), DO[j]? = some v → (DO ++ D1)[0 + j]? = some v) := ⟨part_first DO D1⟩
    rw [← hD1] at A0
    clear hD1
    by_cases hi : i < n
    case pos =>
      have hi' : (i : Int) < (n : Int) := by omega
      obtain ⟨b, hb⟩ : ∃ b, ll[i]? = some b := ⟨_, List.getElem?_eq_getElem (by have := EN.out; omega)⟩
      obtain ⟨VB, YB, _⟩ := KE.out i b hb
      obtain ⟨A, rfl, hAl, hAc⟩ := KP.out (by intro e; have := EN.out; rw [e] at this; simp at this; omega)
      have hc : wr.cell? (A.add i) = some (V i) := by rw [HB.cell (by rw [add_block]; exact hAl)]; exact hAc i (by have := EN.out; omega)
      have NB : Kept ((I ++ catTo ll i).length + b.length < 1000000000) := ⟨by have h := catTo_len ll (i + 1); rw [catTo_succ ll i b hb, List.length_append] at h; rw [List.length_append]; have := KN.out.2; omega⟩
      obtain ⟨D2, hD2⟩ : ∃ D, D = dgs (I ++ catTo ll (i + 1)) := ⟨_, rfl⟩
      have Y2 : Bytes (I ++ catTo ll (i + 1)) := KI.out.append (catTo_bytes YL.out (i + 1))
      have S2 : Kept ((Tryd.prog.info? 51).map (·.size) = some D2.size) := ⟨by rw [hD2]; exact dgs_info Y2⟩
      have L2 : Kept (D2.size = 73) := ⟨by rw [hD2]; exact dgs_size Y2⟩
      have O2 : Kept (D2.all (·.oneCell') = true) := ⟨by rw [hD2]; exact dgs_one _⟩
      have C0 : Kept (Calls Tryd.prog 9 #[.agg D1, V i] wr fun e w' => e = .returned (.agg D2) ∧ Below wr.heap.size wr w') := ⟨by
        rw [E1.out, hD2, catTo_succ ll i b hb, ← List.append_assoc]
        exact cWrite YI.out YB NB.out (KR.out.below KR.out.1 HB) (VB.under HB)⟩
      have E2 : Kept _ := ⟨hD2⟩
      clear hD2 Y2 hb VB YB
      obtain ⟨Vi, hVi⟩ : ∃ u, u = V i := ⟨_, rfl⟩
      rw [← hVi] at hc C0
      clear hVi
      go_wp2_with (first | ((with_reducible refine wv_val (d := 12) ?hd ?hw (.pointer (some (A.add i))) ?hr ?_); (case hd => rfl); (case hw => kernel_rfl); (case hr => intro w; exact run_idxS (l := n) (c := c) rfl (by kernel_rfl) (by kernel_rfl) Tryd.underlying139 hi sz_bytes w); simp only [Act.put, List.setIfInBounds_toArray, List.set_cons_succ, List.set_cons_zero]) | ((with_reducible refine wv_elem (d := 13) ?hd ?hw 32 ag_bytes (.tmp 12) ?ho (A.add i) ?hx Vi ?hg ?_); (case hd => rfl); (case hw => kernel_rfl); (case ho => rfl); (case hx => first | rfl | kernel_rfl); (case hg => exact hc); simp only [Act.put, List.setIfInBounds_toArray, List.set_cons_succ, List.set_cons_zero]) | ((with_reducible refine wv_partS (d := 15) ?hd ?hw 51 (.tmp 14) ?ho w.heap.size 73 ?hx (t' := 129) (DO ++ D1) (D1) _ Tryd.underlying51 ?hs ?hg ?hp ?_); (case hd => rfl); (case hw => kernel_rfl); (case ho => rfl); (case hx => kernel_rfl); (case hs => exact S1.out); (case hg => exact A0); (case hp => exact HP1.out); simp only [Act.put, List.setIfInBounds_toArray, List.set_cons_succ, List.set_cons_zero]))
      refine C0.out.mono ?_
      rintro e w4 ⟨rfl, hb4⟩
      have A04 := A0.under hb4
      have A14 := A1.under hb4
      have HB4 := HB.trans (hb4.mono HB.size)
      clear A0 A1 HB hb4 C0 hc hAc
      go_wp2_with (first | (refine wl_setPart rfl 51 (.tmp 18) (.tmp 17) rfl w.heap.size 73 D2 rfl rfl _ A04 (by rw [Array.size_append, LO.out, L73.out, L2.out]; decide) S2.out O2.out ?_))
      intro w5 A5 P5
      have A5 : Blk w5 w.heap.size 129 (DO ++ dgs (I ++ catTo ll (i + 1))) := by
        try rw [Array.toList_append] at A5
        rw [splice_behind _ _ _ 73 (by simp [LO.out]) (by simp [L73.out, L2.out]), E2.out] at A5
        rw [show DO ++ dgs (I ++ catTo ll (i + 1)) = (DO.toList ++ (dgs (I ++ catTo ll (i + 1))).toList).toArray from by simp]
        exact A5
      have A15 := P5.blk A14 (by omega)
      have HB5 := HB4.trans (P5.below (Nat.le_refl _))
      clear A04 A14 HB4 P5 E2 S2 L2 O2
      go_wp2_with fail
      go_roundg (gk - 1)
      case measure => omega
      case rel => exact ⟨i + 1, by omega, by simp, HB5, A5, A15⟩
    case neg =>
      have hi' : ¬ (i : Int) < (n : Int) := by omega
      have C0 : Kept (Calls Tryd.prog 10 #[.agg D1] wr fun e w' => e = .returned (.agg (ints .u8 L1)) ∧ Below wr.heap.size wr w') := ⟨by
        rw [E1.out, EL1.out, ← catTo_all ll i (by have := EN.out; omega)]
        exact cDSum YI.out NI.out (KR.out.below KR.out.1 HB)⟩
      go_wp2_with (first | ((with_reducible refine wv_partS (d := 21) ?hd ?hw 51 (.tmp 20) ?ho w.heap.size 73 ?hx (t' := 129) (DO ++ D1) (D1) _ Tryd.underlying51 ?hs ?hg ?hp ?_); (case hd => rfl); (case hw => kernel_rfl); (case ho => rfl); (case hx => kernel_rfl); (case hs => exact S1.out); (case hg => exact A0); (case hp => exact HP1.out); simp only [Act.put, List.setIfInBounds_toArray, List.set_cons_succ, List.set_cons_zero]))
      refine C0.out.mono ?_
      rintro e w4 ⟨rfl, hb4⟩
      have A04 := A0.under hb4
      have A14 := A1.under hb4
      have HB4 := HB.trans (hb4.mono HB.size)
      have sz4 : w.heap.size + 1 < w4.heap.size := A14.lt
      clear A0 A1 HB hb4 C0
      go_wp2_with (first | (refine wl_store rfl 22 (.tmp 7) (.tmp 22) rfl w4.heap.size (ints .u8 L1) rfl rfl _ (blk_new w4 _ _) (by rw [ints_size, LL1.out]; exact t32_info) (by rw [ints_size, LL1.out]; rfl) (ints_one _ _) ?_))
      intro w5 A7 P5
      have A5 := P5.blk (A04.alloc _) (by omega)
      have A15 := P5.blk (A14.alloc _) (by omega)
      have HB5 := (HB4.alloc HB4.size _).trans (P5.below HB4.size)
      generalize hg7 : w4.heap.size = g7 at *
      clear A04 A14 HB4 P5 hg7
      have V7 : Kept (BytesV (.slice (some ⟨g7, 0, none⟩) 32 32) w5 L1) := ⟨arr_bytes A7 LL1.out⟩
      have RR : Kept (∀ w', Below w5.heap.size w5 w' → RootsAt w') := ⟨fun w' hb => (KR.out.below KR.out.1 HB5).under hb⟩
      obtain ⟨DX, hDX⟩ : ∃ D, D = dgs (O ++ L1) := ⟨_, rfl⟩
      have YL1 : Kept (Bytes L1) := ⟨by rw [EL1.out]; exact sumL_bytes _⟩
      have NX : (O ++ L1).length < 1000000000 := by rw [List.length_append, LL1.out]; have := KN.out.1; omega
      have C1 : Kept (∀ w', Below w5.heap.size w5 w' → Calls Tryd.prog 9 [.agg DO, .slice (some ⟨g7, 0, none⟩) 32 32].toArray w' fun e w2 => e = .returned (.agg DX) ∧ Below w'.heap.size w' w2) := ⟨fun w' hb => by
        rw [EO.out, hDX]
        exact cWrite KO.out YL1.out (by rw [← List.length_append]; exact NX) (RR.out w' hb) (V7.out.under hb)⟩
      have C2 : Kept (∀ w', Below w5.heap.size w5 w' → Calls Tryd.prog 10 [.agg DX].toArray w' fun e w2 => e = .returned (.agg (ints .u8 L)) ∧ Below w'.heap.size w' w2) := ⟨fun w' hb => by
        rw [hDX, EL.out]
        exact cDSum (KO.out.append YL1.out) NX (RR.out w' hb)⟩
      clear hDX A7 V7 NX
      go_wp2_with fail
      refine region_ownL w5 5 [(23, .pointer (some ⟨w.heap.size, 0, none⟩)), (24, .agg DO), (25, .slice (some ⟨g7, 0, none⟩) 32 32), (26, .agg DX), (27, .agg (ints .u8 L))] [] [] [] rfl (by kernel_rfl) (by kernel_rfl) (by kernel_rfl) (by kernel_rfl) (by kernel_rfl) (by kernel_rfl) (by kernel_rfl) (by kernel_rfl) (by kernel_rfl) (by kernel_rfl) (by kernel_rfl) ?hst1 ?hst2 (Below.refl _ _) (fun hA => ⟨ow_val hA (wants_none rfl) 23 (.pointer (some ⟨w.heap.size, 0, none⟩)) (by kernel_rfl) rfl rfl rfl rfl (by kernel_rfl) (fun w => by kernel_rfl), ow_partS hA (wants_none rfl) 24 (.agg DO) (by kernel_rfl) rfl rfl rfl rfl (by kernel_rfl) 51 (.tmp 23) rfl w.heap.size 0 (by kernel_rfl) 129 (DO ++ D1) DO _ Tryd.underlying51 SO.out (fun w1 hb => Blk.under A5 hb) HP0.out rfl, ow_val hA (wants_none rfl) 25 (.slice (some ⟨g7, 0, none⟩) 32 32) (by kernel_rfl) rfl rfl rfl rfl (by kernel_rfl) (fun w => by kernel_rfl), ow_calld hA (wants_none rfl) 26 (.agg DX) (by kernel_rfl) rfl rfl rfl rfl (by kernel_rfl) 9 Tryd.f9 _ [.tmp 24, .tmp 25] _ [.agg DO, .slice (some ⟨g7, 0, none⟩) 32 32] rfl (by kernel_rfl) Tryd.func9 (by kernel_rfl) rfl (fun w1 hb => C1.out w1 hb), ow_calld hA (wants_none rfl) 27 (.agg (ints .u8 L)) (by kernel_rfl) rfl rfl rfl rfl (by kernel_rfl) 10 Tryd.f10 _ [.tmp 26] _ [.agg DX] rfl (by kernel_rfl) Tryd.func10 (by kernel_rfl) rfl (fun w1 hb => C2.out w1 hb), trivial⟩) ?_
      case hst1 => intro q hq; cases hq
      case hst2 => intro q hq; cases hq
      intro fv w6 hf hD hb6
      simp only [putR, List.foldl_cons, List.foldl_nil, List.map_cons, List.map_nil, Act.put, List.setIfInBounds_toArray, List.set_cons_succ, List.set_cons_zero]
      have A16 := A15.under hb6
      have HB6 := HB5.trans (hb6.mono HB5.size)
      clear hf hD C1 C2 A5 A15 HB5 hb6
      refine wl_store rfl 22 (.tmp 4) (.tmp 27) rfl (w.heap.size + 1) (ints .u8 L) (by kernel_rfl) (by kernel_rfl) _ A16 (by rw [ints_size, LL.out]; exact t32_info) (by rw [ints_size, LL.out]; rfl) (ints_one _ _) ?_
      intro w7 A8 P8
      go_wp2
      exact bodyPost_ret (v := .agg (ints .u8 L)) (results_cell_row Tryd.results75 _ _ _ 22 (ints .u8 L) (0, 0) _ rfl A8 Tryd.underlying22 rfl (by rw [ints_size, LL.out]; exact t32_info)) rfl ⟨rfl, HB6.trans (P8.below (by omega))⟩
end Go.Proofs.YtjkdonjcngmjeaaDoor.sh
/-
  HMAC of a key and bytes: mac.Sum, mac.Extract.
-/
namespace Go.Proofs.YtjkdonjcngmjeaaDoor.sh
open Go Go.RowKit
set_option linter.unusedVariables false
set_option linter.unusedSimpArgs false

theorem rowsV_of {w : World} {g n : Nat} {t : TypeId} (vs : List Value) (ll : List (List Nat)) (hlen : vs.length = ll.length) (hn : ll.length = n) (hg : Blk w g t vs.toArray) (h : ∀ (j : Nat) (v : Value) (bs : List Nat), vs[j]? = some v → ll[j]? = some bs → BytesV v w bs ∧ Bytes bs ∧ bs.length ≤ maxLen) :
    RowsV (.slice (some ⟨g, 0, none⟩) n n) w (fun j => vs.getD j undef) ll := by
  subst hn
  refine ⟨_, _, rfl, Nat.le_refl _, fun _ => ⟨_, rfl, hg.lt, fun j hj => ?_⟩, fun j bs hj => ?_⟩
  · rw [addr_add, Nat.zero_add]
    exact hg.cell (by simp [List.getD_eq_getElem?_getD, show j < vs.length from by omega])
  · have hjl := (List.getElem?_eq_some_iff.1 hj).1
    exact h j _ bs (by simp [List.getD_eq_getElem?_getD, show j < vs.length from by omega]) hj

set_option maxRecDepth 100000 in
set_option maxHeartbeats 2000000 in
theorem mSum_any (k b : List Nat) (vk vb : Value) (w : World) (hk : Bytes k) (hkn : k.length < 1000000000) (hb : Bytes b) (hbn : b.length < 900000000) (hr : RootsAt w) (hvk : BytesV vk w k) (hvb : BytesV vb w b) :
    Calls Tryd.prog 76 #[vk, vb] w fun e w' => e = .returned (.agg (ints .u8 (macL k b))) ∧ Below w.heap.size w w' := by
  have KR : Kept _ := ⟨hr⟩
  have KB : Kept _ := ⟨hb⟩
  have KN : Kept _ := ⟨hbn⟩
  have KV : Kept _ := ⟨hvb⟩
  obtain ⟨pb, cb, eb, _, _⟩ := hvb
  obtain ⟨nb, hnb⟩ : ∃ n, n = b.length := ⟨_, rfl⟩
  rw [← hnb] at eb
  clear hnb
  subst eb
  obtain ⟨O, hO⟩ : ∃ P, P = xorL 92 (padL k) := ⟨_, rfl⟩
  obtain ⟨I, hI⟩ : ∃ P, P = xorL 54 (padL k) := ⟨_, rfl⟩
  have YO : Kept (Bytes O) := ⟨by rw [hO]; exact xorL_bytes (padL_bytes hk) (by decide)⟩
  have YI : Kept (Bytes I) := ⟨by rw [hI]; exact xorL_bytes (padL_bytes hk) (by decide)⟩
  have LO : Kept (O.length = 64) := ⟨by rw [hO, xorL_len]; exact padL_len k⟩
  have LI : Kept (I.length = 64) := ⟨by rw [hI, xorL_len]; exact padL_len k⟩
  obtain ⟨L, hL⟩ : ∃ L, L = macL k b := ⟨_, rfl⟩
  have EL : Kept (L = sumL (O ++ sumL (I ++ [b].flatten))) := ⟨by rw [hL, hO, hI]; simp [macL]⟩
  have LL : Kept (L.length = 32) := ⟨by rw [hL]; exact macL_len k b⟩
  rw [← hL]
  obtain ⟨D, hD⟩ : ∃ D, D = dgs O ++ dgs I := ⟨_, rfl⟩
  have ED : Kept _ := ⟨hD⟩
  have A0 : Blk (w.alloc (.cells #[.int .u8 0, .int .u8 0, .int .u8 0, .int .u8 0, .int .u8 0, .int .u8 0, .int .u8 0, .int .u8 0, .int .u8 0, .int .u8 0, .int .u8 0, .int .u8 0, .int .u8 0, .int .u8 0, .int .u8 0, .int .u8 0, .int .u8 0, .int .u8 0, .int .u8 0, .int .u8 0, .int .u8 0, .int .u8 0, .int .u8 0, .int .u8 0, .int .u8 0, .int .u8 0, .int .u8 0, .int .u8 0, .int .u8 0, .int .u8 0, .int .u8 0, .int .u8 0] 22)) w.heap.size 22 #[.int .u8 0, .int .u8 0, .int .u8 0, .int .u8 0, .int .u8 0, .int .u8 0, .int .u8 0, .int .u8 0, .int .u8 0, .int .u8 0, .int .u8 0, .int .u8 0, .int .u8 0, .int .u8 0, .int .u8 0, .int .u8 0, .int .u8 0, .int .u8 0, .int .u8 0, .int .u8 0, .int .u8 0, .int .u8 0, .int .u8 0, .int .u8 0, .int .u8 0, .int .u8 0, .int .u8 0, .int .u8 0, .int .u8 0, .int .u8 0, .int .u8 0, .int .u8 0] := blk_new w _ _
  have Q0 : Below w.heap.size w (w.alloc (.cells #[.int .u8 0, .int .u8 0, .int .u8 0, .int .u8 0, .int .u8 0, .int .u8 0, .int .u8 0, .int .u8 0, .int .u8 0, .int .u8 0, .int .u8 0, .int .u8 0, .int .u8 0, .int .u8 0, .int .u8 0, .int .u8 0, .int .u8 0, .int .u8 0, .int .u8 0, .int .u8 0, .int .u8 0, .int .u8 0, .int .u8 0, .int .u8 0, .int .u8 0, .int .u8 0, .int .u8 0, .int .u8 0, .int .u8 0, .int .u8 0, .int .u8 0, .int .u8 0] 22)) := (Below.refl _ _).alloc (Nat.le_refl _) _
  have C0 : Kept (Calls Tryd.prog 74 #[vk] (w.alloc (.cells #[.int .u8 0, .int .u8 0, .int .u8 0, .int .u8 0, .int .u8 0, .int .u8 0, .int .u8 0, .int .u8 0, .int .u8 0, .int .u8 0, .int .u8 0, .int .u8 0, .int .u8 0, .int .u8 0, .int .u8 0, .int .u8 0, .int .u8 0, .int .u8 0, .int .u8 0, .int .u8 0, .int .u8 0, .int .u8 0, .int .u8 0, .int .u8 0, .int .u8 0, .int .u8 0, .int .u8 0, .int .u8 0, .int .u8 0, .int .u8 0, .int .u8 0, .int .u8 0] 22)) fun e w' => e = .returned (.agg D) ∧ Below (w.alloc (.cells #[.int .u8 0, .int .u8 0, .int .u8 0, .int .u8 0, .int .u8 0, .int .u8 0, .int .u8 0, .int .u8 0, .int .u8 0, .int .u8 0, .int .u8 0, .int .u8 0, .int .u8 0, .int .u8 0, .int .u8 0, .int .u8 0, .int .u8 0, .int .u8 0, .int .u8 0, .int .u8 0, .int .u8 0, .int .u8 0, .int .u8 0, .int .u8 0, .int .u8 0, .int .u8 0, .int .u8 0, .int .u8 0, .int .u8 0, .int .u8 0, .int .u8 0, .int .u8 0] 22)).heap.size (w.alloc (.cells #[.int .u8 0, .int .u8 0, .int .u8 0, .int .u8 0, .int .u8 0, .int .u8 0, .int .u8 0, .int .u8 0, .int .u8 0, .int .u8 0, .int .u8 0, .int .u8 0, .int .u8 0, .int .u8 0, .int .u8 0, .int .u8 0, .int .u8 0, .int .u8 0, .int .u8 0, .int .u8 0, .int .u8 0, .int .u8 0, .int .u8 0, .int .u8 0, .int .u8 0, .int .u8 0, .int .u8 0, .int .u8 0, .int .u8 0, .int .u8 0, .int .u8 0, .int .u8 0] 22)) w') := ⟨by rw [hD, hO, hI]; exact keyedBy_any k vk _ hk hkn (hr.below hr.1 Q0) (hvk.under Q0)⟩
  clear hr hb hbn hvk hk hkn hO hI hL hD
  go_enter Tryd.func76, Tryd.ntmps76
  go_wp2_with fail
  refine C0.out.mono ?_
  rintro e w1 ⟨rfl, hb1⟩
  have A1 := A0.under hb1
  have Q1 := Q0.trans (hb1.mono Q0.size)
  clear hb1 A0 Q0 C0
  go_wp2_with fail
  have A2 := A1.alloc (.cells #[.slice pb nb cb] 32)
  have Q2 : Below w.heap.size w (w1.alloc (.cells #[.slice pb nb cb] 32)) := Q1.alloc Q1.size _
  have RV : Kept (RowsV (.slice (some ⟨w1.heap.size, 0, none⟩) 1 1) (w1.alloc (.cells #[.slice pb nb cb] 32)) (fun j => [.slice pb nb cb].getD j undef) [b]) := ⟨rowsV_of (t := 32) [.slice pb nb cb] [b] rfl rfl (blk_new w1 _ _) (fun j v bs h1 h2 => by
    rcases j with _ | j <;> simp at h1 h2
    subst h1 h2
    exact ⟨KV.out.under Q2, KB.out, Nat.le_of_lt (Nat.lt_of_lt_of_le KN.out (by decide))⟩)⟩
  have C1 : Kept (Calls Tryd.prog 75 #[.agg D, .slice (some ⟨w1.heap.size, 0, none⟩) 1 1] (w1.alloc (.cells #[.slice pb nb cb] 32)) fun e w' => e = .returned (.agg (ints .u8 L)) ∧ Below (w1.alloc (.cells #[.slice pb nb cb] 32)).heap.size (w1.alloc (.cells #[.slice pb nb cb] 32)) w') := ⟨by
    rw [ED.out, EL.out]
    exact ksum_any O I [b] _ _ _ YO.out YI.out (KR.out.below KR.out.1 Q2) RV.out ⟨by rw [LO.out]; decide, by rw [LI.out]; simp; have := KN.out; omega⟩ (by simp)⟩
  refine C1.out.mono ?_
  rintro e w3 ⟨rfl, hb3⟩
  have A3 := A2.under hb3
  have Q3 := Q2.trans (hb3.mono Q2.size)
  clear hb3 A1 A2 Q1 Q2 C1 RV
  go_wp2_with (first | (refine wl_store rfl 22 (.tmp 4) (.tmp 9) rfl w.heap.size (ints .u8 L) rfl rfl _ A3 (by rw [ints_size, LL.out]; exact t32_info) (by rw [ints_size, LL.out]; rfl) (ints_one _ _) ?_))
  intro w4 A4 P4
  go_wp2
  exact bodyPost_ret (v := .agg (ints .u8 L)) (results_cell_row Tryd.results76 _ _ _ 22 (ints .u8 L) (0, 0) _ rfl A4 Tryd.underlying22 rfl (by rw [ints_size, LL.out]; exact t32_info)) rfl ⟨rfl, Q3.trans (P4.below (Nat.le_refl _))⟩

set_option maxRecDepth 100000 in
set_option maxHeartbeats 2000000 in
theorem mExtract_any (k b : List Nat) (vk vb : Value) (w : World) (hk : Bytes k) (hkn : k.length < 1000000000) (hb : Bytes b) (hbn : b.length < 900000000) (hr : RootsAt w) (hvk : BytesV vk w k) (hvb : BytesV vb w b) :
    Calls Tryd.prog 71 #[vk, vb] w fun e w' => e = .returned (.agg (ints .u8 (macL k b))) ∧ Below w.heap.size w w' := by
  obtain ⟨L, hL⟩ : ∃ L, L = macL k b := ⟨_, rfl⟩
  have LL : Kept (L.length = 32) := ⟨by rw [hL]; exact macL_len k b⟩
  have A0 : Blk (w.alloc (.cells #[.int .u8 0, .int .u8 0, .int .u8 0, .int .u8 0, .int .u8 0, .int .u8 0, .int .u8 0, .int .u8 0, .int .u8 0, .int .u8 0, .int .u8 0, .int .u8 0, .int .u8 0, .int .u8 0, .int .u8 0, .int .u8 0, .int .u8 0, .int .u8 0, .int .u8 0, .int .u8 0, .int .u8 0, .int .u8 0, .int .u8 0, .int .u8 0, .int .u8 0, .int .u8 0, .int .u8 0, .int .u8 0, .int .u8 0, .int .u8 0, .int .u8 0, .int .u8 0] 22)) w.heap.size 22 #[.int .u8 0, .int .u8 0, .int .u8 0, .int .u8 0, .int .u8 0, .int .u8 0, .int .u8 0, .int .u8 0, .int .u8 0, .int .u8 0, .int .u8 0, .int .u8 0, .int .u8 0, .int .u8 0, .int .u8 0, .int .u8 0, .int .u8 0, .int .u8 0, .int .u8 0, .int .u8 0, .int .u8 0, .int .u8 0, .int .u8 0, .int .u8 0, .int .u8 0, .int .u8 0, .int .u8 0, .int .u8 0, .int .u8 0, .int .u8 0, .int .u8 0, .int .u8 0] := blk_new w _ _
  have Q0 : Below w.heap.size w (w.alloc (.cells #[.int .u8 0, .int .u8 0, .int .u8 0, .int .u8 0, .int .u8 0, .int .u8 0, .int .u8 0, .int .u8 0, .int .u8 0, .int .u8 0, .int .u8 0, .int .u8 0, .int .u8 0, .int .u8 0, .int .u8 0, .int .u8 0, .int .u8 0, .int .u8 0, .int .u8 0, .int .u8 0, .int .u8 0, .int .u8 0, .int .u8 0, .int .u8 0, .int .u8 0, .int .u8 0, .int .u8 0, .int .u8 0, .int .u8 0, .int .u8 0, .int .u8 0, .int .u8 0] 22)) := (Below.refl _ _).alloc (Nat.le_refl _) _
  have C0 : Kept (Calls Tryd.prog 76 #[vk, vb] (w.alloc (.cells #[.int .u8 0, .int .u8 0, .int .u8 0, .int .u8 0, .int .u8 0, .int .u8 0, .int .u8 0, .int .u8 0, .int .u8 0, .int .u8 0, .int .u8 0, .int .u8 0, .int .u8 0, .int .u8 0, .int .u8 0, .int .u8 0, .int .u8 0, .int .u8 0, .int .u8 0, .int .u8 0, .int .u8 0, .int .u8 0, .int .u8 0, .int .u8 0, .int .u8 0, .int .u8 0, .int .u8 0, .int .u8 0, .int .u8 0, .int .u8 0, .int .u8 0, .int .u8 0] 22)) fun e w' => e = .returned (.agg (ints .u8 L)) ∧ Below (w.alloc (.cells #[.int .u8 0, .int .u8 0, .int .u8 0, .int .u8 0, .int .u8 0, .int .u8 0, .int .u8 0, .int .u8 0, .int .u8 0, .int .u8 0, .int .u8 0, .int .u8 0, .int .u8 0, .int .u8 0, .int .u8 0, .int .u8 0, .int .u8 0, .int .u8 0, .int .u8 0, .int .u8 0, .int .u8 0, .int .u8 0, .int .u8 0, .int .u8 0, .int .u8 0, .int .u8 0, .int .u8 0, .int .u8 0, .int .u8 0, .int .u8 0, .int .u8 0, .int .u8 0] 22)).heap.size (w.alloc (.cells #[.int .u8 0, .int .u8 0, .int .u8 0, .int .u8 0, .int .u8 0, .int .u8 0, .int .u8 0, .int .u8 0, .int .u8 0, .int .u8 0, .int .u8 0, .int .u8 0, .int .u8 0, .int .u8 0, .int .u8 0, .int .u8 0, .int .u8 0, .int .u8 0, .int .u8 0, .int .u8 0, .int .u8 0, .int .u8 0, .int .u8 0, .int .u8 0, .int .u8 0, .int .u8 0, .int .u8 0, .int .u8 0, .int .u8 0, .int .u8 0, .int .u8 0, .int .u8 0] 22)) w') := ⟨by rw [hL]; exact mSum_any k b vk vb _ hk hkn hb hbn (hr.below hr.1 Q0) (hvk.under Q0) (hvb.under Q0)⟩
  rw [← hL]
  clear hr hb hbn hvb hvk hk hkn hL
  go_enter Tryd.func71, Tryd.ntmps71
  go_wp2_with fail
  refine C0.out.mono ?_
  rintro e w1 ⟨rfl, hb1⟩
  have A1 := A0.under hb1
  have Q1 := Q0.trans (hb1.mono Q0.size)
  clear hb1 A0 Q0 C0
  go_wp2_with (first | (refine wl_store rfl 22 (.tmp 4) (.tmp 7) rfl w.heap.size (ints .u8 L) rfl rfl _ A1 (by rw [ints_size, LL.out]; exact t32_info) (by rw [ints_size, LL.out]; rfl) (ints_one _ _) ?_))
  intro w4 A4 P4
  go_wp2
  exact bodyPost_ret (v := .agg (ints .u8 L)) (results_cell_row Tryd.results71 _ _ _ 22 (ints .u8 L) (0, 0) _ rfl A4 Tryd.underlying22 rfl (by rw [ints_size, LL.out]; exact t32_info)) rfl ⟨rfl, Q1.trans (P4.below (Nat.le_refl _))⟩
end Go.Proofs.YtjkdonjcngmjeaaDoor.sh
/-
  HKDF's other half: mac.expanded.
-/
namespace Go.Proofs.YtjkdonjcngmjeaaDoor.sh
open Go Go.RowKit
set_option linter.unusedVariables false
set_option linter.unusedSimpArgs false

/-- HKDF's i-th piece; none ahead of the first. -/
def tL (key info : List Nat) : Nat → List Nat
  | 0 => []
  | i + 1 => macL key (tL key info i ++ (info ++ [(i + 1) % 256]))
theorem tL_succ (key info : List Nat) (i : Nat) : tL key info (i + 1) = macL key (tL key info i ++ (info ++ [(i + 1) % 256])) := rfl
theorem tL_len (key info : List Nat) (i : Nat) : (tL key info (i + 1)).length = 32 := macL_len _ _
theorem tL_le (key info : List Nat) (i : Nat) : (tL key info i).length ≤ 32 := by
  cases i with
  | zero => simp [tL]
  | succ i => rw [tL_len]; exact Nat.le_refl _
theorem tL_bytes (key info : List Nat) (i : Nat) : Bytes (tL key info i) := by
  cases i with
  | zero => exact nil_bytes
  | succ i => exact macL_bytes _ _
/-- The first k pieces, one behind the other. -/
def tsL (key info : List Nat) : Nat → List Nat
  | 0 => []
  | k + 1 => tsL key info k ++ tL key info (k + 1)
theorem tsL_succ (key info : List Nat) (k : Nat) : tsL key info (k + 1) = tsL key info k ++ tL key info (k + 1) := rfl
theorem tsL_len (key info : List Nat) : ∀ k, (tsL key info k).length = 32 * k
  | 0 => rfl
  | k + 1 => by rw [tsL_succ, List.length_append, tsL_len key info k, tL_len]; omega
theorem tsL_pre (key info : List Nat) (k : Nat) : ∀ m, ∃ r, tsL key info (k + m) = tsL key info k ++ r
  | 0 => ⟨[], by simp⟩
  | m + 1 => by
    obtain ⟨r, h⟩ := tsL_pre key info k m
    exact ⟨r ++ tL key info (k + m + 1), by rw [← Nat.add_assoc, tsL_succ, h, List.append_assoc]⟩
theorem tsL_take (key info : List Nat) (k m n : Nat) (h : k ≤ m) (hn : n ≤ 32 * k) : (tsL key info m).take n = (tsL key info k).take n := by
  obtain ⟨r, hr⟩ := tsL_pre key info k (m - k)
  rw [show m = k + (m - k) from by omega, hr, List.take_append_of_le_length (by rw [tsL_len]; exact hn)]
/-- What a key is expanded to. -/
def expL (key info : List Nat) (n : Nat) : List Nat := (tsL key info 255).take n
theorem expL_len (key info : List Nat) (n : Nat) (h : n ≤ 8160) : (expL key info n).length = n := by
  unfold expL
  rw [List.length_take, tsL_len]
  omega
theorem expL_of (key info : List Nat) (k n : Nat) (hk : k ≤ 255) (hn : n ≤ 32 * k) : (tsL key info k).take n = expL key info n := (tsL_take key info k 255 n hk hn).symm

theorem run_min2 {o : Oper} {a : Act} {x y : Operand} {m n z : Nat} {ts : Array TypeId} (ho : o.op = .call { callee := .builtin .min, args := #[x, y], argTypes := ts }) (hx : a.eval x = .int .i64 (m : Int)) (hy : a.eval y = .int .i64 (n : Int)) (hz : z = min m n) (w : World) : (execOp a.eval o).run Tryd.prog w = .ok (.value (.int .i64 (z : Int))) w := by
  unfold execOp
  simp only [ho, resolve, invoke, builtin, Sem.run_bind, Sem.run_pure, Result.andThen_ok, List.map_toArray, List.map_cons, List.map_nil, hx, hy, run_min_int2]
  have e : (if (n : Int) < (m : Int) then (n : Int) else (m : Int)) = (z : Int) := by split <;> omega
  rw [e]
theorem run_subV {o : Oper} {a : Act} {x y : Operand} {m n z : Nat} (ho : o.op = .binOp .sub 3 x y 3) (hx : a.eval x = .int .i64 (m : Int)) (hy : a.eval y = .int .i64 (n : Int)) (hle : n ≤ m) (hm : m < 4611686018427387904) (hz : z = m - n) (w : World) : (execOp a.eval o).run Tryd.prog w = .ok (.value (.int .i64 (z : Int))) w := by
  unfold execOp
  simp only [ho, hx, hy]
  simp [go_sem, IntKind.wrap_i64, wrap64]
  omega
theorem run_inc8 {o : Oper} {a : Act} {x : Operand} {m z : Nat} (ho : o.op = .binOp .add 5 x (.const (.int .u8 1)) 5) (hx : a.eval x = .int .u8 (m : Int)) (hz : z = (m + 1) % 256) (w : World) : (execOp a.eval o).run Tryd.prog w = .ok (.value (.int .u8 (z : Int))) w := by
  have e3 : a.eval (.const (.int .u8 1)) = .int .u8 1 := rfl
  unfold execOp
  simp only [ho, hx, e3]
  simp [go_sem, IntKind.wrap_u8', hz]
theorem run_make0 (c : Nat) (hc : c < 1000000) (w : World) : (Instr.makeSlice 32 (.int .i64 0) (.int .i64 (c : Int))).run Tryd.prog w = .ok (.slice (some ⟨w.heap.size, 0, none⟩) 0 c) (w.alloc (.cells (ints .u8 (List.replicate c 0)) 5)) := by
  have hi := info_u8
  cases hq : Tryd.prog.info? 5 with
  | none => rw [hq] at hi; cases hi
  | some i =>
    rw [hq] at hi
    simp only [Option.map_some, Option.some.injEq, Prod.mk.injEq] at hi
    obtain ⟨h1, h2, h3⟩ := hi
    have h := run_make (P := Tryd.prog) w 32 5 i (.int .u8 0) Tryd.underlying32 hq h1 .i64 .i64 0 (c : Int) (Int.le_refl _) (by omega) (by rw [h3]; omega) (by omega)
    rw [h2, Nat.mul_one, Int.toNat_natCast, made_zero] at h
    exact h
theorem row_made (w : World) (base c : Nat) (hc : c < 1000000) (hb : base ≤ w.heap.size) : Row base 5 .u8 [] (.slice (some ⟨w.heap.size, 0, none⟩) 0 c) (w.alloc (.cells (ints .u8 (List.replicate c 0)) 5)) :=
  ⟨rfl, .inr ⟨w.heap.size, c, ints .u8 (List.replicate c 0), rfl, hb, heap_new w _, Nat.zero_le _, Nat.le_of_lt (Nat.lt_of_lt_of_le hc (by decide)), by rw [ints_size, List.length_replicate, Nat.mul_one], by simp [ints]⟩⟩
section
variable {h : List Oper} {A0 A : Act} {W0 : World} {S : Nat → Option (Value → World → Prop)} {sp O : List Nat} {E : List (Nat × Nat)} {i : Nat} {o : Oper}
theorem ow_make (hA : Full h A0 A S sp) (hw : Wants h A0 A S O E W0.heap.size i o) (d x n : Nat) (hd : o.dst = some d) (ho : o.op = .makeSlice 32 (.const (.int .i64 0)) (.tmp x)) (hwx : waitsFor h o x = true) (hx : A.tmps[x]? = some (.int .i64 (n : Int))) (hsx : sp.contains x = false) (hE : (E.all fun q => q.2 != x || q.1 == i) = true) (hn : n < 1000000) (hp : S d = some (Row W0.heap.size 5 .u8 [])) : OwnOk Tryd.prog h A0 W0 (relR A S) O E i o :=
  ow_run hw d hd fun a w hF hB hgot => by
    have e := gotE_det hA hgot hwx hsx hE hx
    refine ⟨_, _, none, ?_, rel_spec _ hp (row_made w _ n hn hB.size), grown_none ((Below.refl _ _).alloc (Nat.le_refl _) _), fun b hb => (by cases hb), fun _ b hb => .inl ?_⟩
    · unfold execOp
      simp only [ho, e]
      have := run_make0 n hn w
      simp [Act.eval, this]
    · cases hb
      exact ⟨Nat.le_refl _, by simp⟩
end
end Go.Proofs.YtjkdonjcngmjeaaDoor.sh
