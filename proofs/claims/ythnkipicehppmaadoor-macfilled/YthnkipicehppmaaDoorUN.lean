/-
  What MacFilled answers.
-/
import Derived.Test.YthnkipicehppmaaDoorUT
import Derived.Lib.AppendZeros
namespace Go.Proofs.YthnkipicehppmaaDoor.sh
open Go Go.RowKit
set_option linter.unusedVariables false
set_option linter.unusedSimpArgs false

theorem zero_cells (m : Nat) : Builtin.zeroCells (Value.int .u8 0).cells m = ints .u8 (List.replicate m 0) := by
  apply Array.ext_getElem?
  intro i
  by_cases h : i < m
  · simp [Builtin.zeroCells, ints, Value.cells, h, Nat.mod_one]
  · rw [Array.getElem?_eq_none (by rw [size_zeroCells]; simp [Value.cells]; omega), Array.getElem?_eq_none (by rw [ints_size, List.length_replicate]; omega)]
theorem zapp_run {ty : TypeId} {base : Nat} {l : List Nat} {v : Value} {w : World} {m : Nat} (hown : Row base 5 .u8 l v w) (hn : l.length + m ≤ 1000000) (hbase : base ≤ w.heap.size) :
    ∃ v' w', (Builtin.append_ #[22, 3] ty #[v, .int .i64 (m : Int)]).run Tryd.prog w = .ok v' w' ∧ Row base 5 .u8 (l ++ List.replicate m 0) v' w' ∧ w.grownBy w' (blkOf v) ∧ (blkOf v' = blkOf v ∨ blkOf v' = some w.heap.size) := by
  obtain ⟨i0, hi, hz0, hz1, hz2⟩ := info_parts inf_u8
  have ht := Tryd.underlying22
  have htn := Tryd.underlying3
  have hwr : IntKind.i64.wrap (m : Int) = m := by rw [IntKind.wrap_i64]; omega
  have h48i : ¬ (281474976710656 < (m : Int) * (i0.bytes : Int)) := by rw [hz2]; omega
  have hneg : ¬ ((m : Int) < 0) := by omega
  have hlen : (ints .u8 (l ++ List.replicate m 0)).toList = (ints .u8 l).toList ++ (ints .u8 (List.replicate m 0)).toList := by rw [← ints_append]; simp
  have hl1 : (ints .u8 (l ++ List.replicate m 0)).toList.length = l.length + m := by rw [ints_toList, List.length_append, List.length_replicate]
  have h63 : l.length + m ≤ maxLen := Nat.le_trans hn (by decide)
  have grown : ∀ (old : Nat), ∀ (row : Option Nat),
      Row base 5 .u8 (l ++ List.replicate m 0) (.slice (some ⟨w.heap.size, 0, none⟩) (l.length + m) (grownCap w (l.length + m) old 5)) (w.drew.alloc (.cells (ints .u8 l ++ ints .u8 (List.replicate m 0) ++ ints .u8 (List.replicate (grownCap w (l.length + m) old 5 - (l.length + m)) 0)) 5)) ∧
      w.grownBy (w.drew.alloc (.cells (ints .u8 l ++ ints .u8 (List.replicate m 0) ++ ints .u8 (List.replicate (grownCap w (l.length + m) old 5 - (l.length + m)) 0)) 5)) row := by
    intro old row
    have hge := grownCap_ge w (l.length + m) old 5
    have hcm : grownCap w (l.length + m) old 5 ≤ maxLen := grownCap_le_maxLen w (l.length + m) old 5 h63
    refine ⟨⟨by rw [hl1, List.length_append, List.length_replicate, Nat.mul_one], .inr ⟨w.heap.size, _, _, by rw [List.length_append, List.length_replicate], hbase, heap_alloc_new w.drew _, by rw [List.length_append, List.length_replicate]; exact hge, hcm, ?_, ?_⟩⟩, ⟨rfl, rfl, rfl, by simp, fun k hk _ => Below.heap_alloc w.drew _ k hk⟩⟩
    · rw [Array.size_append, Array.size_append, ints_size, ints_size, ints_size, List.length_replicate, List.length_replicate]
      omega
    · rw [ints_append, Array.toList_append, List.length_append, List.length_replicate, Nat.mul_one, ← hl1]
      exact List.take_left
  rcases hown.2 with ⟨rfl, h0⟩ | ⟨g, cap, cur, rfl, hbg, hg, hnc, hcm, hcs, htake⟩
  · have hx : l = [] := List.eq_nil_of_length_eq_zero h0
    subst hx
    by_cases hm : m = 0
    · subst hm
      refine ⟨.slice none 0 0, w, ?_, row_nil w base _ _, ⟨rfl, rfl, rfl, Nat.le_refl _, fun _ _ _ => rfl⟩, .inl rfl⟩
      simp [Builtin.append_, run_underlying ht, run_underlying htn, sizeOf, typeInfo, hi, asInt, asIntOf, IntKind.wrap_i64]
    · have hr := Lib.run_append_nil_zeros (P := Tryd.prog) w 22 3 ty 5 i0 (.int .u8 0) .i64 .i64 ht htn hi hz0 m (by omega) (by rw [hz1]; decide) (by omega) (by rw [hz2]; simp at hn; omega)
      rw [zero_cells, zero_cells] at hr
      have hgr := grown 0 (blkOf (.slice none 0 0))
      have e0 : ints .u8 ([] : List Nat) = #[] := rfl
      rw [e0, Array.empty_append] at hgr
      simp only [List.length_nil, Nat.zero_add, List.nil_append] at hgr ⊢
      exact ⟨_, _, hr, hgr.1, hgr.2, .inr rfl⟩
  · have hf : cur.toList.take l.length = (ints .u8 l).toList := by rw [Nat.mul_one] at htake; exact htake
    by_cases hroom : l.length + m ≤ cap
    · obtain ⟨NL, hNL⟩ : ∃ NL, NL = (ints .u8 (List.replicate m 0)).toList := ⟨_, rfl⟩
      have lNL : NL.length = m := by rw [hNL, ints_toList, List.length_replicate]
      have hst := run_storeCells_at Tryd.prog g l.length 5 NL 0 cur w hg (by rw [lNL]; omega) (by rw [hNL]; exact oneCell_ints _ _)
      simp only [Nat.add_zero, lNL] at hst
      have hz' : (Builtin.zeroCells (Value.int .u8 0).cells m).toList = NL := by rw [zero_cells, hNL]
      refine ⟨.slice (some ⟨g, 0, none⟩) (l.length + m) cap, w.setRow g (cur.toList.take l.length ++ NL ++ cur.toList.drop (l.length + m)).toArray, ?_, ⟨by rw [hl1, List.length_append, List.length_replicate, Nat.mul_one], .inr ⟨g, cap, _, by rw [List.length_append, List.length_replicate], hbg, setRow_heap w g cur _ 5 _ hg, by rw [List.length_append, List.length_replicate]; exact hroom, hcm, ?_, ?_⟩⟩, ⟨rfl, rfl, rfl, by simp, fun k _ hk => setRow_other w g k _ (fun e => hk (by rw [e]; rfl))⟩, .inl rfl⟩
      · by_cases hm : m = 0
        · have e0 : NL = [] := List.eq_nil_of_length_eq_zero (by rw [lNL, hm])
          rw [e0] at hst ⊢
          subst hm
          simp only [Nat.add_zero, Int.natCast_zero] at hst hroom ⊢
          simp [Builtin.append_, run_underlying ht, run_underlying htn, sizeOf, typeInfo, hi, hz1, asInt, asIntOf, IntKind.wrap_i64, hroom, Addr.add_lit, hst]
        · have hm0 : ¬ (m * i0.size = 0) := by rw [hz1]; omega
          simp [Builtin.append_, run_underlying ht, run_underlying htn, sizeOf, typeInfo, zeroValue, hi, hz0, hz1, asInt, asIntOf, hwr, hneg, h48i, hroom, hm, Addr.add_lit, hz', hst]
      · simp only [List.size_toArray, List.length_append, List.length_take, List.length_drop, Array.length_toList, lNL]
        omega
      · simp only [List.append_assoc]
        rw [hf, hNL, ← List.append_assoc, ← hlen, List.length_append, List.length_replicate, Nat.mul_one, ← hl1]
        exact List.take_left
    · have holds : ∀ j u, (ints .u8 l).toList[j]? = some u → w.cell? ((⟨g, 0, none⟩ : Addr).add j) = some u := hown.cells (g := g) rfl
      have hgr := grown cap (blkOf (.slice (some ⟨g, 0, none⟩) l.length cap))
      refine ⟨_, _, ?_, hgr.1, hgr.2, .inr rfl⟩
      have hn2 : ¬ (l.length + m ≤ cap) := hroom
      have hm0 : ¬ (m * i0.size = 0) := by rw [hz1]; omega
      have h63' : ¬ (9223372036854775807 < ((l.length : Int) + (m : Int))) := by omega
      have h48' : ¬ (281474976710656 < Builtin.nextslicecap (l.length + m) cap * i0.bytes) := by have := growslice_fits (need := l.length + m) (old := cap) (bytes := i0.bytes) (by omega) (by rw [hz2]; omega); omega
      have hfo := run_firstCells_some (P := Tryd.prog) w.drew i0.size l.length ⟨g, 0, none⟩ l.length cap (ints .u8 l).toList (by rw [ints_toList, hz1, Nat.mul_one]) (by simpa using holds)
      simp [Builtin.append_, run_underlying ht, run_underlying htn, sizeOf, typeInfo, zeroValue, hi, hz0, asInt, asIntOf, hwr, hneg, h48i, hn2, hm0, h63', h48', Question.forced, hfo, newRow, grownCap, zero_cells]
section
variable {h : List Oper} {A0 A : Act} {W0 : World} {S : Nat → Option (Value → World → Prop)} {sp O : List Nat} {E : List (Nat × Nat)} {i : Nat} {o : Oper}
/-- So many bytes 0 appended to an owned slot, which is taken over. -/
theorem ow_zapp (hA : Full h A0 A S sp) (hw : Wants h A0 A S O E W0.heap.size i o) (d s x : Nat) (hd : o.dst = some d) (ho : o.op = .call { callee := .builtin .append, args := #[.tmp s, .tmp x], argTypes := #[22, 3] }) (l : List Nat) (m : Nat) (hn : l.length + m ≤ 1000000) (hp : S d = some (Row W0.heap.size 5 .u8 (l ++ List.replicate m 0))) (hws : waitsFor h o s = true) (hE : (E.all fun q => q.2 != s || q.1 == i) = true) (hps : S s = some (Row W0.heap.size 5 .u8 l)) (hm : (i, s) ∈ E) (hwx : waitsFor h o x = true) (hsx : sp.contains x = false) (hEx : (E.all fun q => q.2 != x || q.1 == i) = true) (hx : A.tmps[x]? = some (.int .i64 (m : Int))) : OwnOk Tryd.prog h A0 W0 (relR A S) O E i o :=
  ow_run hw d hd fun a w hF hB hgot => by
    obtain ⟨h1, h2, h3⟩ := gotE_spec hgot _ hws hE hps
    have ex := gotE_det hA hgot hwx hsx hEx hx
    obtain ⟨v', w', h4, h5, h6, h7⟩ := zapp_run (ty := o.type) (m := m) h1 hn hB.size
    refine ⟨v', w', _, ?_, rel_spec _ hp h5, h6, fun b hb => ⟨s, hm, by rw [h2]; exact hb⟩, fun _ b hb => ?_⟩
    · unfold execOp
      simp only [ho, resolve, invoke, builtin, Sem.run_bind, Sem.run_pure, Result.andThen_ok, List.map_toArray, List.map_cons, List.map_nil, ex, h4]
    · rcases h7 with h7 | h7
      · exact .inr ⟨s, hm, by rw [h2]; exact h7.symm.trans hb⟩
      · rw [hb] at h7
        cases h7
        exact .inl ⟨Nat.le_refl _, (h5.range _ hb).2⟩
end
theorem padL_sum (k : List Nat) (h : 64 < k.length) : padL (sumL k) = padL k := by
  unfold padL
  rw [if_pos h, if_neg (by rw [sumL_len]; decide), sumL_len]
theorem padL_zeros (k : List Nat) (q : Nat) (h : k.length + q ≤ 64) : padL (k ++ List.replicate q 0) = padL k := by
  unfold padL
  rw [if_neg (by rw [List.length_append, List.length_replicate]; omega), if_neg (by omega), List.append_assoc, List.replicate_append_replicate, List.length_append, List.length_replicate]
  congr 2
  omega
theorem macL_pad {k k' : List Nat} (b : List Nat) (h : padL k = padL k') : macL k b = macL k' b := by unfold macL; rw [h]

set_option maxRecDepth 100000 in
set_option maxHeartbeats 4000000 in
theorem filled4_any (v0 : Value) (bs : List Nat) (v1 : Value) (cs : List Nat) (y : Int) (w : World) (hv0 : BytesV v0 w bs) (hy0 : Bytes bs) (hl0 : bs.length ≤ maxLen) (hv1 : BytesV v1 w cs) (hy1 : Bytes cs) (hl1 : cs.length ≤ maxLen) (hy : (Lit.int .u8 y).wf = true) (hr : RootsAt w) :
    Calls Tryd.prog 6 #[v0, v1, .int .u8 y] w fun e w' => e = .returned (.bool true) ∧ Below w.heap.size w w' := by
  have hz8 := bounds_u8 hy
  obtain ⟨z, rfl⟩ := Int.eq_ofNat_of_zero_le hz8.1
  have z8 : z < 256 := by omega
  clear hy hz8
  have KB0 : Kept _ := ⟨hv0⟩
  have KB1 : Kept _ := ⟨hv1⟩
  obtain ⟨p0, c0, e0, _, _⟩ := hv0
  obtain ⟨p1, c1, e1, _, _⟩ := hv1
  obtain ⟨n0, hn0⟩ : ∃ n, n = bs.length := ⟨_, rfl⟩
  obtain ⟨n1, hn1⟩ : ∃ n, n = cs.length := ⟨_, rfl⟩
  rw [← hn0] at e0
  rw [← hn1] at e1
  subst e0 e1
  have EN0 : Kept _ := ⟨hn0⟩
  have EN1 : Kept _ := ⟨hn1⟩
  have KR : Kept _ := ⟨hr⟩
  have YB : Kept _ := ⟨hy0⟩
  have YC : Kept _ := ⟨hy1⟩
  have h0 := hr.1
  clear hy0 hy1 hr hn0 hn1 hl0 hl1
  have CA := alive4_any w KR.out
  go_enter Tryd.func6, Tryd.ntmps6
  go_wp2_with fail
  refine CA.mono ?_
  clear CA
  rintro e w1 ⟨rfl, QB1⟩
  by_cases hb0 : n0 ≤ 300
  case neg =>
    have hb0' : (300 : Int) < (n0 : Int) := by omega
    go_wp2_with fail
    go_ret
    exact ⟨rfl, QB1⟩
  by_cases hb1 : n1 ≤ 300
  case neg =>
    have hb0' : ¬ (300 : Int) < (n0 : Int) := by omega
    have hb1' : (300 : Int) < (n1 : Int) := by omega
    go_wp2_with fail
    go_ret
    exact ⟨rfl, QB1⟩
  have hb0' : ¬ (300 : Int) < (n0 : Int) := by omega
  have hb1' : ¬ (300 : Int) < (n1 : Int) := by omega
  have NB : Kept (bs.length ≤ 300) := ⟨by rw [← EN0.out]; exact hb0⟩
  have NC : Kept (cs.length ≤ 300) := ⟨by rw [← EN1.out]; exact hb1⟩
  obtain ⟨L, hL⟩ : ∃ L, L = macL bs cs := ⟨_, rfl⟩
  have EL : Kept _ := ⟨hL⟩
  have LL : Kept (L.length = 32) := ⟨by rw [hL]; exact macL_len _ _⟩
  clear hL
  by_cases h64 : 64 < n0
  case pos =>
    have h64' : (64 : Int) < (n0 : Int) := by omega
    have CR : Kept (Calls Tryd.prog 19 #[.slice p0 n0 c0] w1 fun e w' => e = .returned (.agg (ints .u8 (sumL bs))) ∧ Below w1.heap.size w1 w') := ⟨cSum YB.out (by have := NB.out; omega) (KR.out.below h0 QB1) (KB0.out.under QB1)⟩
    go_wp2_with fail
    refine CR.out.mono ?_
    rintro e w3 ⟨rfl, hb3⟩
    obtain ⟨H, hH⟩ : ∃ H, H = sumL bs := ⟨_, rfl⟩
    rw [← hH]
    have LH : Kept (H.length = 32) := ⟨by rw [hH]; exact sumL_len _⟩
    have EL2 : Kept (L = macL H cs) := ⟨by rw [EL.out, hH]; exact (macL_pad cs (padL_sum bs (by rw [← EN0.out]; exact h64))).symm⟩
    have YH : Kept (Bytes H) := ⟨by rw [hH]; exact sumL_bytes _⟩
    have QB3 := QB1.trans (hb3.mono QB1.size)
    clear CR hb3 QB1 hH
    go_wp2_with (first | (refine wl_store rfl 24 (.tmp 7) (.tmp 23) rfl w3.heap.size (ints .u8 H) rfl rfl _ (blk_new w3 _ _) (by rw [ints_size, LH.out]; exact t32_info) (by rw [ints_size, LH.out]; rfl) (ints_one _ _) ?_))
    intro w4 A4 P4
    have QB4 := (QB3.alloc QB3.size _).trans (P4.below QB3.size)
    generalize hg7 : w3.heap.size = g7 at *
    clear P4 QB3 hg7
    have VB : Kept (∀ w', Below w4.heap.size w4 w' → RootsAt w' ∧ BytesV (.slice p0 n0 c0) w' bs ∧ BytesV (.slice p1 n1 c1) w' cs ∧ BytesV (.slice (some ⟨g7, 0, none⟩) 32 32) w' H) := ⟨fun w' hb => ⟨(KR.out.below h0 QB4).under hb, (KB0.out.under QB4).under hb, (KB1.out.under QB4).under hb, (arr_bytes A4 LH.out).under hb⟩⟩
    have C1 : Kept (∀ w', Below w4.heap.size w4 w' → Calls Tryd.prog 12 [.slice p0 n0 c0, .slice p1 n1 c1].toArray w' fun e w2 => e = .returned (.agg (ints .u8 L)) ∧ Below w'.heap.size w' w2) := ⟨fun w' hb => by rw [EL.out]; exact mSum_any bs cs _ _ w' YB.out (by have := NB.out; omega) YC.out (by have := NC.out; omega) (VB.out w' hb).1 (VB.out w' hb).2.1 (VB.out w' hb).2.2.1⟩
    have C2 : Kept (∀ w', Below w4.heap.size w4 w' → Calls Tryd.prog 12 [.slice (some ⟨g7, 0, none⟩) 32 32, .slice p1 n1 c1].toArray w' fun e w2 => e = .returned (.agg (ints .u8 L)) ∧ Below w'.heap.size w' w2) := ⟨fun w' hb => by rw [EL2.out]; exact mSum_any H cs _ _ w' YH.out (by rw [LH.out]; decide) YC.out (by have := NC.out; omega) (VB.out w' hb).1 (VB.out w' hb).2.2.2 (VB.out w' hb).2.2.1⟩
    go_wp2_with fail
    refine region_ownL w4 7 [(24, .slice p0 n0 c0), (25, .slice p1 n1 c1), (26, .agg (ints .u8 L)), (27, .slice (some ⟨g7, 0, none⟩) 32 32), (28, .slice p1 n1 c1), (29, .agg (ints .u8 L)), (30, .bool true)] [] [] [] rfl (by kernel_rfl) (by kernel_rfl) (by kernel_rfl) (by kernel_rfl) (by kernel_rfl) (by kernel_rfl) (by kernel_rfl) (by kernel_rfl) (by kernel_rfl) (by kernel_rfl) (by kernel_rfl) ?hst1 ?hst2 (Below.refl _ _) (fun hA => ⟨ow_val hA (wants_none rfl) 24 (.slice p0 n0 c0) (by kernel_rfl) rfl rfl rfl rfl (by kernel_rfl) (fun w => by kernel_rfl), ow_val hA (wants_none rfl) 25 (.slice p1 n1 c1) (by kernel_rfl) rfl rfl rfl rfl (by kernel_rfl) (fun w => by kernel_rfl), ow_calld hA (wants_none rfl) 26 (.agg (ints .u8 L)) (by kernel_rfl) rfl rfl rfl rfl (by kernel_rfl) 12 Tryd.f12 _ [.tmp 24, .tmp 25] _ [.slice p0 n0 c0, .slice p1 n1 c1] rfl (by kernel_rfl) Tryd.func12 (by kernel_rfl) rfl (fun w1 hb => C1.out w1 hb), ow_val hA (wants_none rfl) 27 (.slice (some ⟨g7, 0, none⟩) 32 32) (by kernel_rfl) rfl rfl rfl rfl (by kernel_rfl) (fun w => by kernel_rfl), ow_val hA (wants_none rfl) 28 (.slice p1 n1 c1) (by kernel_rfl) rfl rfl rfl rfl (by kernel_rfl) (fun w => by kernel_rfl), ow_calld hA (wants_none rfl) 29 (.agg (ints .u8 L)) (by kernel_rfl) rfl rfl rfl rfl (by kernel_rfl) 12 Tryd.f12 _ [.tmp 27, .tmp 28] _ [.slice (some ⟨g7, 0, none⟩) 32 32, .slice p1 n1 c1] rfl (by kernel_rfl) Tryd.func12 (by kernel_rfl) rfl (fun w1 hb => C2.out w1 hb), ow_val hA (wants_none rfl) 30 (.bool true) (by kernel_rfl) rfl rfl rfl rfl (by kernel_rfl) (fun w => by rw [run_eql_row (L) (L) rfl (by kernel_rfl) (by kernel_rfl) LL.out LL.out Tryd.underlying24 Tryd.underlying5 sz_u8 ag_u8 eg32]; rw [decide_eq_true rfl]), trivial⟩) ?_
    case hst1 => intro q hq; cases hq
    case hst2 => intro q hq; cases hq
    intro fv w5 hf hD hb5
    simp only [putR, List.foldl_cons, List.foldl_nil, List.map_cons, List.map_nil, Act.put, List.setIfInBounds_toArray, List.set_cons_succ, List.set_cons_zero]
    clear hf hD C1 C2 A4 VB
    go_wp2
    go_ret
    exact ⟨rfl, QB4.trans (hb5.mono QB4.size)⟩
  case neg =>
    have h64' : ¬ (64 : Int) < (n0 : Int) := by omega
    obtain ⟨r, hr⟩ : ∃ r, r = 65 - n0 := ⟨_, rfl⟩
    obtain ⟨q, hq⟩ : ∃ q, q = z % r := ⟨_, rfl⟩
    have r0 : 0 < r := by omega
    have qr : q < r := by rw [hq]; exact Nat.mod_lt _ r0
    have Er : Kept _ := ⟨hr⟩
    have Eq : Kept _ := ⟨hq⟩
    have r65 : n0 ≤ 65 := by omega
    have q64 : Kept (bs.length + q ≤ 64) := ⟨by rw [← EN0.out]; omega⟩
    have LB : Kept (([] : List Nat).length + bs.length ≤ 8796093022208) := ⟨by have := NB.out; simp; omega⟩
    have LZ : Kept (([] ++ bs).length + q ≤ 1000000) := ⟨by have := q64.out; simp; omega⟩
    have T0 : Kept (∀ w', Below w1.heap.size w1 w' → IntsV .u8 (.slice p0 n0 c0) w' bs) := ⟨fun w' hb => (KB0.out.under QB1).under hb⟩
    have EL2 : Kept (L = macL (bs ++ List.replicate q 0) cs) := ⟨by rw [EL.out]; exact (macL_pad cs (padL_zeros bs q q64.out)).symm⟩
    clear hq hr
    go_wp2_with fail
    refine region_ownL w1 9 [(31, .slice p0 n0 c0), (33, .int .u8 (z : Int)), (34, .int .i64 (z : Int)), (35, .slice p0 n0 c0), (36, .int .i64 (n0 : Int)), (37, .int .i64 (r : Int)), (38, .int .i64 (q : Int))] [(32, Row w1.heap.size 5 .u8 ([] ++ bs)), (39, Row w1.heap.size 5 .u8 (([] ++ bs) ++ List.replicate q 0))] [32, 39] [(8, 32)] rfl (by kernel_rfl) (by kernel_rfl) (by kernel_rfl) (by kernel_rfl) (by kernel_rfl) (by kernel_rfl) (by kernel_rfl) (by kernel_rfl) (by kernel_rfl) (by kernel_rfl) (by kernel_rfl) ?hst1 ?hst2 (Below.refl _ _) (fun hA => ⟨ow_val hA (wants_none rfl) 31 (.slice p0 n0 c0) (by kernel_rfl) rfl rfl rfl rfl (by kernel_rfl) (fun w => by kernel_rfl), ow_app (wants_none rfl) 32 rfl (.const (.slice none 0 0)) (.tmp 31) 22 5 .u8 1 rfl Tryd.underlying22 inf_u8 (by decide) ([]) (bs) LB.out rfl (fun a w1 hF hb hgot => ⟨row_nil _ _ _ _, by rw [gotE_det (v := .slice p0 n0 c0) hA hgot (by kernel_rfl) rfl rfl (by kernel_rfl)]; exact T0.out w1 hb, fun b hb => by cases hb⟩), ow_val hA (wants_none rfl) 33 (.int .u8 (z : Int)) (by kernel_rfl) rfl rfl rfl rfl (by kernel_rfl) (fun w => by kernel_rfl), ow_val hA (wants_none rfl) 34 (.int .i64 (z : Int)) (by kernel_rfl) rfl rfl rfl rfl (by kernel_rfl) (fun w => run_conv83 rfl (by kernel_rfl) z8 w), ow_val hA (wants_none rfl) 35 (.slice p0 n0 c0) (by kernel_rfl) rfl rfl rfl rfl (by kernel_rfl) (fun w => by kernel_rfl), ow_val hA (wants_none rfl) 36 (.int .i64 (n0 : Int)) (by kernel_rfl) rfl rfl rfl rfl (by kernel_rfl) (fun w => by kernel_rfl), ow_val hA (wants_none rfl) 37 (.int .i64 (r : Int)) (by kernel_rfl) rfl rfl rfl rfl (by kernel_rfl) (fun w => run_subC 65 rfl (by kernel_rfl) Er.out r65 (by decide) w), ow_val hA (wants_none rfl) 38 (.int .i64 (q : Int)) (by kernel_rfl) rfl rfl rfl rfl (by kernel_rfl) (fun w => run_remV rfl (by kernel_rfl) (by kernel_rfl) r0 Eq.out (by omega) w), ow_zapp hA (wants_none rfl) 39 32 38 rfl rfl ([] ++ bs) q LZ.out rfl (by kernel_rfl) rfl rfl (by decide) (by kernel_rfl) rfl rfl (by kernel_rfl), trivial⟩) ?_
    case hst1 =>
      intro q hq hO
      simp only [List.mem_cons, List.not_mem_nil, or_false] at hq
      rcases hq with rfl | rfl <;> cases hO
    case hst2 =>
      intro q hq hO v w3 w4 row h1 h2 h3 h4
      simp only [List.mem_cons, List.not_mem_nil, or_false] at hq
      rcases hq with rfl | rfl <;> exact Row.keeps h1 h2 h3
    intro fv w3 hf hD hb3
    have R39 := (hf 39 _ rfl rfl).1
    obtain ⟨v8, hv8⟩ : ∃ v, v = fv 39 := ⟨_, rfl⟩
    rw [← hv8] at R39
    simp only [putR, List.foldl_cons, List.foldl_nil, List.map_cons, List.map_nil, Act.put, List.setIfInBounds_toArray, List.set_cons_succ, List.set_cons_zero]
    rw [← hv8]
    have B39 : Kept (BytesV v8 w3 (bs ++ List.replicate q 0)) := ⟨row_bytes R39⟩
    have QB3 := QB1.trans (hb3.mono QB1.size)
    clear hf hD hv8 R39 T0 LB LZ hb3 QB1
    have C1 : Kept (Calls Tryd.prog 12 #[.slice p0 n0 c0, .slice p1 n1 c1] w3 fun e w2 => e = .returned (.agg (ints .u8 L)) ∧ Below w3.heap.size w3 w2) := ⟨by rw [EL.out]; exact mSum_any bs cs _ _ w3 YB.out (by have := NB.out; omega) YC.out (by have := NC.out; omega) (KR.out.below h0 QB3) (KB0.out.under QB3) (KB1.out.under QB3)⟩
    go_wp2_with fail
    refine C1.out.mono ?_
    rintro e w4 ⟨rfl, hb4⟩
    have QB4 := QB3.trans (hb4.mono QB3.size)
    have C2 : Kept (Calls Tryd.prog 12 #[v8, .slice p1 n1 c1] w4 fun e w2 => e = .returned (.agg (ints .u8 L)) ∧ Below w4.heap.size w4 w2) := ⟨by rw [EL2.out]; exact mSum_any (bs ++ List.replicate q 0) cs _ _ w4 (YB.out.append (bytes_zero _)) (by rw [List.length_append, List.length_replicate]; have := q64.out; omega) YC.out (by have := NC.out; omega) (KR.out.below h0 QB4) (B39.out.under hb4) (KB1.out.under QB4)⟩
    clear C1 hb4 QB3 B39
    go_wp2_with fail
    refine C2.out.mono ?_
    rintro e w5 ⟨rfl, hb5⟩
    have QB5 := QB4.trans (hb5.mono QB4.size)
    clear C2 hb5 QB4
    go_wp2_with (first | ((with_reducible refine wv_val (d := 46) ?hd ?hw (.bool true) ?hr ?_); (case hd => rfl); (case hw => kernel_rfl); (case hr => intro w; rw [run_eql_row (L) (L) rfl (by kernel_rfl) (by kernel_rfl) LL.out LL.out Tryd.underlying24 Tryd.underlying5 sz_u8 ag_u8 eg32]; rw [decide_eq_true rfl]); simp only [Act.put, List.setIfInBounds_toArray, List.set_cons_succ, List.set_cons_zero]))
    go_ret
    exact ⟨rfl, QB5⟩
end Go.Proofs.YthnkipicehppmaaDoor.sh
