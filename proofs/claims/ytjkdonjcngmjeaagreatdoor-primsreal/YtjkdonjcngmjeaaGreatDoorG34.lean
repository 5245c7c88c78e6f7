/-
  General pieces, joined: D7.
-/
import Derived.Test.YtjkdonjcngmjeaaGreatDoorG33
/-
  What the ladder's Pub and Shared answer; the answers that the document fixes for the ladder.
-/
namespace Go.Proofs.YtjkdonjcngmjeaaGreatDoor
set_option maxRecDepth 100000
open Go Go.RowKit
set_option linter.unusedVariables false
set_option linter.unusedSimpArgs false

theorem ar_call {md : Region.Mode} {ops : Array Oper} {Q : Exit → Act → World → Prop} {fuel : Nat} {listed : Array Bool} {a : Act} {w : World} {i : Nat} {o : Oper} {rs : List Nat} (ho : ops[i]? = some o) (hw : Region.wanted o (yielded ops a.tmps) = true)
    (f : Nat) (fn : Func) (c : Code) (x : Operand) (args : List Operand) (ts : Array TypeId) (vs : List Value) (v : Value) (hop : o.op = .call { callee := .value x, args := args.toArray, argTypes := ts }) (hx : a.eval x = .func (.func f) #[] #[])
    (hargs : args.map a.eval = vs) (hf : Tryz.prog.funcs[f]? = some fn) (hname : (fn.name == "runtime.NumGoroutine") = false) (hb : fn.body = some c) (hc : Calls Tryz.prog f vs.toArray w fun e w' => e = .returned v ∧ Below w.heap.size w w')
    (h : ∀ w', Below w.heap.size w w' → wpAny Tryz.prog md ops Q fuel (listed.setIfInBounds i true) (a.put o.dst v) w') (hs : AllReady Tryz.prog md ops Q fuel listed a w rs) : AllReady Tryz.prog md ops Q fuel listed a w (i :: rs) :=
  AllReady.cons ho (fun K hK => by
    rw [if_pos hw]
    have h1 : fn.name ≠ "runtime.NumGoroutine" := by simpa using hname
    have ha : args.toArray.map a.eval = vs.toArray := by rw [List.map_toArray, hargs]
    have hrun : (execOp a.eval o).run Tryz.prog w = .ok (.enter f vs.toArray) w := by
      unfold execOp
      simp only [hop, resolve, ha, hx]
      simp [Deferred.ofValue, invoke, callFunc, hf, h1, hb]
    unfold Oper.wp
    rw [hrun]
    exact hc.mono fun e w' hh => by obtain ⟨rfl, hbb⟩ := hh; exact hK _ _ (h w' hbb)) hs
theorem ar_val {md : Region.Mode} {ops : Array Oper} {Q : Exit → Act → World → Prop} {fuel : Nat} {listed : Array Bool} {a : Act} {w : World} {i : Nat} {o : Oper} {rs : List Nat} (ho : ops[i]? = some o) (hw : Region.wanted o (yielded ops a.tmps) = true)
    (v : Value) (hrun : ∀ w, (execOp a.eval o).run Tryz.prog w = .ok (.value v) w) (h : wpAny Tryz.prog md ops Q fuel (listed.setIfInBounds i true) (a.put o.dst v) w) (hs : AllReady Tryz.prog md ops Q fuel listed a w rs) : AllReady Tryz.prog md ops Q fuel listed a w (i :: rs) :=
  AllReady.cons ho (fun K hK => by
    rw [if_pos hw]
    unfold Oper.wp
    rw [hrun]
    exact hK _ _ h) hs
theorem ret_num_bool {f : Func} {p q : Tmp} (h : f.results = #[.cell p 30, .tmp q]) (tmps : Array Value) (w : World) (g n : Nat) (b : Bool) (hp : tmps.getD p undef = .pointer (some ⟨g, 0, none⟩)) (hg : At w g n) (hq : tmps.getD q undef = .bool b) : (results f tmps).run Tryz.prog w = .ok (.tuple #[.agg (numA n), .bool b]) w := by
  have hp' : tmps[p]?.getD undef = .pointer (some ⟨g, 0, none⟩) := by simpa using hp
  have hq' : tmps[q]?.getD undef = .bool b := by simpa using hq
  simp [results, h, hp', hq', asAddr, run_loadVar_row w g 30 30 (numA n) (0, 0) _ hg Tryz.underlying30 rfl (by rw [numA_size]; kernel_rfl)]

theorem quotL_lt (l : List Nat) : quotL l < 115792089237316195423570985008687907853269984665640564039457584007913129639936 := by
  unfold quotL
  split
  · exact Nat.lt_trans (Nat.mod_lt _ (by decide)) (by decide)
  · decide
theorem XN_lt (k u : Nat) : XN k u < 115792089237316195423570985008687907853269984665640564039457584007913129639936 := quotL_lt _

theorem b9 (w : World) : (Instr.build 30 #[(0, .int .u8 ((9 : Nat) : Int))]).run Tryz.prog w = .ok (.agg (numA 9)) w := by kernel_rfl
set_option maxHeartbeats 400000 in
theorem Pub_any (n : Nat) (w : World) (hn : n < 115792089237316195423570985008687907853269984665640564039457584007913129639936) (hp : PrimeAt w) :
    Calls Tryz.prog 12 #[.agg (numA n)] w fun e w' => e = .returned (.agg (numA (XN n 9))) ∧ Below w.heap.size w w' := by
  have L : Kept _ := ⟨hn⟩
  have HP : Kept _ := ⟨hp⟩
  obtain ⟨r, hr⟩ : ∃ r, r = XN n 9 := ⟨_, rfl⟩
  rw [← hr]
  have E : Kept _ := ⟨hr⟩
  clear hn hr hp
  have A0 : At ((w.alloc (.cells (numA n) 30)).alloc (.cells #[.int .u8 0, .int .u8 0, .int .u8 0, .int .u8 0, .int .u8 0, .int .u8 0, .int .u8 0, .int .u8 0, .int .u8 0, .int .u8 0, .int .u8 0, .int .u8 0, .int .u8 0, .int .u8 0, .int .u8 0, .int .u8 0, .int .u8 0, .int .u8 0, .int .u8 0, .int .u8 0, .int .u8 0, .int .u8 0, .int .u8 0, .int .u8 0, .int .u8 0, .int .u8 0, .int .u8 0, .int .u8 0, .int .u8 0, .int .u8 0, .int .u8 0, .int .u8 0] 30)) w.heap.size n := (at_new w n).alloc _
  have R1 : Room ((w.alloc (.cells (numA n) 30)).alloc (.cells #[.int .u8 0, .int .u8 0, .int .u8 0, .int .u8 0, .int .u8 0, .int .u8 0, .int .u8 0, .int .u8 0, .int .u8 0, .int .u8 0, .int .u8 0, .int .u8 0, .int .u8 0, .int .u8 0, .int .u8 0, .int .u8 0, .int .u8 0, .int .u8 0, .int .u8 0, .int .u8 0, .int .u8 0, .int .u8 0, .int .u8 0, .int .u8 0, .int .u8 0, .int .u8 0, .int .u8 0, .int .u8 0, .int .u8 0, .int .u8 0, .int .u8 0, .int .u8 0] 30)) (w.heap.size + 1) := room_top _ _ (by simp)
  have QB : Below w.heap.size w ((w.alloc (.cells (numA n) 30)).alloc (.cells #[.int .u8 0, .int .u8 0, .int .u8 0, .int .u8 0, .int .u8 0, .int .u8 0, .int .u8 0, .int .u8 0, .int .u8 0, .int .u8 0, .int .u8 0, .int .u8 0, .int .u8 0, .int .u8 0, .int .u8 0, .int .u8 0, .int .u8 0, .int .u8 0, .int .u8 0, .int .u8 0, .int .u8 0, .int .u8 0, .int .u8 0, .int .u8 0, .int .u8 0, .int .u8 0, .int .u8 0, .int .u8 0, .int .u8 0, .int .u8 0, .int .u8 0, .int .u8 0] 30)) := ((Below.refl _ _).alloc (Nat.le_refl _) _).alloc (by simp) _
  go_enter Tryz.func12, Tryz.ntmps12
  go_wp2_with (first | (refine wpList_get rfl (.tmp 1) rfl _ n rfl A0 ?_) | (refine l_build rfl 9 9 rfl rfl b9 ?_; simp only [Act.put, List.setIfInBounds_toArray, List.set_cons_succ, List.set_cons_zero]))
  have hc := X_any n 9 ((w.alloc (.cells (numA n) 30)).alloc (.cells #[.int .u8 0, .int .u8 0, .int .u8 0, .int .u8 0, .int .u8 0, .int .u8 0, .int .u8 0, .int .u8 0, .int .u8 0, .int .u8 0, .int .u8 0, .int .u8 0, .int .u8 0, .int .u8 0, .int .u8 0, .int .u8 0, .int .u8 0, .int .u8 0, .int .u8 0, .int .u8 0, .int .u8 0, .int .u8 0, .int .u8 0, .int .u8 0, .int .u8 0, .int .u8 0, .int .u8 0, .int .u8 0, .int .u8 0, .int .u8 0, .int .u8 0, .int .u8 0] 30)) L.out (by decide) (PrimeAt.below HP.out QB)
  rw [← E.out] at hc
  refine hc.mono ?_
  rintro e w1 ⟨rfl, hb⟩
  have R2 := R1.under hb
  have QC := QB.trans (hb.mono QB.size)
  clear hc A0 R1 QB hb
  go_wp2_with (refine wpList_put rfl (.tmp 2) (.tmp 5) rfl _ r rfl rfl R2 ?_)
  intro w2 A2 P2
  go_wp2
  exact bodyPost_ret (v := .agg (numA r)) (ret_num (Q := fun _ _ => True) Tryz.results12 _ [] _ _ r rfl A2) rfl ⟨rfl, QC.trans (P2.below (by omega))⟩

set_option maxHeartbeats 1000000 in
theorem Shared_any (k u : Nat) (w : World) (lk : k < 115792089237316195423570985008687907853269984665640564039457584007913129639936) (lu : u < 115792089237316195423570985008687907853269984665640564039457584007913129639936) (hp : PrimeAt w) :
    Calls Tryz.prog 13 #[.agg (numA k), .agg (numA u)] w fun e w' => e = .returned (.tuple #[.agg (numA (XN k u)), .bool (!decide (XN k u % 57896044618658097711785492504343953926634992332820282019728792003956564819949 = 0))]) ∧ Below w.heap.size w w' := by
  have Lk : Kept _ := ⟨lk⟩
  have Lu : Kept _ := ⟨lu⟩
  have HP : Kept _ := ⟨hp⟩
  obtain ⟨r, hr⟩ : ∃ r, r = XN k u := ⟨_, rfl⟩
  obtain ⟨z, hz⟩ : ∃ z, z = decide (r % 57896044618658097711785492504343953926634992332820282019728792003956564819949 = 0) := ⟨_, rfl⟩
  rw [← hr, ← hz]
  have E : Kept (r = XN k u) := ⟨hr⟩
  have Lr : Kept (r < 115792089237316195423570985008687907853269984665640564039457584007913129639936) := ⟨by rw [hr]; exact XN_lt k u⟩
  have CZ : Kept (∀ w', Calls Tryz.prog 27 [.agg (numA r)].toArray w' fun e w2 => e = .returned (.bool z) ∧ Below w'.heap.size w' w2) := ⟨fun w' => by rw [hz]; exact Zero_any r w' Lr.out⟩
  clear lk lu hp hr hz
  go_enter Tryz.func13, Tryz.ntmps13
  obtain ⟨AK, AU, RR0, QB0⟩ := three_nums w k u _ rfl
  go_wp2_with (first | (refine wpList_get rfl (.tmp 2) rfl _ k rfl AK ?_) | (refine wpList_get rfl (.tmp 3) rfl _ u rfl AU ?_))
  have hc := X_any k u _ Lk.out Lu.out (PrimeAt.below HP.out QB0)
  rw [← E.out] at hc
  refine hc.mono ?_
  rintro e w1 ⟨rfl, hb⟩
  have RR1 := RR0.under hb
  have QB1 := QB0.trans (hb.mono QB0.size)
  clear hc AK AU RR0 QB0 hb
  go_wp2_with (refine wpList_put rfl (.tmp 6) (.tmp 9) rfl _ r rfl rfl (room_top _ _ rfl) ?_)
  intro w2 AX2 P2
  have RR2 := P2.room (RR1.alloc _) (Nat.ne_of_lt RR1.lt)
  have QB2 : Below w.heap.size w w2 := (QB1.alloc QB1.size _).trans (P2.below QB1.size)
  have hne : w1.heap.size ≠ w.heap.size + 1 + 1 := (Nat.ne_of_lt RR1.lt).symm
  clear P2 RR1 QB1
  generalize w1.heap.size = g6 at *
  go_wp2_with fail
  refine wp_region_any (by kernel_rfl) ?_
  replace AX2 : At { w2 with drawn := w2.drawn + 1 } g6 r := AX2
  replace RR2 : Room { w2 with drawn := w2.drawn + 1 } (w.heap.size + 1 + 1) := RR2
  replace QB2 : Below w.heap.size w { w2 with drawn := w2.drawn + 1 } := QB2.drew
  generalize ({ w2 with drawn := w2.drawn + 1 } : World) = wd at *
  refine wpAny_ready (rs := [0, 1]) (by kernel_rfl) (by simp) ?_
  refine ar_get rfl (by kernel_rfl) (.tmp 6) rfl _ r rfl (by exact AX2) ?_ ?_
  · skip
    refine wpAny_ready (rs := [1]) (by kernel_rfl) (by simp) ?_
    refine ar_get rfl (by kernel_rfl) (.tmp 6) rfl _ r rfl (by exact AX2) ?_ AllReady.nil
    · skip
      refine wpAny_ready (rs := [2]) (by kernel_rfl) (by simp) ?_
      refine ar_call rfl (by kernel_rfl) 27 Tryz.f27 _ (.func 27) [.tmp 11] _ [.agg (numA r)] (.bool z) rfl rfl (by kernel_rfl) Tryz.func27 (by kernel_rfl) rfl (CZ.out _) (fun w3 hb => ?_) AllReady.nil
      · skip
        have AX3 := (show At _ _ r from AX2).under hb
        have RR3 := (show Room _ _ from RR2).under hb
        have QB3 := (show Below w.heap.size w _ from QB2).trans (hb.mono (show w.heap.size ≤ _ from (show Below w.heap.size w _ from QB2).size))
        clear hb
        refine wpAny_ready (rs := [3, 4]) (by kernel_rfl) (by simp) ?_
        refine ar_val rfl (by kernel_rfl) (.bool (!z)) (fun w => by kernel_rfl) ?_ ?_
        · skip
          refine wpAny_ready (rs := [4]) (by kernel_rfl) (by simp) ?_
          refine ar_put rfl (by kernel_rfl) (.tmp 4) (.tmp 10) rfl _ r (by kernel_rfl) (by kernel_rfl) (by exact RR3) (fun w4 AR4 P4 => ?_) AllReady.nil
          · skip
            have AX4 := P4.at (k := g6) (by exact AX3) hne
            have RR4 := AR4.room
            have QB4 : Below w.heap.size w w4 := (show Below w.heap.size w _ from QB3).trans (P4.below (by omega))
            clear P4
            refine wpAny_ready (rs := [5]) (by kernel_rfl) (by simp) ?_
            refine ar_val rfl (by kernel_rfl) (.bool (!z)) (fun w => by kernel_rfl) ?_ AllReady.nil
            · skip
              refine wpAny_done (by kernel_rfl) ?_ _
              clear AX4 RR4
              go_wp2_with fail
              exact bodyPost_ret (v := .tuple #[.agg (numA r), .bool (!z)]) (ret_num_bool Tryz.results13 _ _ _ r (!z) rfl AR4 rfl) rfl ⟨rfl, QB4⟩
        refine ar_put rfl (by kernel_rfl) (.tmp 4) (.tmp 10) rfl _ r (by kernel_rfl) (by kernel_rfl) (by exact RR3) (fun w4 AR4 P4 => ?_) AllReady.nil
        · skip
          have AX4 := P4.at (k := g6) (by exact AX3) hne
          have RR4 := AR4.room
          have QB4 : Below w.heap.size w w4 := (show Below w.heap.size w _ from QB3).trans (P4.below (by omega))
          clear P4
          refine wpAny_ready (rs := [3]) (by kernel_rfl) (by simp) ?_
          refine ar_val rfl (by kernel_rfl) (.bool (!z)) (fun w => by kernel_rfl) ?_ AllReady.nil
          · skip
            refine wpAny_ready (rs := [5]) (by kernel_rfl) (by simp) ?_
            refine ar_val rfl (by kernel_rfl) (.bool (!z)) (fun w => by kernel_rfl) ?_ AllReady.nil
            · skip
              refine wpAny_done (by kernel_rfl) ?_ _
              clear AX4 RR4
              go_wp2_with fail
              exact bodyPost_ret (v := .tuple #[.agg (numA r), .bool (!z)]) (ret_num_bool Tryz.results13 _ _ _ r (!z) rfl AR4 rfl) rfl ⟨rfl, QB4⟩
  refine ar_get rfl (by kernel_rfl) (.tmp 6) rfl _ r rfl (by exact AX2) ?_ AllReady.nil
  · skip
    refine wpAny_ready (rs := [0, 2]) (by kernel_rfl) (by simp) ?_
    refine ar_get rfl (by kernel_rfl) (.tmp 6) rfl _ r rfl (by exact AX2) ?_ ?_
    · skip
      refine wpAny_ready (rs := [2]) (by kernel_rfl) (by simp) ?_
      refine ar_call rfl (by kernel_rfl) 27 Tryz.f27 _ (.func 27) [.tmp 11] _ [.agg (numA r)] (.bool z) rfl rfl (by kernel_rfl) Tryz.func27 (by kernel_rfl) rfl (CZ.out _) (fun w3 hb => ?_) AllReady.nil
      · skip
        have AX3 := (show At _ _ r from AX2).under hb
        have RR3 := (show Room _ _ from RR2).under hb
        have QB3 := (show Below w.heap.size w _ from QB2).trans (hb.mono (show w.heap.size ≤ _ from (show Below w.heap.size w _ from QB2).size))
        clear hb
        refine wpAny_ready (rs := [3, 4]) (by kernel_rfl) (by simp) ?_
        refine ar_val rfl (by kernel_rfl) (.bool (!z)) (fun w => by kernel_rfl) ?_ ?_
        · skip
          refine wpAny_ready (rs := [4]) (by kernel_rfl) (by simp) ?_
          refine ar_put rfl (by kernel_rfl) (.tmp 4) (.tmp 10) rfl _ r (by kernel_rfl) (by kernel_rfl) (by exact RR3) (fun w4 AR4 P4 => ?_) AllReady.nil
          · skip
            have AX4 := P4.at (k := g6) (by exact AX3) hne
            have RR4 := AR4.room
            have QB4 : Below w.heap.size w w4 := (show Below w.heap.size w _ from QB3).trans (P4.below (by omega))
            clear P4
            refine wpAny_ready (rs := [5]) (by kernel_rfl) (by simp) ?_
            refine ar_val rfl (by kernel_rfl) (.bool (!z)) (fun w => by kernel_rfl) ?_ AllReady.nil
            · skip
              refine wpAny_done (by kernel_rfl) ?_ _
              clear AX4 RR4
              go_wp2_with fail
              exact bodyPost_ret (v := .tuple #[.agg (numA r), .bool (!z)]) (ret_num_bool Tryz.results13 _ _ _ r (!z) rfl AR4 rfl) rfl ⟨rfl, QB4⟩
        refine ar_put rfl (by kernel_rfl) (.tmp 4) (.tmp 10) rfl _ r (by kernel_rfl) (by kernel_rfl) (by exact RR3) (fun w4 AR4 P4 => ?_) AllReady.nil
        · skip
          have AX4 := P4.at (k := g6) (by exact AX3) hne
          have RR4 := AR4.room
          have QB4 : Below w.heap.size w w4 := (show Below w.heap.size w _ from QB3).trans (P4.below (by omega))
          clear P4
          refine wpAny_ready (rs := [3]) (by kernel_rfl) (by simp) ?_
          refine ar_val rfl (by kernel_rfl) (.bool (!z)) (fun w => by kernel_rfl) ?_ AllReady.nil
          · skip
            refine wpAny_ready (rs := [5]) (by kernel_rfl) (by simp) ?_
            refine ar_val rfl (by kernel_rfl) (.bool (!z)) (fun w => by kernel_rfl) ?_ AllReady.nil
            · skip
              refine wpAny_done (by kernel_rfl) ?_ _
              clear AX4 RR4
              go_wp2_with fail
              exact bodyPost_ret (v := .tuple #[.agg (numA r), .bool (!z)]) (ret_num_bool Tryz.results13 _ _ _ r (!z) rfl AR4 rfl) rfl ⟨rfl, QB4⟩
    refine ar_call rfl (by kernel_rfl) 27 Tryz.f27 _ (.func 27) [.tmp 11] _ [.agg (numA r)] (.bool z) rfl rfl (by kernel_rfl) Tryz.func27 (by kernel_rfl) rfl (CZ.out _) (fun w3 hb => ?_) AllReady.nil
    · skip
      have AX3 := (show At _ _ r from AX2).under hb
      have RR3 := (show Room _ _ from RR2).under hb
      have QB3 := (show Below w.heap.size w _ from QB2).trans (hb.mono (show w.heap.size ≤ _ from (show Below w.heap.size w _ from QB2).size))
      clear hb
      refine wpAny_ready (rs := [0, 3]) (by kernel_rfl) (by simp) ?_
      refine ar_get rfl (by kernel_rfl) (.tmp 6) rfl _ r rfl (by exact AX3) ?_ ?_
      · skip
        refine wpAny_ready (rs := [3, 4]) (by kernel_rfl) (by simp) ?_
        refine ar_val rfl (by kernel_rfl) (.bool (!z)) (fun w => by kernel_rfl) ?_ ?_
        · skip
          refine wpAny_ready (rs := [4]) (by kernel_rfl) (by simp) ?_
          refine ar_put rfl (by kernel_rfl) (.tmp 4) (.tmp 10) rfl _ r (by kernel_rfl) (by kernel_rfl) (by exact RR3) (fun w4 AR4 P4 => ?_) AllReady.nil
          · skip
            have AX4 := P4.at (k := g6) (by exact AX3) hne
            have RR4 := AR4.room
            have QB4 : Below w.heap.size w w4 := (show Below w.heap.size w _ from QB3).trans (P4.below (by omega))
            clear P4
            refine wpAny_ready (rs := [5]) (by kernel_rfl) (by simp) ?_
            refine ar_val rfl (by kernel_rfl) (.bool (!z)) (fun w => by kernel_rfl) ?_ AllReady.nil
            · skip
              refine wpAny_done (by kernel_rfl) ?_ _
              clear AX4 RR4
              go_wp2_with fail
              exact bodyPost_ret (v := .tuple #[.agg (numA r), .bool (!z)]) (ret_num_bool Tryz.results13 _ _ _ r (!z) rfl AR4 rfl) rfl ⟨rfl, QB4⟩
        refine ar_put rfl (by kernel_rfl) (.tmp 4) (.tmp 10) rfl _ r (by kernel_rfl) (by kernel_rfl) (by exact RR3) (fun w4 AR4 P4 => ?_) AllReady.nil
        · skip
          have AX4 := P4.at (k := g6) (by exact AX3) hne
          have RR4 := AR4.room
          have QB4 : Below w.heap.size w w4 := (show Below w.heap.size w _ from QB3).trans (P4.below (by omega))
          clear P4
          refine wpAny_ready (rs := [3]) (by kernel_rfl) (by simp) ?_
          refine ar_val rfl (by kernel_rfl) (.bool (!z)) (fun w => by kernel_rfl) ?_ AllReady.nil
          · skip
            refine wpAny_ready (rs := [5]) (by kernel_rfl) (by simp) ?_
            refine ar_val rfl (by kernel_rfl) (.bool (!z)) (fun w => by kernel_rfl) ?_ AllReady.nil
            · skip
              refine wpAny_done (by kernel_rfl) ?_ _
              clear AX4 RR4
              go_wp2_with fail
              exact bodyPost_ret (v := .tuple #[.agg (numA r), .bool (!z)]) (ret_num_bool Tryz.results13 _ _ _ r (!z) rfl AR4 rfl) rfl ⟨rfl, QB4⟩
      refine ar_val rfl (by kernel_rfl) (.bool (!z)) (fun w => by kernel_rfl) ?_ AllReady.nil
      · skip
        refine wpAny_ready (rs := [0]) (by kernel_rfl) (by simp) ?_
        refine ar_get rfl (by kernel_rfl) (.tmp 6) rfl _ r rfl (by exact AX3) ?_ AllReady.nil
        · skip
          refine wpAny_ready (rs := [4]) (by kernel_rfl) (by simp) ?_
          refine ar_put rfl (by kernel_rfl) (.tmp 4) (.tmp 10) rfl _ r (by kernel_rfl) (by kernel_rfl) (by exact RR3) (fun w4 AR4 P4 => ?_) AllReady.nil
          · skip
            have AX4 := P4.at (k := g6) (by exact AX3) hne
            have RR4 := AR4.room
            have QB4 : Below w.heap.size w w4 := (show Below w.heap.size w _ from QB3).trans (P4.below (by omega))
            clear P4
            refine wpAny_ready (rs := [5]) (by kernel_rfl) (by simp) ?_
            refine ar_val rfl (by kernel_rfl) (.bool (!z)) (fun w => by kernel_rfl) ?_ AllReady.nil
            · skip
              refine wpAny_done (by kernel_rfl) ?_ _
              clear AX4 RR4
              go_wp2_with fail
              exact bodyPost_ret (v := .tuple #[.agg (numA r), .bool (!z)]) (ret_num_bool Tryz.results13 _ _ _ r (!z) rfl AR4 rfl) rfl ⟨rfl, QB4⟩
end Go.Proofs.YtjkdonjcngmjeaaGreatDoor
