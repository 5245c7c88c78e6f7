/-
  The answers that the document fixes for layer 3 are as they must be.
-/
import Derived.Test.YtghinfdmkiaaiaaDoorSK
namespace Go.Proofs.YtghinfdmkiaaiaaDoor.sh
open Go Go.RowKit
set_option linter.unusedVariables false
set_option linter.unusedSimpArgs false


theorem sum_abc : sumL [97, 98, 99] = [186, 120, 22, 191, 143, 1, 207, 234, 65, 65, 64, 222, 93, 174, 34, 35, 176, 3, 97, 163, 150, 23, 122, 156, 180, 16, 255, 97, 242, 0, 21, 173] := by kernel_rfl

set_option maxHeartbeats 2000000 in
theorem alive3_any (w : World) (hr : RootsAt w) :
    Calls Tryd.prog 8 #[] w fun e w' => e = .returned (.bool true) ∧ Below w.heap.size w w' := by
  obtain ⟨L, hL⟩ : ∃ L, L = sumL [97, 98, 99] := ⟨_, rfl⟩
  have EL : Kept _ := ⟨hL⟩
  have HL : Kept (L.length = 32) := ⟨by rw [hL]; exact sumL_len _⟩
  have K0 : Kept ((ints .u8 L)[0]? = some (.int .u8 186)) := ⟨by rw [hL, sum_abc]; rfl⟩
  have K1 : Kept ((ints .u8 L)[1]? = some (.int .u8 120)) := ⟨by rw [hL, sum_abc]; rfl⟩
  have K2 : Kept ((ints .u8 L)[2]? = some (.int .u8 22)) := ⟨by rw [hL, sum_abc]; rfl⟩
  have K3 : Kept ((ints .u8 L)[31]? = some (.int .u8 173)) := ⟨by rw [hL, sum_abc]; rfl⟩
  clear hL
  have KR : Kept _ := ⟨hr⟩
  have h0 := hr.1
  obtain ⟨D0, hD0⟩ : ∃ D0, D0 = digOf initD := ⟨_, rfl⟩
  obtain ⟨D1, hD1⟩ : ∃ D1, D1 = digOf (feed initD [97]) := ⟨_, rfl⟩
  obtain ⟨D2, hD2⟩ : ∃ D2, D2 = digOf (feed (feed initD [97]) [98, 99]) := ⟨_, rfl⟩
  have HB : Kept (∀ w, (Instr.build 32 #[]).run Tryd.prog w = .ok (.agg D0) w) := ⟨fun w => by rw [hD0, ← init_val]; kernel_rfl⟩
  have B1 : Bytes [97] := fun i x hx => by rcases i with _ | i <;> simp at hx; omega
  have B2 : Bytes [98, 99] := fun i x hx => by rcases i with _ | _ | i <;> simp at hx <;> omega
  have B3 : Bytes [97, 98, 99] := B1.append B2
  have G1 := init_good.feed [97] B1
  have G2 := G1.feed [98, 99] B2
  have C0 : Kept (∀ v w', RootsAt w' → BytesV v w' [97, 98, 99] → Calls Tryd.prog 9 #[v] w' fun e w2 => e = .returned (.agg (ints .u8 L)) ∧ Below w'.heap.size w' w2) := ⟨fun v w' h1 h2 => by rw [EL.out]; exact Sum_any _ v w' B3 (by simp) h2 h1⟩
  have CA : Kept (∀ v w', RootsAt w' → Const 5 .u8 [97] v w' → Calls Tryd.prog 11 #[.agg D0, v] w' fun e w2 => e = .returned (.agg D1) ∧ Below w'.heap.size w' w2) := ⟨fun v w' h1 h2 => by rw [hD0, hD1]; exact Write_any initD [97] v w' init_good B1 (by simp [initD]) h2.ints h1⟩
  have CB : Kept (∀ v w', RootsAt w' → Const 5 .u8 [98, 99] v w' → Calls Tryd.prog 11 #[.agg D1, v] w' fun e w2 => e = .returned (.agg D2) ∧ Below w'.heap.size w' w2) := ⟨fun v w' h1 h2 => by rw [hD1, hD2]; exact Write_any _ [98, 99] v w' G1 B2 (by rw [feed_n]; simp [initD]) h2.ints h1⟩
  have CC : Kept (∀ w', RootsAt w' → Calls Tryd.prog 12 #[.agg D2] w' fun e w2 => e = .returned (.agg (ints .u8 L)) ∧ Below w'.heap.size w' w2) := ⟨fun w' h1 => by rw [EL.out, hD2, show sumL [97, 98, 99] = sumD (feed (feed initD [97]) [98, 99]) from by rw [← feed_append]; rfl]; exact DSum_any _ w' G2 (by rw [feed_n, feed_n]; simp [initD]) h1⟩
  clear hD0 hD1 hD2 hr B1 B2 B3 G1 G2
  go_enter Tryd.func8, Tryd.ntmps8
  have kc := fun (w : World) (C : Array Value) (n c : Nat) => Lib.run_convert_bytes_const (P := Tryd.prog) w 22 5 C n c Tryd.underlying22 Tryd.underlying5
  go_wp2_with fail
  clear kc
  refine (C0.out _ _ (KR.out.below h0 ((Below.refl _ _).alloc (Nat.le_refl _) _)) (Const.ints (e := 5) (l := [97, 98, 99]) ⟨w.heap.size, (3, 4), rfl, heap_new w _⟩)).mono ?_
  rintro e w1 ⟨rfl, hb⟩
  have QB1 : Below w.heap.size w w1 := ((Below.refl _ _).alloc (Nat.le_refl _) _).trans (hb.mono (by simp))
  clear hb C0
  go_wp2_with (first | (refine wl_store rfl 24 (.tmp 1) (.tmp 4) rfl _ (ints .u8 L) rfl rfl _ (blk_new w1 _ _) (by rw [ints_size, HL.out]; exact t32_info) (by rw [ints_size, HL.out]; rfl) (ints_one _ _) ?_))
  intro w2 A2 P2
  have QB2 : Below w.heap.size w w2 := (QB1.alloc QB1.size _).trans (P2.below QB1.size)
  generalize w1.heap.size = g at *
  clear P2 QB1
  have RR : ∀ w', Below w2.heap.size w2 w' → RootsAt w' := fun w' hb => (KR.out.below h0 QB2).below (Nat.lt_of_lt_of_le h0 QB2.size) hb
  have C1 : Kept (∀ w' vy, Below w2.heap.size w2 w' → Const 5 .u8 [97] vy w' → Calls Tryd.prog 11 [.agg D0, vy].toArray w' fun e w3 => e = .returned (.agg D1) ∧ Below w'.heap.size w' w3) := ⟨fun w' vy hb h => CA.out vy w' (RR w' hb) h⟩
  have C2 : Kept (∀ w' vy, Below w2.heap.size w2 w' → Const 5 .u8 [98, 99] vy w' → Calls Tryd.prog 11 [.agg D1, vy].toArray w' fun e w3 => e = .returned (.agg D2) ∧ Below w'.heap.size w' w3) := ⟨fun w' vy hb h => CB.out vy w' (RR w' hb) h⟩
  have C3 : Kept (∀ w', Below w2.heap.size w2 w' → Calls Tryd.prog 12 [.agg D2].toArray w' fun e w3 => e = .returned (.agg (ints .u8 L)) ∧ Below w'.heap.size w' w3) := ⟨fun w' hb => CC.out w' (RR w' hb)⟩
  clear CA CB CC RR
  go_wp2_with fail
  refine region_ownL w2 30 [(5, .pointer (some ⟨g, 0, none⟩)), (6, .int .u8 186), (7, .bool true), (8, .bool true), (9, .pointer (some ⟨g, 1, none⟩)), (10, .int .u8 120), (11, .bool true), (12, .bool true), (13, .bool true), (14, .pointer (some ⟨g, 2, none⟩)), (15, .int .u8 22), (16, .bool true), (17, .bool true), (18, .bool true), (19, .pointer (some ⟨g, 31, none⟩)), (20, .int .u8 173), (21, .bool true), (22, .bool true), (23, .bool true), (24, .agg D0), (27, .agg D1), (30, .agg D2), (31, .agg (ints .u8 L)), (32, .agg (ints .u8 L)), (33, .bool true), (34, .bool true)] [(25, Const 5 .u8 [97]), (26, Const 5 .u8 [97]), (28, Const 5 .u8 [98, 99]), (29, Const 5 .u8 [98, 99])] [25, 26, 28, 29] [(21, 25), (24, 28)] rfl (by kernel_rfl) (by kernel_rfl) (by kernel_rfl) (by kernel_rfl) (by kernel_rfl) (by kernel_rfl) (by kernel_rfl) (by kernel_rfl) (by kernel_rfl) (by kernel_rfl) (by kernel_rfl) ?hst1 ?hst2 (Below.refl _ _) (fun hA => ⟨ow_val hA (wants_none rfl) 5 (.pointer (some ⟨g, 0, none⟩)) (by kernel_rfl) rfl rfl rfl rfl (by kernel_rfl) (fun w => by kernel_rfl), ow_elem hA (wants_none rfl) 6 (.int .u8 186) (by kernel_rfl) rfl rfl rfl rfl (by kernel_rfl) 5 ag_u8 (.tmp 5) rfl (⟨g, 0, none⟩) (by kernel_rfl) (fun w1 hb => (Blk.under A2 hb).cell K0.out), ow_val hA (wants_none rfl) 7 (.bool true) (by kernel_rfl) rfl rfl rfl rfl (by kernel_rfl) (fun w => by kernel_rfl), ow_val hA (wants_none rfl) 8 (.bool true) (by kernel_rfl) rfl rfl rfl rfl (by kernel_rfl) (fun w => by kernel_rfl), ow_val hA (wants_at hA 3 true 8 rfl rfl (by kernel_rfl) rfl rfl (by kernel_rfl)) 9 (.pointer (some ⟨g, 1, none⟩)) (by kernel_rfl) rfl rfl rfl rfl (by kernel_rfl) (fun w => by kernel_rfl), ow_elem hA (wants_at hA 3 true 8 rfl rfl (by kernel_rfl) rfl rfl (by kernel_rfl)) 10 (.int .u8 120) (by kernel_rfl) rfl rfl rfl rfl (by kernel_rfl) 5 ag_u8 (.tmp 9) rfl (⟨g, 1, none⟩) (by kernel_rfl) (fun w1 hb => (Blk.under A2 hb).cell K1.out), ow_val hA (wants_at hA 3 true 8 rfl rfl (by kernel_rfl) rfl rfl (by kernel_rfl)) 11 (.bool true) (by kernel_rfl) rfl rfl rfl rfl (by kernel_rfl) (fun w => by kernel_rfl), ow_val hA (wants_none rfl) 12 (.bool true) (by kernel_rfl) rfl rfl rfl rfl (by kernel_rfl) (fun w => by kernel_rfl), ow_val hA (wants_none rfl) 13 (.bool true) (by kernel_rfl) rfl rfl rfl rfl (by kernel_rfl) (fun w => by kernel_rfl), ow_val hA (wants_at hA 8 true 13 rfl rfl (by kernel_rfl) rfl rfl (by kernel_rfl)) 14 (.pointer (some ⟨g, 2, none⟩)) (by kernel_rfl) rfl rfl rfl rfl (by kernel_rfl) (fun w => by kernel_rfl), ow_elem hA (wants_at hA 8 true 13 rfl rfl (by kernel_rfl) rfl rfl (by kernel_rfl)) 15 (.int .u8 22) (by kernel_rfl) rfl rfl rfl rfl (by kernel_rfl) 5 ag_u8 (.tmp 14) rfl (⟨g, 2, none⟩) (by kernel_rfl) (fun w1 hb => (Blk.under A2 hb).cell K2.out), ow_val hA (wants_at hA 8 true 13 rfl rfl (by kernel_rfl) rfl rfl (by kernel_rfl)) 16 (.bool true) (by kernel_rfl) rfl rfl rfl rfl (by kernel_rfl) (fun w => by kernel_rfl), ow_val hA (wants_none rfl) 17 (.bool true) (by kernel_rfl) rfl rfl rfl rfl (by kernel_rfl) (fun w => by kernel_rfl), ow_val hA (wants_none rfl) 18 (.bool true) (by kernel_rfl) rfl rfl rfl rfl (by kernel_rfl) (fun w => by kernel_rfl), ow_val hA (wants_at hA 13 true 18 rfl rfl (by kernel_rfl) rfl rfl (by kernel_rfl)) 19 (.pointer (some ⟨g, 31, none⟩)) (by kernel_rfl) rfl rfl rfl rfl (by kernel_rfl) (fun w => by kernel_rfl), ow_elem hA (wants_at hA 13 true 18 rfl rfl (by kernel_rfl) rfl rfl (by kernel_rfl)) 20 (.int .u8 173) (by kernel_rfl) rfl rfl rfl rfl (by kernel_rfl) 5 ag_u8 (.tmp 19) rfl (⟨g, 31, none⟩) (by kernel_rfl) (fun w1 hb => (Blk.under A2 hb).cell K3.out), ow_val hA (wants_at hA 13 true 18 rfl rfl (by kernel_rfl) rfl rfl (by kernel_rfl)) 21 (.bool true) (by kernel_rfl) rfl rfl rfl rfl (by kernel_rfl) (fun w => by kernel_rfl), ow_val hA (wants_none rfl) 22 (.bool true) (by kernel_rfl) rfl rfl rfl rfl (by kernel_rfl) (fun w => by kernel_rfl), ow_val hA (wants_none rfl) 23 (.bool true) (by kernel_rfl) rfl rfl rfl rfl (by kernel_rfl) (fun w => by kernel_rfl), ow_val hA (wants_at hA 18 true 23 rfl rfl (by kernel_rfl) rfl rfl (by kernel_rfl)) 24 (.agg D0) (by kernel_rfl) rfl rfl rfl rfl (by kernel_rfl) (fun w => build_run rfl HB.out w), ow_new (wants_at hA 18 true 23 rfl rfl (by kernel_rfl) rfl rfl (by kernel_rfl)) 25 rfl (Const 5 .u8 [97]) rfl (fun a w _ => ⟨_, _, by kernel_rfl, ⟨w.heap.size, (0, 0), rfl, heap_new w _⟩, (Below.refl _ _).alloc (Nat.le_refl _) _, fun b hb => by cases hb; exact ⟨Nat.le_refl _, by simp⟩⟩), ow_conv (wants_at hA 18 true 23 rfl rfl (by kernel_rfl) rfl rfl (by kernel_rfl)) 26 25 rfl 22 5 _ rfl Tryd.underlying22 Tryd.underlying5 rfl rfl (by kernel_rfl) rfl (by decide), ow_call (wants_at hA 18 true 23 rfl rfl (by kernel_rfl) rfl rfl (by kernel_rfl)) 27 11 Tryd.f11 _ [.tmp 24, .tmp 26] _ rfl rfl Tryd.func11 (by kernel_rfl) rfl (fun a w1 hF hb hgot => by rw [List.map_cons, List.map_cons, List.map_nil, gotE_det hA hgot (by kernel_rfl) rfl rfl (by kernel_rfl)]; exact (C1.out w1 _ hb (gotE_spec hgot (Const 5 .u8 [97]) (by kernel_rfl) rfl rfl).1).mono fun e w2 hh => ⟨_, hh.1, rel_det hA rfl (by kernel_rfl), hh.2, fun h => by cases h⟩), ow_new (wants_at hA 18 true 23 rfl rfl (by kernel_rfl) rfl rfl (by kernel_rfl)) 28 rfl (Const 5 .u8 [98, 99]) rfl (fun a w _ => ⟨_, _, by kernel_rfl, ⟨w.heap.size, (0, 0), rfl, heap_new w _⟩, (Below.refl _ _).alloc (Nat.le_refl _) _, fun b hb => by cases hb; exact ⟨Nat.le_refl _, by simp⟩⟩), ow_conv (wants_at hA 18 true 23 rfl rfl (by kernel_rfl) rfl rfl (by kernel_rfl)) 29 28 rfl 22 5 _ rfl Tryd.underlying22 Tryd.underlying5 rfl rfl (by kernel_rfl) rfl (by decide), ow_call (wants_at hA 18 true 23 rfl rfl (by kernel_rfl) rfl rfl (by kernel_rfl)) 30 11 Tryd.f11 _ [.tmp 27, .tmp 29] _ rfl rfl Tryd.func11 (by kernel_rfl) rfl (fun a w1 hF hb hgot => by rw [List.map_cons, List.map_cons, List.map_nil, gotE_det hA hgot (by kernel_rfl) rfl rfl (by kernel_rfl)]; exact (C2.out w1 _ hb (gotE_spec hgot (Const 5 .u8 [98, 99]) (by kernel_rfl) rfl rfl).1).mono fun e w2 hh => ⟨_, hh.1, rel_det hA rfl (by kernel_rfl), hh.2, fun h => by cases h⟩), ow_calld hA (wants_at hA 18 true 23 rfl rfl (by kernel_rfl) rfl rfl (by kernel_rfl)) 31 (.agg (ints .u8 L)) (by kernel_rfl) rfl rfl rfl rfl (by kernel_rfl) 12 Tryd.f12 _ [.tmp 30] _ [.agg D2] rfl (by kernel_rfl) Tryd.func12 (by kernel_rfl) rfl (fun w1 hb => C3.out w1 hb), ow_row hA (wants_at hA 18 true 23 rfl rfl (by kernel_rfl) rfl rfl (by kernel_rfl)) 32 (.agg (ints .u8 L)) (by kernel_rfl) rfl rfl rfl rfl (by kernel_rfl) 24 (.tmp 1) rfl (g) (by kernel_rfl) 24 (ints .u8 L) 32 5 Tryd.underlying24 (by rw [ints_size, HL.out]; exact t32_info) (fun w1 hb => Blk.under A2 hb) rfl, ow_val hA (wants_at hA 18 true 23 rfl rfl (by kernel_rfl) rfl rfl (by kernel_rfl)) 33 (.bool true) (by kernel_rfl) rfl rfl rfl rfl (by kernel_rfl) (fun w => by rw [run_eql_row L L rfl (by kernel_rfl) (by kernel_rfl) HL.out HL.out Tryd.underlying24 Tryd.underlying5 sz_u8 ag_u8 eg32]; rw [decide_eq_true rfl]), ow_val hA (wants_none rfl) 34 (.bool true) (by kernel_rfl) rfl rfl rfl rfl (by kernel_rfl) (fun w => by kernel_rfl), trivial⟩) ?_
  case hst1 =>
    intro q hq hO
    simp only [List.mem_cons, List.not_mem_nil, or_false] at hq
    rcases hq with rfl | rfl | rfl | rfl <;> cases hO
  case hst2 =>
    intro q hq hO v w3 w4 row h1 h2 h3 h4
    simp only [List.mem_cons, List.not_mem_nil, or_false] at hq
    rcases hq with rfl | rfl | rfl | rfl <;> exact h1.keeps h2 h3
  intro fv w3 hf hD hb3
  simp only [putR, List.foldl_cons, List.foldl_nil, List.map_cons, List.map_nil, Act.put, List.setIfInBounds_toArray, List.set_cons_succ, List.set_cons_zero]
  clear hf hD C1 C2 C3 A2
  go_wp2
  go_ret
  exact ⟨rfl, QB2.trans (hb3.mono QB2.size)⟩
end Go.Proofs.YtghinfdmkiaaiaaDoor.sh
