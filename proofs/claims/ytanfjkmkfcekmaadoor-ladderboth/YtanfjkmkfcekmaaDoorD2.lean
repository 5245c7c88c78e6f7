/-
  What the reference's step answers.
-/
import Derived.Test.YtanfjkmkfcekmaaDoorD1
import Derived.Test.YtanfjkmkfcekmaaDoorR7
import Derived.Test.YtanfjkmkfcekmaaDoorR9
namespace Go.Proofs.YtanfjkmkfcekmaaDoor
open Go Go.RowKit
set_option linter.unusedVariables false
set_option linter.unusedSimpArgs false


set_option maxHeartbeats 2000000 in
theorem rstep_any (a b c d x : Nat) (w : World) (la : a < 115792089237316195423570985008687907853269984665640564039457584007913129639936) (lb : b < 115792089237316195423570985008687907853269984665640564039457584007913129639936) (lc : c < 115792089237316195423570985008687907853269984665640564039457584007913129639936) (ld : d < 115792089237316195423570985008687907853269984665640564039457584007913129639936) (lx : x < 115792089237316195423570985008687907853269984665640564039457584007913129639936) (hp : PrimeAt w) :
    Calls Tryd.prog 42 #[.agg (rowA [a, b, c, d]), .agg (numA x)] w fun e w' => e = .returned (.agg (rowA (stepL a b c d x))) ∧ Below w.heap.size w w' := by
  obtain ⟨r, hr⟩ : ∃ r, r = stepL a b c d x := ⟨_, rfl⟩
  rw [← hr]
  have KR : Kept _ := ⟨hr⟩
  have La : Kept _ := ⟨la⟩
  have Lb : Kept _ := ⟨lb⟩
  have Lc : Kept _ := ⟨lc⟩
  have Ld : Kept _ := ⟨ld⟩
  have Lx : Kept _ := ⟨lx⟩
  have HP : Kept _ := ⟨hp⟩
  clear la lb lc ld lx hp hr
  go_enter Tryd.func42, Tryd.ntmps42
  go_wp2_with fail
  generalize hW : ((w.alloc (.cells (rowA [a, b, c, d]) 50)).alloc (.cells (numA x) 22)).alloc (.cells Tryd.zeroCells50 50) = w0
  obtain ⟨AQ0, AX0, RR0, QB0⟩ := quad_start 50 w a b c d x Tryd.zeroCells50 (by kernel_rfl) w0 hW
  clear hW
  have HPW : Kept _ := ⟨PrimeAt.below HP.out QB0⟩
  obtain ⟨s, es⟩ : ∃ s, s = (a + b) % 57896044618658097711785492504343953926634992332820282019728792003956564819949 := ⟨_, rfl⟩
  have Es : Kept (s = (a + b) % 57896044618658097711785492504343953926634992332820282019728792003956564819949) := ⟨es⟩
  have Ls : Kept (s < 115792089237316195423570985008687907853269984665640564039457584007913129639936) := ⟨by rw [es]; exact Nat.lt_trans (Nat.mod_lt _ (by decide)) (by decide)⟩
  clear es
  have C0 : Kept (∀ w, Below w0.heap.size w0 w → Calls Tryd.prog 14 [.agg (numA a), .agg (numA b)].toArray w fun e w2 => e = .returned (.agg (numA s)) ∧ Below w.heap.size w w2) := ⟨fun w hb => by rw [Es.out]; exact rAdd_any a b w La.out Lb.out⟩
  obtain ⟨t, et⟩ : ∃ t, t = (a + (57896044618658097711785492504343953926634992332820282019728792003956564819949 - b % 57896044618658097711785492504343953926634992332820282019728792003956564819949)) % 57896044618658097711785492504343953926634992332820282019728792003956564819949 := ⟨_, rfl⟩
  have Et : Kept (t = (a + (57896044618658097711785492504343953926634992332820282019728792003956564819949 - b % 57896044618658097711785492504343953926634992332820282019728792003956564819949)) % 57896044618658097711785492504343953926634992332820282019728792003956564819949) := ⟨et⟩
  have Lt : Kept (t < 115792089237316195423570985008687907853269984665640564039457584007913129639936) := ⟨by rw [et]; exact Nat.lt_trans (Nat.mod_lt _ (by decide)) (by decide)⟩
  clear et
  have C1 : Kept (∀ w, Below w0.heap.size w0 w → Calls Tryd.prog 16 [.agg (numA a), .agg (numA b)].toArray w fun e w2 => e = .returned (.agg (numA t)) ∧ Below w.heap.size w w2) := ⟨fun w hb => by rw [Et.out]; exact rSub_any a b w La.out Lb.out⟩
  refine region_made2 (W0 := w0) [(16, .pointer (some ⟨w.heap.size, 0, none⟩)), (17, .agg (numA a)), (18, .pointer (some ⟨w.heap.size, 32, none⟩)), (19, .agg (numA b)), (20, .agg (numA s)), (21, .pointer (some ⟨w.heap.size, 0, none⟩)), (22, .agg (numA a)), (23, .pointer (some ⟨w.heap.size, 32, none⟩)), (24, .agg (numA b)), (25, .agg (numA t))] 10 11 12 13 5 6 s t (by kernel_rfl) (by kernel_rfl) (by kernel_rfl) (by kernel_rfl) (by kernel_rfl) (by kernel_rfl) (by kernel_rfl) (by kernel_rfl) (by kernel_rfl) (by kernel_rfl) (by kernel_rfl) (by kernel_rfl) (Below.refl _ _) ⟨ok_val (by rfl) 16 (.pointer (some ⟨w.heap.size, 0, none⟩)) rfl (by kernel_rfl) (fun w => by kernel_rfl), ok_part (by rfl) 17 (w.heap.size) 0 a 50 (rowA [a, b, c, d]) (.tmp 16) rfl (by kernel_rfl) rfl (by kernel_rfl) (fun w hb => AtQ.under AQ0 hb) (rowA_part _ (i := 0) rfl), ok_val (by rfl) 18 (.pointer (some ⟨w.heap.size, 32, none⟩)) rfl (by kernel_rfl) (fun w => by kernel_rfl), ok_part (by rfl) 19 (w.heap.size) 32 b 50 (rowA [a, b, c, d]) (.tmp 18) rfl (by kernel_rfl) rfl (by kernel_rfl) (fun w hb => AtQ.under AQ0 hb) (rowA_part _ (i := 1) rfl), ok_call (by rfl) 20 14 Tryd.f14 _ (.func 14) [.tmp 17, .tmp 19] _ [.agg (numA a), .agg (numA b)] (.agg (numA s)) rfl (by kernel_rfl) rfl (by kernel_rfl) (by kernel_rfl) Tryd.func14 (by kernel_rfl) rfl C0.out, ok_val (by rfl) 21 (.pointer (some ⟨w.heap.size, 0, none⟩)) rfl (by kernel_rfl) (fun w => by kernel_rfl), ok_part (by rfl) 22 (w.heap.size) 0 a 50 (rowA [a, b, c, d]) (.tmp 21) rfl (by kernel_rfl) rfl (by kernel_rfl) (fun w hb => AtQ.under AQ0 hb) (rowA_part _ (i := 0) rfl), ok_val (by rfl) 23 (.pointer (some ⟨w.heap.size, 32, none⟩)) rfl (by kernel_rfl) (fun w => by kernel_rfl), ok_part (by rfl) 24 (w.heap.size) 32 b 50 (rowA [a, b, c, d]) (.tmp 23) rfl (by kernel_rfl) rfl (by kernel_rfl) (fun w hb => AtQ.under AQ0 hb) (rowA_part _ (i := 1) rfl), ok_call (by rfl) 25 16 Tryd.f16 _ (.func 16) [.tmp 22, .tmp 24] _ [.agg (numA a), .agg (numA b)] (.agg (numA t)) rfl (by kernel_rfl) rfl (by kernel_rfl) (by kernel_rfl) Tryd.func16 (by kernel_rfl) rfl C1.out, ok_new (by rfl) 5 rfl zero32 rfl makes_num, ok_new (by rfl) 6 rfl zero32 rfl makes_num, ok_put 10 s 5 20 (by rfl) rfl rfl (by kernel_rfl) (by rfl) (by kernel_rfl) (by kernel_rfl) (by kernel_rfl), ok_put 11 t 6 25 (by rfl) rfl rfl (by kernel_rfl) (by rfl) (by kernel_rfl) (by kernel_rfl) (by kernel_rfl), trivial⟩ ?_
  intro g1a g1b w1 hg1a hg1b hneg1a Ag1a Ag1b hbw1
  simp only [putAll, List.foldl_cons, List.foldl_nil, Act.put, List.setIfInBounds_toArray, List.set_cons_succ, List.set_cons_zero]
  clear C0 C1
  have AQ1 := AQ0.under hbw1
  have RR1 := RR0.under hbw1
  have QB1 := QB0.trans (hbw1.mono QB0.size)
  have AX0u := AX0.under hbw1
  clear AX0 AQ0 RR0 QB0 hbw1 hg1a hg1b hneg1a HPW
  have HPW : Kept _ := ⟨PrimeAt.below HP.out QB1⟩
  go_wp2_with fail
  obtain ⟨u1, eu1⟩ : ∃ u1, u1 = (c + d) % 57896044618658097711785492504343953926634992332820282019728792003956564819949 := ⟨_, rfl⟩
  have Eu1 : Kept (u1 = (c + d) % 57896044618658097711785492504343953926634992332820282019728792003956564819949) := ⟨eu1⟩
  have Lu1 : Kept (u1 < 115792089237316195423570985008687907853269984665640564039457584007913129639936) := ⟨by rw [eu1]; exact Nat.lt_trans (Nat.mod_lt _ (by decide)) (by decide)⟩
  clear eu1
  have C0 : Kept (∀ w, Below w1.heap.size w1 w → Calls Tryd.prog 14 [.agg (numA c), .agg (numA d)].toArray w fun e w2 => e = .returned (.agg (numA u1)) ∧ Below w.heap.size w w2) := ⟨fun w hb => by rw [Eu1.out]; exact rAdd_any c d w Lc.out Ld.out⟩
  obtain ⟨v, ev⟩ : ∃ v, v = u1 * t % 57896044618658097711785492504343953926634992332820282019728792003956564819949 := ⟨_, rfl⟩
  have Ev : Kept (v = u1 * t % 57896044618658097711785492504343953926634992332820282019728792003956564819949) := ⟨ev⟩
  have Lv : Kept (v < 115792089237316195423570985008687907853269984665640564039457584007913129639936) := ⟨by rw [ev]; exact Nat.lt_trans (Nat.mod_lt _ (by decide)) (by decide)⟩
  clear ev
  have C1 : Kept (∀ w, Below w1.heap.size w1 w → Calls Tryd.prog 18 [.agg (numA u1), .agg (numA t)].toArray w fun e w2 => e = .returned (.agg (numA v)) ∧ Below w.heap.size w w2) := ⟨fun w hb => by rw [Ev.out]; exact rMul_any u1 t w Lu1.out Lt.out⟩
  refine region_made1 (W0 := w1) [(26, .pointer (some ⟨w.heap.size, 64, none⟩)), (27, .agg (numA c)), (28, .pointer (some ⟨w.heap.size, 96, none⟩)), (29, .agg (numA d)), (30, .agg (numA u1)), (31, .agg (numA t)), (32, .agg (numA v))] 7 8 7 v (by kernel_rfl) (by kernel_rfl) (by kernel_rfl) (by kernel_rfl) (by kernel_rfl) (by kernel_rfl) (by kernel_rfl) (by kernel_rfl) (by kernel_rfl) (by kernel_rfl) (by kernel_rfl) (Below.refl _ _) ⟨ok_val (by rfl) 26 (.pointer (some ⟨w.heap.size, 64, none⟩)) rfl (by kernel_rfl) (fun w => by kernel_rfl), ok_part (by rfl) 27 (w.heap.size) 64 c 50 (rowA [a, b, c, d]) (.tmp 26) rfl (by kernel_rfl) rfl (by kernel_rfl) (fun w hb => AtQ.under AQ1 hb) (rowA_part _ (i := 2) rfl), ok_val (by rfl) 28 (.pointer (some ⟨w.heap.size, 96, none⟩)) rfl (by kernel_rfl) (fun w => by kernel_rfl), ok_part (by rfl) 29 (w.heap.size) 96 d 50 (rowA [a, b, c, d]) (.tmp 28) rfl (by kernel_rfl) rfl (by kernel_rfl) (fun w hb => AtQ.under AQ1 hb) (rowA_part _ (i := 3) rfl), ok_call (by rfl) 30 14 Tryd.f14 _ (.func 14) [.tmp 27, .tmp 29] _ [.agg (numA c), .agg (numA d)] (.agg (numA u1)) rfl (by kernel_rfl) rfl (by kernel_rfl) (by kernel_rfl) Tryd.func14 (by kernel_rfl) rfl C0.out, ok_get (by rfl) 31 (g1b) t (.tmp 6) rfl (by kernel_rfl) rfl (by kernel_rfl) (fun w hb => At.under Ag1b hb), ok_call (by rfl) 32 18 Tryd.f18 _ (.func 18) [.tmp 30, .tmp 31] _ [.agg (numA u1), .agg (numA t)] (.agg (numA v)) rfl (by kernel_rfl) rfl (by kernel_rfl) (by kernel_rfl) Tryd.func18 (by kernel_rfl) rfl C1.out, ok_new (by rfl) 7 rfl zero32 rfl makes_num, ok_put 7 v 7 32 (by rfl) rfl rfl (by kernel_rfl) (by rfl) (by kernel_rfl) (by kernel_rfl) (by kernel_rfl), trivial⟩ ?_
  intro g2a w2 hg2a Ag2a hbw2
  simp only [putAll, List.foldl_cons, List.foldl_nil, Act.put, List.setIfInBounds_toArray, List.set_cons_succ, List.set_cons_zero]
  clear C0 C1
  have AQ2 := AQ1.under hbw2
  have RR2 := RR1.under hbw2
  have QB2 := QB1.trans (hbw2.mono QB1.size)
  have AX0uu := AX0u.under hbw2
  have Ag1au := Ag1a.under hbw2
  have Ag1bu := Ag1b.under hbw2
  clear AX0u Ag1a Ag1b AQ1 RR1 QB1 hbw2 hg2a HPW
  have HPW : Kept _ := ⟨PrimeAt.below HP.out QB2⟩
  go_wp2_with fail
  obtain ⟨u2, eu2⟩ : ∃ u2, u2 = (c + (57896044618658097711785492504343953926634992332820282019728792003956564819949 - d % 57896044618658097711785492504343953926634992332820282019728792003956564819949)) % 57896044618658097711785492504343953926634992332820282019728792003956564819949 := ⟨_, rfl⟩
  have Eu2 : Kept (u2 = (c + (57896044618658097711785492504343953926634992332820282019728792003956564819949 - d % 57896044618658097711785492504343953926634992332820282019728792003956564819949)) % 57896044618658097711785492504343953926634992332820282019728792003956564819949) := ⟨eu2⟩
  have Lu2 : Kept (u2 < 115792089237316195423570985008687907853269984665640564039457584007913129639936) := ⟨by rw [eu2]; exact Nat.lt_trans (Nat.mod_lt _ (by decide)) (by decide)⟩
  clear eu2
  have C0 : Kept (∀ w, Below w2.heap.size w2 w → Calls Tryd.prog 16 [.agg (numA c), .agg (numA d)].toArray w fun e w2 => e = .returned (.agg (numA u2)) ∧ Below w.heap.size w w2) := ⟨fun w hb => by rw [Eu2.out]; exact rSub_any c d w Lc.out Ld.out⟩
  obtain ⟨z, ez⟩ : ∃ z, z = u2 * s % 57896044618658097711785492504343953926634992332820282019728792003956564819949 := ⟨_, rfl⟩
  have Ez : Kept (z = u2 * s % 57896044618658097711785492504343953926634992332820282019728792003956564819949) := ⟨ez⟩
  have Lz : Kept (z < 115792089237316195423570985008687907853269984665640564039457584007913129639936) := ⟨by rw [ez]; exact Nat.lt_trans (Nat.mod_lt _ (by decide)) (by decide)⟩
  clear ez
  have C1 : Kept (∀ w, Below w2.heap.size w2 w → Calls Tryd.prog 18 [.agg (numA u2), .agg (numA s)].toArray w fun e w2 => e = .returned (.agg (numA z)) ∧ Below w.heap.size w w2) := ⟨fun w hb => by rw [Ez.out]; exact rMul_any u2 s w Lu2.out Ls.out⟩
  refine region_made1 (W0 := w2) [(33, .pointer (some ⟨w.heap.size, 64, none⟩)), (34, .agg (numA c)), (35, .pointer (some ⟨w.heap.size, 96, none⟩)), (36, .agg (numA d)), (37, .agg (numA u2)), (38, .agg (numA s)), (39, .agg (numA z))] 7 8 8 z (by kernel_rfl) (by kernel_rfl) (by kernel_rfl) (by kernel_rfl) (by kernel_rfl) (by kernel_rfl) (by kernel_rfl) (by kernel_rfl) (by kernel_rfl) (by kernel_rfl) (by kernel_rfl) (Below.refl _ _) ⟨ok_val (by rfl) 33 (.pointer (some ⟨w.heap.size, 64, none⟩)) rfl (by kernel_rfl) (fun w => by kernel_rfl), ok_part (by rfl) 34 (w.heap.size) 64 c 50 (rowA [a, b, c, d]) (.tmp 33) rfl (by kernel_rfl) rfl (by kernel_rfl) (fun w hb => AtQ.under AQ2 hb) (rowA_part _ (i := 2) rfl), ok_val (by rfl) 35 (.pointer (some ⟨w.heap.size, 96, none⟩)) rfl (by kernel_rfl) (fun w => by kernel_rfl), ok_part (by rfl) 36 (w.heap.size) 96 d 50 (rowA [a, b, c, d]) (.tmp 35) rfl (by kernel_rfl) rfl (by kernel_rfl) (fun w hb => AtQ.under AQ2 hb) (rowA_part _ (i := 3) rfl), ok_call (by rfl) 37 16 Tryd.f16 _ (.func 16) [.tmp 34, .tmp 36] _ [.agg (numA c), .agg (numA d)] (.agg (numA u2)) rfl (by kernel_rfl) rfl (by kernel_rfl) (by kernel_rfl) Tryd.func16 (by kernel_rfl) rfl C0.out, ok_get (by rfl) 38 (g1a) s (.tmp 5) rfl (by kernel_rfl) rfl (by kernel_rfl) (fun w hb => At.under Ag1au hb), ok_call (by rfl) 39 18 Tryd.f18 _ (.func 18) [.tmp 37, .tmp 38] _ [.agg (numA u2), .agg (numA s)] (.agg (numA z)) rfl (by kernel_rfl) rfl (by kernel_rfl) (by kernel_rfl) Tryd.func18 (by kernel_rfl) rfl C1.out, ok_new (by rfl) 8 rfl zero32 rfl makes_num, ok_put 7 z 8 39 (by rfl) rfl rfl (by kernel_rfl) (by rfl) (by kernel_rfl) (by kernel_rfl) (by kernel_rfl), trivial⟩ ?_
  intro g3a w3 hg3a Ag3a hbw3
  simp only [putAll, List.foldl_cons, List.foldl_nil, Act.put, List.setIfInBounds_toArray, List.set_cons_succ, List.set_cons_zero]
  clear C0 C1
  have AQ3 := AQ2.under hbw3
  have RR3 := RR2.under hbw3
  have QB3 := QB2.trans (hbw3.mono QB2.size)
  have AX0uuu := AX0uu.under hbw3
  have Ag1auu := Ag1au.under hbw3
  have Ag1buu := Ag1bu.under hbw3
  have Ag2au := Ag2a.under hbw3
  clear AX0uu Ag1au Ag1bu Ag2a AQ2 RR2 QB2 hbw3 hg3a HPW
  have HPW : Kept _ := ⟨PrimeAt.below HP.out QB3⟩
  go_wp2_with fail
  obtain ⟨ss, ess⟩ : ∃ ss, ss = s * s % 57896044618658097711785492504343953926634992332820282019728792003956564819949 := ⟨_, rfl⟩
  have Ess : Kept (ss = s * s % 57896044618658097711785492504343953926634992332820282019728792003956564819949) := ⟨ess⟩
  have Lss : Kept (ss < 115792089237316195423570985008687907853269984665640564039457584007913129639936) := ⟨by rw [ess]; exact Nat.lt_trans (Nat.mod_lt _ (by decide)) (by decide)⟩
  clear ess
  have C0 : Kept (∀ w, Below w3.heap.size w3 w → Calls Tryd.prog 18 [.agg (numA s), .agg (numA s)].toArray w fun e w2 => e = .returned (.agg (numA ss)) ∧ Below w.heap.size w w2) := ⟨fun w hb => by rw [Ess.out]; exact rMul_any s s w Ls.out Ls.out⟩
  obtain ⟨tt, ett⟩ : ∃ tt, tt = t * t % 57896044618658097711785492504343953926634992332820282019728792003956564819949 := ⟨_, rfl⟩
  have Ett : Kept (tt = t * t % 57896044618658097711785492504343953926634992332820282019728792003956564819949) := ⟨ett⟩
  have Ltt : Kept (tt < 115792089237316195423570985008687907853269984665640564039457584007913129639936) := ⟨by rw [ett]; exact Nat.lt_trans (Nat.mod_lt _ (by decide)) (by decide)⟩
  clear ett
  have C1 : Kept (∀ w, Below w3.heap.size w3 w → Calls Tryd.prog 18 [.agg (numA t), .agg (numA t)].toArray w fun e w2 => e = .returned (.agg (numA tt)) ∧ Below w.heap.size w w2) := ⟨fun w hb => by rw [Ett.out]; exact rMul_any t t w Lt.out Lt.out⟩
  refine region_made2 (W0 := w3) [(40, .agg (numA s)), (41, .agg (numA s)), (42, .agg (numA ss)), (43, .agg (numA t)), (44, .agg (numA t)), (45, .agg (numA tt))] 6 7 8 9 9 10 ss tt (by kernel_rfl) (by kernel_rfl) (by kernel_rfl) (by kernel_rfl) (by kernel_rfl) (by kernel_rfl) (by kernel_rfl) (by kernel_rfl) (by kernel_rfl) (by kernel_rfl) (by kernel_rfl) (by kernel_rfl) (Below.refl _ _) ⟨ok_get (by rfl) 40 (g1a) s (.tmp 5) rfl (by kernel_rfl) rfl (by kernel_rfl) (fun w hb => At.under Ag1auu hb), ok_get (by rfl) 41 (g1a) s (.tmp 5) rfl (by kernel_rfl) rfl (by kernel_rfl) (fun w hb => At.under Ag1auu hb), ok_call (by rfl) 42 18 Tryd.f18 _ (.func 18) [.tmp 40, .tmp 41] _ [.agg (numA s), .agg (numA s)] (.agg (numA ss)) rfl (by kernel_rfl) rfl (by kernel_rfl) (by kernel_rfl) Tryd.func18 (by kernel_rfl) rfl C0.out, ok_get (by rfl) 43 (g1b) t (.tmp 6) rfl (by kernel_rfl) rfl (by kernel_rfl) (fun w hb => At.under Ag1buu hb), ok_get (by rfl) 44 (g1b) t (.tmp 6) rfl (by kernel_rfl) rfl (by kernel_rfl) (fun w hb => At.under Ag1buu hb), ok_call (by rfl) 45 18 Tryd.f18 _ (.func 18) [.tmp 43, .tmp 44] _ [.agg (numA t), .agg (numA t)] (.agg (numA tt)) rfl (by kernel_rfl) rfl (by kernel_rfl) (by kernel_rfl) Tryd.func18 (by kernel_rfl) rfl C1.out, ok_new (by rfl) 9 rfl zero32 rfl makes_num, ok_new (by rfl) 10 rfl zero32 rfl makes_num, ok_put 6 ss 9 42 (by rfl) rfl rfl (by kernel_rfl) (by rfl) (by kernel_rfl) (by kernel_rfl) (by kernel_rfl), ok_put 7 tt 10 45 (by rfl) rfl rfl (by kernel_rfl) (by rfl) (by kernel_rfl) (by kernel_rfl) (by kernel_rfl), trivial⟩ ?_
  intro g4a g4b w4 hg4a hg4b hneg4a Ag4a Ag4b hbw4
  simp only [putAll, List.foldl_cons, List.foldl_nil, Act.put, List.setIfInBounds_toArray, List.set_cons_succ, List.set_cons_zero]
  clear C0 C1
  have AQ4 := AQ3.under hbw4
  have RR4 := RR3.under hbw4
  have QB4 := QB3.trans (hbw4.mono QB3.size)
  have AX0uuuu := AX0uuu.under hbw4
  have Ag1auuu := Ag1auu.under hbw4
  have Ag1buuu := Ag1buu.under hbw4
  have Ag2auu := Ag2au.under hbw4
  have Ag3au := Ag3a.under hbw4
  clear AX0uuu Ag1auu Ag1buu Ag2au Ag3a AQ3 RR3 QB3 hbw4 hg4a hg4b hneg4a HPW
  have HPW : Kept _ := ⟨PrimeAt.below HP.out QB4⟩
  skip
  obtain ⟨e, ee⟩ : ∃ e, e = (ss + (57896044618658097711785492504343953926634992332820282019728792003956564819949 - tt % 57896044618658097711785492504343953926634992332820282019728792003956564819949)) % 57896044618658097711785492504343953926634992332820282019728792003956564819949 := ⟨_, rfl⟩
  have Ee : Kept (e = (ss + (57896044618658097711785492504343953926634992332820282019728792003956564819949 - tt % 57896044618658097711785492504343953926634992332820282019728792003956564819949)) % 57896044618658097711785492504343953926634992332820282019728792003956564819949) := ⟨ee⟩
  have Le : Kept (e < 115792089237316195423570985008687907853269984665640564039457584007913129639936) := ⟨by rw [ee]; exact Nat.lt_trans (Nat.mod_lt _ (by decide)) (by decide)⟩
  clear ee
  go_wp2_with (first | (refine wpList_get rfl (.tmp 9) rfl _ ss rfl Ag4a ?_) | (refine wpList_get rfl (.tmp 10) rfl _ tt rfl Ag4b ?_))
  have hc := rSub_any ss tt w4 Lss.out Ltt.out
  rw [← Ee.out] at hc
  refine hc.mono ?_
  clear hc
  rintro e w4c ⟨rfl, hbc⟩
  have AX0uuuuc := AX0uuuu.under hbc
  have Ag1auuuc := Ag1auuu.under hbc
  have Ag1buuuc := Ag1buuu.under hbc
  have Ag2auuc := Ag2auu.under hbc
  have Ag3auc := Ag3au.under hbc
  have Ag4ac := Ag4a.under hbc
  have Ag4bc := Ag4b.under hbc
  have AQc := AQ4.under hbc
  have RRc := RR4.under hbc
  have QBc := QB4.trans (hbc.mono QB4.size)
  clear hbc HPW AX0uuuu Ag1auuu Ag1buuu Ag2auu Ag3au Ag4a Ag4b AQ4 RR4 QB4
  go_wp2_with (first | (refine wpList_put rfl (.tmp 11) (.tmp 48) rfl _ e rfl rfl (room_top _ _ rfl) ?_))
  intro w5 A5 P5
  have AX0uuuup := P5.at (AX0uuuuc.alloc _) (Nat.ne_of_lt AX0uuuuc.lt)
  have Ag1auuup := P5.at (Ag1auuuc.alloc _) (Nat.ne_of_lt Ag1auuuc.lt)
  have Ag1buuup := P5.at (Ag1buuuc.alloc _) (Nat.ne_of_lt Ag1buuuc.lt)
  have Ag2auup := P5.at (Ag2auuc.alloc _) (Nat.ne_of_lt Ag2auuc.lt)
  have Ag3aup := P5.at (Ag3auc.alloc _) (Nat.ne_of_lt Ag3auc.lt)
  have Ag4ap := P5.at (Ag4ac.alloc _) (Nat.ne_of_lt Ag4ac.lt)
  have Ag4bp := P5.at (Ag4bc.alloc _) (Nat.ne_of_lt Ag4bc.lt)
  have AQ5 := P5.atQ (AQc.alloc _) (Nat.ne_of_lt AQc.lt)
  have RR5 := P5.roomQ (RRc.alloc _) (Nat.ne_of_lt RRc.lt)
  have QB5 : Below w.heap.size w w5 := (QBc.alloc QBc.size _).trans (P5.below QBc.size)
  clear AX0uuuuc Ag1auuuc Ag1buuuc Ag2auuc Ag3auc Ag4ac Ag4bc AQc RRc QBc P5
  generalize w4c.heap.size = g5 at *
  have HPW : Kept _ := ⟨PrimeAt.below HP.out QB5⟩
  skip
  have AX0uuuupc := AX0uuuup
  have Ag1auuupc := Ag1auuup
  have Ag1buuupc := Ag1buuup
  have Ag2auupc := Ag2auup
  have Ag3aupc := Ag3aup
  have Ag4apc := Ag4ap
  have Ag4bpc := Ag4bp
  have A5c := A5
  have AQc := AQ5
  have RRc := RR5
  have QBc := QB5
  clear HPW AX0uuuup Ag1auuup Ag1buuup Ag2auup Ag3aup Ag4ap Ag4bp A5 AQ5 RR5 QB5
  go_wp2_with (first | (refine l_curve rfl rfl ?_; simp only [Act.put, List.setIfInBounds_toArray, List.set_cons_succ, List.set_cons_zero]) | (refine wpList_put rfl (.tmp 12) (.tmp 49) rfl _ 121665 rfl rfl (room_top _ _ rfl) ?_))
  intro w6 A6 P6
  have AX0uuuupp := P6.at (AX0uuuupc.alloc _) (Nat.ne_of_lt AX0uuuupc.lt)
  have Ag1auuupp := P6.at (Ag1auuupc.alloc _) (Nat.ne_of_lt Ag1auuupc.lt)
  have Ag1buuupp := P6.at (Ag1buuupc.alloc _) (Nat.ne_of_lt Ag1buuupc.lt)
  have Ag2auupp := P6.at (Ag2auupc.alloc _) (Nat.ne_of_lt Ag2auupc.lt)
  have Ag3aupp := P6.at (Ag3aupc.alloc _) (Nat.ne_of_lt Ag3aupc.lt)
  have Ag4app := P6.at (Ag4apc.alloc _) (Nat.ne_of_lt Ag4apc.lt)
  have Ag4bpp := P6.at (Ag4bpc.alloc _) (Nat.ne_of_lt Ag4bpc.lt)
  have A5p := P6.at (A5c.alloc _) (Nat.ne_of_lt A5c.lt)
  have AQ6 := P6.atQ (AQc.alloc _) (Nat.ne_of_lt AQc.lt)
  have RR6 := P6.roomQ (RRc.alloc _) (Nat.ne_of_lt RRc.lt)
  have QB6 : Below w.heap.size w w6 := (QBc.alloc QBc.size _).trans (P6.below QBc.size)
  clear AX0uuuupc Ag1auuupc Ag1buuupc Ag2auupc Ag3aupc Ag4apc Ag4bpc A5c AQc RRc QBc P6
  generalize w5.heap.size = g6 at *
  have HPW : Kept _ := ⟨PrimeAt.below HP.out QB6⟩
  go_wp2_with fail
  obtain ⟨m1, em1⟩ : ∃ m1, m1 = 121665 * e % 57896044618658097711785492504343953926634992332820282019728792003956564819949 := ⟨_, rfl⟩
  have Em1 : Kept (m1 = 121665 * e % 57896044618658097711785492504343953926634992332820282019728792003956564819949) := ⟨em1⟩
  have Lm1 : Kept (m1 < 115792089237316195423570985008687907853269984665640564039457584007913129639936) := ⟨by rw [em1]; exact Nat.lt_trans (Nat.mod_lt _ (by decide)) (by decide)⟩
  clear em1
  have C0 : Kept (∀ w, Below w6.heap.size w6 w → Calls Tryd.prog 18 [.agg (numA 121665), .agg (numA e)].toArray w fun e w2 => e = .returned (.agg (numA m1)) ∧ Below w.heap.size w w2) := ⟨fun w hb => by rw [Em1.out]; exact rMul_any 121665 e w (by decide) Le.out⟩
  obtain ⟨f, ef⟩ : ∃ f, f = (ss + m1) % 57896044618658097711785492504343953926634992332820282019728792003956564819949 := ⟨_, rfl⟩
  have Ef : Kept (f = (ss + m1) % 57896044618658097711785492504343953926634992332820282019728792003956564819949) := ⟨ef⟩
  have Lf : Kept (f < 115792089237316195423570985008687907853269984665640564039457584007913129639936) := ⟨by rw [ef]; exact Nat.lt_trans (Nat.mod_lt _ (by decide)) (by decide)⟩
  clear ef
  have C1 : Kept (∀ w, Below w6.heap.size w6 w → Calls Tryd.prog 14 [.agg (numA ss), .agg (numA m1)].toArray w fun e w2 => e = .returned (.agg (numA f)) ∧ Below w.heap.size w w2) := ⟨fun w hb => by rw [Ef.out]; exact rAdd_any ss m1 w Lss.out Lm1.out⟩
  refine region_made1 (W0 := w6) [(50, .agg (numA ss)), (51, .agg (numA 121665)), (52, .agg (numA e)), (53, .agg (numA m1)), (54, .agg (numA f))] 5 6 13 f (by kernel_rfl) (by kernel_rfl) (by kernel_rfl) (by kernel_rfl) (by kernel_rfl) (by kernel_rfl) (by kernel_rfl) (by kernel_rfl) (by kernel_rfl) (by kernel_rfl) (by kernel_rfl) (Below.refl _ _) ⟨ok_get (by rfl) 50 (g4a) ss (.tmp 9) rfl (by kernel_rfl) rfl (by kernel_rfl) (fun w hb => At.under Ag4app hb), ok_get (by rfl) 51 (g6) 121665 (.tmp 12) rfl (by kernel_rfl) rfl (by kernel_rfl) (fun w hb => At.under A6 hb), ok_get (by rfl) 52 (g5) e (.tmp 11) rfl (by kernel_rfl) rfl (by kernel_rfl) (fun w hb => At.under A5p hb), ok_call (by rfl) 53 18 Tryd.f18 _ (.func 18) [.tmp 51, .tmp 52] _ [.agg (numA 121665), .agg (numA e)] (.agg (numA m1)) rfl (by kernel_rfl) rfl (by kernel_rfl) (by kernel_rfl) Tryd.func18 (by kernel_rfl) rfl C0.out, ok_call (by rfl) 54 14 Tryd.f14 _ (.func 14) [.tmp 50, .tmp 53] _ [.agg (numA ss), .agg (numA m1)] (.agg (numA f)) rfl (by kernel_rfl) rfl (by kernel_rfl) (by kernel_rfl) Tryd.func14 (by kernel_rfl) rfl C1.out, ok_new (by rfl) 13 rfl zero32 rfl makes_num, ok_put 5 f 13 54 (by rfl) rfl rfl (by kernel_rfl) (by rfl) (by kernel_rfl) (by kernel_rfl) (by kernel_rfl), trivial⟩ ?_
  intro g7a w7 hg7a Ag7a hbw7
  simp only [putAll, List.foldl_cons, List.foldl_nil, Act.put, List.setIfInBounds_toArray, List.set_cons_succ, List.set_cons_zero]
  clear C0 C1
  have AQ7 := AQ6.under hbw7
  have RR7 := RR6.under hbw7
  have QB7 := QB6.trans (hbw7.mono QB6.size)
  have AX0uuuuppu := AX0uuuupp.under hbw7
  have Ag1auuuppu := Ag1auuupp.under hbw7
  have Ag1buuuppu := Ag1buuupp.under hbw7
  have Ag2auuppu := Ag2auupp.under hbw7
  have Ag3auppu := Ag3aupp.under hbw7
  have Ag4appu := Ag4app.under hbw7
  have Ag4bppu := Ag4bpp.under hbw7
  have A5pu := A5p.under hbw7
  have A6u := A6.under hbw7
  clear AX0uuuupp Ag1auuupp Ag1buuupp Ag2auupp Ag3aupp Ag4app Ag4bpp A5p A6 AQ6 RR6 QB6 hbw7 hg7a HPW
  have HPW : Kept _ := ⟨PrimeAt.below HP.out QB7⟩
  go_wp2_with fail
  obtain ⟨m, em⟩ : ∃ m, m = (v + z) % 57896044618658097711785492504343953926634992332820282019728792003956564819949 := ⟨_, rfl⟩
  have Em : Kept (m = (v + z) % 57896044618658097711785492504343953926634992332820282019728792003956564819949) := ⟨em⟩
  have Lm : Kept (m < 115792089237316195423570985008687907853269984665640564039457584007913129639936) := ⟨by rw [em]; exact Nat.lt_trans (Nat.mod_lt _ (by decide)) (by decide)⟩
  clear em
  have C0 : Kept (∀ w, Below w7.heap.size w7 w → Calls Tryd.prog 14 [.agg (numA v), .agg (numA z)].toArray w fun e w2 => e = .returned (.agg (numA m)) ∧ Below w.heap.size w w2) := ⟨fun w hb => by rw [Em.out]; exact rAdd_any v z w Lv.out Lz.out⟩
  obtain ⟨n, en⟩ : ∃ n, n = (v + (57896044618658097711785492504343953926634992332820282019728792003956564819949 - z % 57896044618658097711785492504343953926634992332820282019728792003956564819949)) % 57896044618658097711785492504343953926634992332820282019728792003956564819949 := ⟨_, rfl⟩
  have En : Kept (n = (v + (57896044618658097711785492504343953926634992332820282019728792003956564819949 - z % 57896044618658097711785492504343953926634992332820282019728792003956564819949)) % 57896044618658097711785492504343953926634992332820282019728792003956564819949) := ⟨en⟩
  have Ln : Kept (n < 115792089237316195423570985008687907853269984665640564039457584007913129639936) := ⟨by rw [en]; exact Nat.lt_trans (Nat.mod_lt _ (by decide)) (by decide)⟩
  clear en
  have C1 : Kept (∀ w, Below w7.heap.size w7 w → Calls Tryd.prog 16 [.agg (numA v), .agg (numA z)].toArray w fun e w2 => e = .returned (.agg (numA n)) ∧ Below w.heap.size w w2) := ⟨fun w hb => by rw [En.out]; exact rSub_any v z w Lv.out Lz.out⟩
  refine region_made2 (W0 := w7) [(55, .agg (numA v)), (56, .agg (numA z)), (57, .agg (numA m)), (58, .agg (numA v)), (59, .agg (numA z)), (60, .agg (numA n))] 6 7 8 9 14 15 m n (by kernel_rfl) (by kernel_rfl) (by kernel_rfl) (by kernel_rfl) (by kernel_rfl) (by kernel_rfl) (by kernel_rfl) (by kernel_rfl) (by kernel_rfl) (by kernel_rfl) (by kernel_rfl) (by kernel_rfl) (Below.refl _ _) ⟨ok_get (by rfl) 55 (g2a) v (.tmp 7) rfl (by kernel_rfl) rfl (by kernel_rfl) (fun w hb => At.under Ag2auuppu hb), ok_get (by rfl) 56 (g3a) z (.tmp 8) rfl (by kernel_rfl) rfl (by kernel_rfl) (fun w hb => At.under Ag3auppu hb), ok_call (by rfl) 57 14 Tryd.f14 _ (.func 14) [.tmp 55, .tmp 56] _ [.agg (numA v), .agg (numA z)] (.agg (numA m)) rfl (by kernel_rfl) rfl (by kernel_rfl) (by kernel_rfl) Tryd.func14 (by kernel_rfl) rfl C0.out, ok_get (by rfl) 58 (g2a) v (.tmp 7) rfl (by kernel_rfl) rfl (by kernel_rfl) (fun w hb => At.under Ag2auuppu hb), ok_get (by rfl) 59 (g3a) z (.tmp 8) rfl (by kernel_rfl) rfl (by kernel_rfl) (fun w hb => At.under Ag3auppu hb), ok_call (by rfl) 60 16 Tryd.f16 _ (.func 16) [.tmp 58, .tmp 59] _ [.agg (numA v), .agg (numA z)] (.agg (numA n)) rfl (by kernel_rfl) rfl (by kernel_rfl) (by kernel_rfl) Tryd.func16 (by kernel_rfl) rfl C1.out, ok_new (by rfl) 14 rfl zero32 rfl makes_num, ok_new (by rfl) 15 rfl zero32 rfl makes_num, ok_put 6 m 14 57 (by rfl) rfl rfl (by kernel_rfl) (by rfl) (by kernel_rfl) (by kernel_rfl) (by kernel_rfl), ok_put 7 n 15 60 (by rfl) rfl rfl (by kernel_rfl) (by rfl) (by kernel_rfl) (by kernel_rfl) (by kernel_rfl), trivial⟩ ?_
  intro g8a g8b w8 hg8a hg8b hneg8a Ag8a Ag8b hbw8
  simp only [putAll, List.foldl_cons, List.foldl_nil, Act.put, List.setIfInBounds_toArray, List.set_cons_succ, List.set_cons_zero]
  clear C0 C1
  have AQ8 := AQ7.under hbw8
  have RR8 := RR7.under hbw8
  have QB8 := QB7.trans (hbw8.mono QB7.size)
  have AX0uuuuppuu := AX0uuuuppu.under hbw8
  have Ag1auuuppuu := Ag1auuuppu.under hbw8
  have Ag1buuuppuu := Ag1buuuppu.under hbw8
  have Ag2auuppuu := Ag2auuppu.under hbw8
  have Ag3auppuu := Ag3auppu.under hbw8
  have Ag4appuu := Ag4appu.under hbw8
  have Ag4bppuu := Ag4bppu.under hbw8
  have A5puu := A5pu.under hbw8
  have A6uu := A6u.under hbw8
  have Ag7au := Ag7a.under hbw8
  clear AX0uuuuppu Ag1auuuppu Ag1buuuppu Ag2auuppu Ag3auppu Ag4appu Ag4bppu A5pu A6u Ag7a AQ7 RR7 QB7 hbw8 hg8a hg8b hneg8a HPW
  have HPW : Kept _ := ⟨PrimeAt.below HP.out QB8⟩
  go_wp2_with fail
  obtain ⟨a1, ea1⟩ : ∃ a1, a1 = ss * tt % 57896044618658097711785492504343953926634992332820282019728792003956564819949 := ⟨_, rfl⟩
  have Ea1 : Kept (a1 = ss * tt % 57896044618658097711785492504343953926634992332820282019728792003956564819949) := ⟨ea1⟩
  have La1 : Kept (a1 < 115792089237316195423570985008687907853269984665640564039457584007913129639936) := ⟨by rw [ea1]; exact Nat.lt_trans (Nat.mod_lt _ (by decide)) (by decide)⟩
  clear ea1
  have D0 : Kept (∀ w', Below w8.heap.size w8 w' → Calls Tryd.prog 18 [.agg (numA ss), .agg (numA tt)].toArray w' fun e w2 => e = .returned (.agg (numA a1)) ∧ Below w8.heap.size w8 w2) := ⟨fun w' hb => by rw [Ea1.out]; exact (rMul_any ss tt w' Lss.out Ltt.out).mono fun e w2 hh => ⟨hh.1, hb.trans (hh.2.mono hb.size)⟩⟩
  obtain ⟨b1, eb1⟩ : ∃ b1, b1 = e * f % 57896044618658097711785492504343953926634992332820282019728792003956564819949 := ⟨_, rfl⟩
  have Eb1 : Kept (b1 = e * f % 57896044618658097711785492504343953926634992332820282019728792003956564819949) := ⟨eb1⟩
  have Lb1 : Kept (b1 < 115792089237316195423570985008687907853269984665640564039457584007913129639936) := ⟨by rw [eb1]; exact Nat.lt_trans (Nat.mod_lt _ (by decide)) (by decide)⟩
  clear eb1
  have D1 : Kept (∀ w', Below w8.heap.size w8 w' → Calls Tryd.prog 18 [.agg (numA e), .agg (numA f)].toArray w' fun e w2 => e = .returned (.agg (numA b1)) ∧ Below w8.heap.size w8 w2) := ⟨fun w' hb => by rw [Eb1.out]; exact (rMul_any e f w' Le.out Lf.out).mono fun e w2 hh => ⟨hh.1, hb.trans (hh.2.mono hb.size)⟩⟩
  obtain ⟨c1, ec1⟩ : ∃ c1, c1 = m * m % 57896044618658097711785492504343953926634992332820282019728792003956564819949 := ⟨_, rfl⟩
  have Ec1 : Kept (c1 = m * m % 57896044618658097711785492504343953926634992332820282019728792003956564819949) := ⟨ec1⟩
  have Lc1 : Kept (c1 < 115792089237316195423570985008687907853269984665640564039457584007913129639936) := ⟨by rw [ec1]; exact Nat.lt_trans (Nat.mod_lt _ (by decide)) (by decide)⟩
  clear ec1
  have D2 : Kept (∀ w', Below w8.heap.size w8 w' → Calls Tryd.prog 18 [.agg (numA m), .agg (numA m)].toArray w' fun e w2 => e = .returned (.agg (numA c1)) ∧ Below w8.heap.size w8 w2) := ⟨fun w' hb => by rw [Ec1.out]; exact (rMul_any m m w' Lm.out Lm.out).mono fun e w2 hh => ⟨hh.1, hb.trans (hh.2.mono hb.size)⟩⟩
  obtain ⟨q3, eq3⟩ : ∃ q3, q3 = n * n % 57896044618658097711785492504343953926634992332820282019728792003956564819949 := ⟨_, rfl⟩
  have Eq3 : Kept (q3 = n * n % 57896044618658097711785492504343953926634992332820282019728792003956564819949) := ⟨eq3⟩
  have Lq3 : Kept (q3 < 115792089237316195423570985008687907853269984665640564039457584007913129639936) := ⟨by rw [eq3]; exact Nat.lt_trans (Nat.mod_lt _ (by decide)) (by decide)⟩
  clear eq3
  have D3 : Kept (∀ w', Below w8.heap.size w8 w' → Calls Tryd.prog 18 [.agg (numA n), .agg (numA n)].toArray w' fun e w2 => e = .returned (.agg (numA q3)) ∧ Below w8.heap.size w8 w2) := ⟨fun w' hb => by rw [Eq3.out]; exact (rMul_any n n w' Ln.out Ln.out).mono fun e w2 hh => ⟨hh.1, hb.trans (hh.2.mono hb.size)⟩⟩
  obtain ⟨d1, ed1⟩ : ∃ d1, d1 = x * q3 % 57896044618658097711785492504343953926634992332820282019728792003956564819949 := ⟨_, rfl⟩
  have Ed1 : Kept (d1 = x * q3 % 57896044618658097711785492504343953926634992332820282019728792003956564819949) := ⟨ed1⟩
  have Ld1 : Kept (d1 < 115792089237316195423570985008687907853269984665640564039457584007913129639936) := ⟨by rw [ed1]; exact Nat.lt_trans (Nat.mod_lt _ (by decide)) (by decide)⟩
  clear ed1
  have D4 : Kept (∀ w', Below w8.heap.size w8 w' → Calls Tryd.prog 18 [.agg (numA x), .agg (numA q3)].toArray w' fun e w2 => e = .returned (.agg (numA d1)) ∧ Below w8.heap.size w8 w2) := ⟨fun w' hb => by rw [Ed1.out]; exact (rMul_any x q3 w' Lx.out Lq3.out).mono fun e w2 hh => ⟨hh.1, hb.trans (hh.2.mono hb.size)⟩⟩
  have KF : Kept (r = [a1, b1, c1, d1]) := ⟨by rw [KR.out]; obtain ⟨hs⟩ := Es; obtain ⟨ht⟩ := Et; obtain ⟨hu1⟩ := Eu1; obtain ⟨hv⟩ := Ev; obtain ⟨hu2⟩ := Eu2; obtain ⟨hz⟩ := Ez; obtain ⟨hss⟩ := Ess; obtain ⟨htt⟩ := Ett; obtain ⟨he⟩ := Ee; obtain ⟨hm1⟩ := Em1; obtain ⟨hf⟩ := Ef; obtain ⟨hm⟩ := Em; obtain ⟨hn⟩ := En; obtain ⟨ha1⟩ := Ea1; obtain ⟨hb1⟩ := Eb1; obtain ⟨hc1⟩ := Ec1; obtain ⟨hq3⟩ := Eq3; obtain ⟨hd1⟩ := Ed1; subst hd1 hq3 hc1 hb1 ha1 hn hm hf hm1 he htt hss hz hu2 hv hu1 ht hs; rfl⟩
  refine wp_region_quiet_cut (C := fun w' => Below w8.heap.size w8 w') 15 rfl (by kernel_rfl) (by kernel_rfl) (by kernel_rfl) (by kernel_rfl) (by kernel_rfl) (Below.drew (Below.refl _ _)) ?_
  dsimp only [List.take_succ_cons, List.take_zero]
  refine q_load (by kernel_rfl) 22 _ (g4a) 22 (numA ss) (0, 0) _ rfl (by kernel_rfl) (fun w' hb => At.under Ag4appuu hb) Tryd.underlying22 rfl (by rw [numA_size]; kernel_rfl) ?_
  simp only [Act.put, List.setIfInBounds_toArray, List.set_cons_succ, List.set_cons_zero]
  refine q_load (by kernel_rfl) 22 _ (g4b) 22 (numA tt) (0, 0) _ rfl (by kernel_rfl) (fun w' hb => At.under Ag4bppuu hb) Tryd.underlying22 rfl (by rw [numA_size]; kernel_rfl) ?_
  simp only [Act.put, List.setIfInBounds_toArray, List.set_cons_succ, List.set_cons_zero]
  refine q_callx (by kernel_rfl) 18 Tryd.f18 _ (.func 18) [.tmp 61, .tmp 62] _ [.agg (numA ss), .agg (numA tt)] (.agg (numA a1)) rfl (by kernel_rfl) (by kernel_rfl) Tryd.func18 (by kernel_rfl) rfl D0.out ?_
  simp only [Act.put, List.setIfInBounds_toArray, List.set_cons_succ, List.set_cons_zero]
  refine q_load (by kernel_rfl) 22 _ (g5) 22 (numA e) (0, 0) _ rfl (by kernel_rfl) (fun w' hb => At.under A5puu hb) Tryd.underlying22 rfl (by rw [numA_size]; kernel_rfl) ?_
  simp only [Act.put, List.setIfInBounds_toArray, List.set_cons_succ, List.set_cons_zero]
  refine q_load (by kernel_rfl) 22 _ (g7a) 22 (numA f) (0, 0) _ rfl (by kernel_rfl) (fun w' hb => At.under Ag7au hb) Tryd.underlying22 rfl (by rw [numA_size]; kernel_rfl) ?_
  simp only [Act.put, List.setIfInBounds_toArray, List.set_cons_succ, List.set_cons_zero]
  refine q_callx (by kernel_rfl) 18 Tryd.f18 _ (.func 18) [.tmp 64, .tmp 65] _ [.agg (numA e), .agg (numA f)] (.agg (numA b1)) rfl (by kernel_rfl) (by kernel_rfl) Tryd.func18 (by kernel_rfl) rfl D1.out ?_
  simp only [Act.put, List.setIfInBounds_toArray, List.set_cons_succ, List.set_cons_zero]
  refine q_load (by kernel_rfl) 22 _ (g8a) 22 (numA m) (0, 0) _ rfl (by kernel_rfl) (fun w' hb => At.under Ag8a hb) Tryd.underlying22 rfl (by rw [numA_size]; kernel_rfl) ?_
  simp only [Act.put, List.setIfInBounds_toArray, List.set_cons_succ, List.set_cons_zero]
  refine q_load (by kernel_rfl) 22 _ (g8a) 22 (numA m) (0, 0) _ rfl (by kernel_rfl) (fun w' hb => At.under Ag8a hb) Tryd.underlying22 rfl (by rw [numA_size]; kernel_rfl) ?_
  simp only [Act.put, List.setIfInBounds_toArray, List.set_cons_succ, List.set_cons_zero]
  refine q_callx (by kernel_rfl) 18 Tryd.f18 _ (.func 18) [.tmp 67, .tmp 68] _ [.agg (numA m), .agg (numA m)] (.agg (numA c1)) rfl (by kernel_rfl) (by kernel_rfl) Tryd.func18 (by kernel_rfl) rfl D2.out ?_
  simp only [Act.put, List.setIfInBounds_toArray, List.set_cons_succ, List.set_cons_zero]
  refine q_load (by kernel_rfl) 22 _ (w.heap.size + 1) 22 (numA x) (0, 0) _ rfl (by kernel_rfl) (fun w' hb => At.under AX0uuuuppuu hb) Tryd.underlying22 rfl (by rw [numA_size]; kernel_rfl) ?_
  simp only [Act.put, List.setIfInBounds_toArray, List.set_cons_succ, List.set_cons_zero]
  refine q_load (by kernel_rfl) 22 _ (g8b) 22 (numA n) (0, 0) _ rfl (by kernel_rfl) (fun w' hb => At.under Ag8b hb) Tryd.underlying22 rfl (by rw [numA_size]; kernel_rfl) ?_
  simp only [Act.put, List.setIfInBounds_toArray, List.set_cons_succ, List.set_cons_zero]
  refine q_load (by kernel_rfl) 22 _ (g8b) 22 (numA n) (0, 0) _ rfl (by kernel_rfl) (fun w' hb => At.under Ag8b hb) Tryd.underlying22 rfl (by rw [numA_size]; kernel_rfl) ?_
  simp only [Act.put, List.setIfInBounds_toArray, List.set_cons_succ, List.set_cons_zero]
  refine q_callx (by kernel_rfl) 18 Tryd.f18 _ (.func 18) [.tmp 71, .tmp 72] _ [.agg (numA n), .agg (numA n)] (.agg (numA q3)) rfl (by kernel_rfl) (by kernel_rfl) Tryd.func18 (by kernel_rfl) rfl D3.out ?_
  simp only [Act.put, List.setIfInBounds_toArray, List.set_cons_succ, List.set_cons_zero]
  refine q_callx (by kernel_rfl) 18 Tryd.f18 _ (.func 18) [.tmp 70, .tmp 73] _ [.agg (numA x), .agg (numA q3)] (.agg (numA d1)) rfl (by kernel_rfl) (by kernel_rfl) Tryd.func18 (by kernel_rfl) rfl D4.out ?_
  simp only [Act.put, List.setIfInBounds_toArray, List.set_cons_succ, List.set_cons_zero]
  refine q_val (by kernel_rfl) (.agg (rowA [a1, b1, c1, d1])) (fun w' => by kernel_rfl) ?_
  simp only [Act.put, List.setIfInBounds_toArray, List.set_cons_succ, List.set_cons_zero]
  refine wpQuiet_nil ?_
  intro wz hz
  have RZ := RR8.under hz
  have QZ := QB8.trans (hz.mono QB8.size)
  refine wpList_qput iQ2 rfl (.tmp 4) (.tmp 75) rfl (w.heap.size + 1 + 1) a1 b1 c1 d1 (by kernel_rfl) (by kernel_rfl) RZ ?_
  intro wy AY PY
  have QY : Below w.heap.size w wy := QZ.trans (PY.below (by omega))
  clear hz PY RZ QZ HPW D0 D1 D2 D3 D4 AX0uuuuppuu Ag1auuuppuu Ag1buuuppuu Ag2auuppuu Ag3auppuu Ag4appuu Ag4bppuu A5puu A6uu Ag7au Ag8a Ag8b AQ8 RR8 QB8
  go_wp2_with fail
  rw [KF.out]
  exact bodyPost_ret (v := .agg (rowA [a1, b1, c1, d1])) (ret_quad Tryd.underlying50 iQ2 Tryd.results42 _ _ _ a1 b1 c1 d1 rfl AY) rfl ⟨rfl, QY⟩
end Go.Proofs.YtanfjkmkfcekmaaDoor
