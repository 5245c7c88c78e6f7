/-
  General pieces, joined: ND.
-/
import Derived.Test.YtjkdonjcngmjeaaDoorG07
import Derived.Test.YtjkdonjcngmjeaaDoorG34
/-
  What the ladder's step answers, whatever limb.prime holds.
-/
namespace Go.Proofs.YtjkdonjcngmjeaaDoor
open Go Go.RowKit
set_option linter.unusedVariables false
set_option linter.unusedSimpArgs false
set_option maxRecDepth 100000

def nSubP (pA pB pC pD : Nat) (a b : Nat) : Nat := (a + negN pA pB pC pD b) % 57896044618658097711785492504343953926634992332820282019728792003956564819949
def stepP (pA pB pC pD : Nat) (a b c d x : Nat) : List Nat :=
  let s := nAdd a b
  let t := nSubP pA pB pC pD a b
  let v := nMul (nAdd c d) t
  let w := nMul (nSubP pA pB pC pD c d) s
  let ss := nMul s s
  let tt := nMul t t
  let e := nSubP pA pB pC pD ss tt
  let m := nAdd v w
  let n := nSubP pA pB pC pD v w
  [nMul ss tt, nMul e (nAdd ss (nMul 121665 e)), nMul m m, nMul x (nMul n n)]

set_option maxHeartbeats 2000000 in
theorem rungP_any (pA pB pC pD : Nat) (a b c d x : Nat) (w : World) (la : a < 115792089237316195423570985008687907853269984665640564039457584007913129639936) (lb : b < 115792089237316195423570985008687907853269984665640564039457584007913129639936) (lc : c < 115792089237316195423570985008687907853269984665640564039457584007913129639936) (ld : d < 115792089237316195423570985008687907853269984665640564039457584007913129639936) (lx : x < 115792089237316195423570985008687907853269984665640564039457584007913129639936) (hp : PrimeP pA pB pC pD w) :
    Calls Tryd.prog 81 #[.agg (rowA [a, b, c, d]), .agg (numA x)] w fun e w' => e = .returned (.agg (rowA (stepP pA pB pC pD a b c d x))) ∧ Below w.heap.size w w' := by
  obtain ⟨r, hr⟩ : ∃ r, r = stepP pA pB pC pD a b c d x := ⟨_, rfl⟩
  rw [← hr]
  have KR : Kept _ := ⟨hr⟩
  have La : Kept _ := ⟨la⟩
  have Lb : Kept _ := ⟨lb⟩
  have Lc : Kept _ := ⟨lc⟩
  have Ld : Kept _ := ⟨ld⟩
  have Lx : Kept _ := ⟨lx⟩
  have HP : Kept _ := ⟨hp⟩
  clear la lb lc ld lx hp hr
  go_enter Tryd.func81, Tryd.ntmps81
  go_wp2_with fail
  generalize hW : ((w.alloc (.cells (rowA [a, b, c, d]) 133)).alloc (.cells (numA x) 22)).alloc (.cells Tryd.zeroCells133 133) = w0
  obtain ⟨AQ0, AX0, RR0, QB0⟩ := quad_start 133 w a b c d x Tryd.zeroCells133 (by kernel_rfl) w0 hW
  clear hW
  have HPW : Kept _ := ⟨PrimeP.below HP.out QB0⟩
  obtain ⟨s, es⟩ : ∃ s, s = (a + b) % 57896044618658097711785492504343953926634992332820282019728792003956564819949 := ⟨_, rfl⟩
  have Es : Kept (s = (a + b) % 57896044618658097711785492504343953926634992332820282019728792003956564819949) := ⟨es⟩
  have Ls : Kept (s < 115792089237316195423570985008687907853269984665640564039457584007913129639936) := ⟨by rw [es]; exact Nat.lt_trans (Nat.mod_lt _ (by decide)) (by decide)⟩
  clear es
  have C0 : Kept (∀ w, Below w0.heap.size w0 w → Calls Tryd.prog 89 [.agg (numA a), .agg (numA b)].toArray w fun e w2 => e = .returned (.agg (numA s)) ∧ Below w.heap.size w w2) := ⟨fun w hb => by rw [Es.out]; exact Add_any a b w La.out Lb.out⟩
  obtain ⟨t, et⟩ : ∃ t, t = (a + (negN pA pB pC pD b)) % 57896044618658097711785492504343953926634992332820282019728792003956564819949 := ⟨_, rfl⟩
  have Et : Kept (t = (a + (negN pA pB pC pD b)) % 57896044618658097711785492504343953926634992332820282019728792003956564819949) := ⟨et⟩
  have Lt : Kept (t < 115792089237316195423570985008687907853269984665640564039457584007913129639936) := ⟨by rw [et]; exact Nat.lt_trans (Nat.mod_lt _ (by decide)) (by decide)⟩
  clear et
  have C1 : Kept (∀ w, Below w0.heap.size w0 w → Calls Tryd.prog 90 [.agg (numA a), .agg (numA b)].toArray w fun e w2 => e = .returned (.agg (numA t)) ∧ Below w.heap.size w w2) := ⟨fun w hb => by rw [Et.out]; exact SubP_any pA pB pC pD a b w La.out Lb.out (PrimeP.below HPW.out hb)⟩
  refine region_made2 (W0 := w0) [(13, .pointer (some ⟨w.heap.size, 0, none⟩)), (14, .agg (numA a)), (15, .pointer (some ⟨w.heap.size, 32, none⟩)), (16, .agg (numA b)), (17, .agg (numA s)), (18, .pointer (some ⟨w.heap.size, 0, none⟩)), (19, .agg (numA a)), (20, .pointer (some ⟨w.heap.size, 32, none⟩)), (21, .agg (numA b)), (22, .agg (numA t))] 10 11 12 13 6 7 s t (by kernel_rfl) (by kernel_rfl) (by kernel_rfl) (by kernel_rfl) (by kernel_rfl) (by kernel_rfl) (by kernel_rfl) (by kernel_rfl) (by kernel_rfl) (by kernel_rfl) (by kernel_rfl) (by kernel_rfl) (Below.refl _ _) ⟨ok_val (by rfl) 13 (.pointer (some ⟨w.heap.size, 0, none⟩)) rfl (by kernel_rfl) (fun w => by kernel_rfl), ok_part (by rfl) 14 (w.heap.size) 0 a 133 (rowA [a, b, c, d]) (.tmp 13) rfl (by kernel_rfl) rfl (by kernel_rfl) (fun w hb => AtQ.under AQ0 hb) (rowA_part _ (i := 0) rfl), ok_val (by rfl) 15 (.pointer (some ⟨w.heap.size, 32, none⟩)) rfl (by kernel_rfl) (fun w => by kernel_rfl), ok_part (by rfl) 16 (w.heap.size) 32 b 133 (rowA [a, b, c, d]) (.tmp 15) rfl (by kernel_rfl) rfl (by kernel_rfl) (fun w hb => AtQ.under AQ0 hb) (rowA_part _ (i := 1) rfl), ok_call (by rfl) 17 89 Tryd.f89 _ (.func 89) [.tmp 14, .tmp 16] _ [.agg (numA a), .agg (numA b)] (.agg (numA s)) rfl (by kernel_rfl) rfl (by kernel_rfl) (by kernel_rfl) Tryd.func89 (by kernel_rfl) rfl C0.out, ok_val (by rfl) 18 (.pointer (some ⟨w.heap.size, 0, none⟩)) rfl (by kernel_rfl) (fun w => by kernel_rfl), ok_part (by rfl) 19 (w.heap.size) 0 a 133 (rowA [a, b, c, d]) (.tmp 18) rfl (by kernel_rfl) rfl (by kernel_rfl) (fun w hb => AtQ.under AQ0 hb) (rowA_part _ (i := 0) rfl), ok_val (by rfl) 20 (.pointer (some ⟨w.heap.size, 32, none⟩)) rfl (by kernel_rfl) (fun w => by kernel_rfl), ok_part (by rfl) 21 (w.heap.size) 32 b 133 (rowA [a, b, c, d]) (.tmp 20) rfl (by kernel_rfl) rfl (by kernel_rfl) (fun w hb => AtQ.under AQ0 hb) (rowA_part _ (i := 1) rfl), ok_call (by rfl) 22 90 Tryd.f90 _ (.func 90) [.tmp 19, .tmp 21] _ [.agg (numA a), .agg (numA b)] (.agg (numA t)) rfl (by kernel_rfl) rfl (by kernel_rfl) (by kernel_rfl) Tryd.func90 (by kernel_rfl) rfl C1.out, ok_new (by rfl) 6 rfl zero32 rfl makes_num, ok_new (by rfl) 7 rfl zero32 rfl makes_num, ok_put 10 s 6 17 (by rfl) rfl rfl (by kernel_rfl) (by rfl) (by kernel_rfl) (by kernel_rfl) (by kernel_rfl), ok_put 11 t 7 22 (by rfl) rfl rfl (by kernel_rfl) (by rfl) (by kernel_rfl) (by kernel_rfl) (by kernel_rfl), trivial⟩ ?_
  intro g2a g2b w1 hg2a hg2b hneg2a Ag2a Ag2b hbw1
  simp only [putAll, List.foldl_cons, List.foldl_nil, Act.put, List.setIfInBounds_toArray, List.set_cons_succ, List.set_cons_zero]
  clear C0 C1
  have AQ1 := AQ0.under hbw1
  have RR1 := RR0.under hbw1
  have QB1 := QB0.trans (hbw1.mono QB0.size)
  have AX0u := AX0.under hbw1
  clear AX0 AQ0 RR0 QB0 hbw1 hg2a hg2b hneg2a HPW
  have HPW : Kept _ := ⟨PrimeP.below HP.out QB1⟩
  go_wp2_with fail
  obtain ⟨u1, eu1⟩ : ∃ u1, u1 = (c + d) % 57896044618658097711785492504343953926634992332820282019728792003956564819949 := ⟨_, rfl⟩
  have Eu1 : Kept (u1 = (c + d) % 57896044618658097711785492504343953926634992332820282019728792003956564819949) := ⟨eu1⟩
  have Lu1 : Kept (u1 < 115792089237316195423570985008687907853269984665640564039457584007913129639936) := ⟨by rw [eu1]; exact Nat.lt_trans (Nat.mod_lt _ (by decide)) (by decide)⟩
  clear eu1
  have C0 : Kept (∀ w, Below w1.heap.size w1 w → Calls Tryd.prog 89 [.agg (numA c), .agg (numA d)].toArray w fun e w2 => e = .returned (.agg (numA u1)) ∧ Below w.heap.size w w2) := ⟨fun w hb => by rw [Eu1.out]; exact Add_any c d w Lc.out Ld.out⟩
  obtain ⟨v, ev⟩ : ∃ v, v = u1 * t % 57896044618658097711785492504343953926634992332820282019728792003956564819949 := ⟨_, rfl⟩
  have Ev : Kept (v = u1 * t % 57896044618658097711785492504343953926634992332820282019728792003956564819949) := ⟨ev⟩
  have Lv : Kept (v < 115792089237316195423570985008687907853269984665640564039457584007913129639936) := ⟨by rw [ev]; exact Nat.lt_trans (Nat.mod_lt _ (by decide)) (by decide)⟩
  clear ev
  have C1 : Kept (∀ w, Below w1.heap.size w1 w → Calls Tryd.prog 82 [.agg (numA u1), .agg (numA t)].toArray w fun e w2 => e = .returned (.agg (numA v)) ∧ Below w.heap.size w w2) := ⟨fun w hb => by rw [Ev.out]; exact Mul_any u1 t w Lu1.out Lt.out⟩
  refine region_made1 (W0 := w1) [(23, .pointer (some ⟨w.heap.size, 64, none⟩)), (24, .agg (numA c)), (25, .pointer (some ⟨w.heap.size, 96, none⟩)), (26, .agg (numA d)), (27, .agg (numA u1)), (28, .agg (numA t)), (29, .agg (numA v))] 7 8 8 v (by kernel_rfl) (by kernel_rfl) (by kernel_rfl) (by kernel_rfl) (by kernel_rfl) (by kernel_rfl) (by kernel_rfl) (by kernel_rfl) (by kernel_rfl) (by kernel_rfl) (by kernel_rfl) (Below.refl _ _) ⟨ok_val (by rfl) 23 (.pointer (some ⟨w.heap.size, 64, none⟩)) rfl (by kernel_rfl) (fun w => by kernel_rfl), ok_part (by rfl) 24 (w.heap.size) 64 c 133 (rowA [a, b, c, d]) (.tmp 23) rfl (by kernel_rfl) rfl (by kernel_rfl) (fun w hb => AtQ.under AQ1 hb) (rowA_part _ (i := 2) rfl), ok_val (by rfl) 25 (.pointer (some ⟨w.heap.size, 96, none⟩)) rfl (by kernel_rfl) (fun w => by kernel_rfl), ok_part (by rfl) 26 (w.heap.size) 96 d 133 (rowA [a, b, c, d]) (.tmp 25) rfl (by kernel_rfl) rfl (by kernel_rfl) (fun w hb => AtQ.under AQ1 hb) (rowA_part _ (i := 3) rfl), ok_call (by rfl) 27 89 Tryd.f89 _ (.func 89) [.tmp 24, .tmp 26] _ [.agg (numA c), .agg (numA d)] (.agg (numA u1)) rfl (by kernel_rfl) rfl (by kernel_rfl) (by kernel_rfl) Tryd.func89 (by kernel_rfl) rfl C0.out, ok_get (by rfl) 28 (g2b) t (.tmp 7) rfl (by kernel_rfl) rfl (by kernel_rfl) (fun w hb => At.under Ag2b hb), ok_call (by rfl) 29 82 Tryd.f82 _ (.func 82) [.tmp 27, .tmp 28] _ [.agg (numA u1), .agg (numA t)] (.agg (numA v)) rfl (by kernel_rfl) rfl (by kernel_rfl) (by kernel_rfl) Tryd.func82 (by kernel_rfl) rfl C1.out, ok_new (by rfl) 8 rfl zero32 rfl makes_num, ok_put 7 v 8 29 (by rfl) rfl rfl (by kernel_rfl) (by rfl) (by kernel_rfl) (by kernel_rfl) (by kernel_rfl), trivial⟩ ?_
  intro g3a w2 hg3a Ag3a hbw2
  simp only [putAll, List.foldl_cons, List.foldl_nil, Act.put, List.setIfInBounds_toArray, List.set_cons_succ, List.set_cons_zero]
  clear C0 C1
  have AQ2 := AQ1.under hbw2
  have RR2 := RR1.under hbw2
  have QB2 := QB1.trans (hbw2.mono QB1.size)
  have AX0uu := AX0u.under hbw2
  have Ag2au := Ag2a.under hbw2
  have Ag2bu := Ag2b.under hbw2
  clear AX0u Ag2a Ag2b AQ1 RR1 QB1 hbw2 hg3a HPW
  have HPW : Kept _ := ⟨PrimeP.below HP.out QB2⟩
  go_wp2_with fail
  obtain ⟨u2, eu2⟩ : ∃ u2, u2 = (c + (negN pA pB pC pD d)) % 57896044618658097711785492504343953926634992332820282019728792003956564819949 := ⟨_, rfl⟩
  have Eu2 : Kept (u2 = (c + (negN pA pB pC pD d)) % 57896044618658097711785492504343953926634992332820282019728792003956564819949) := ⟨eu2⟩
  have Lu2 : Kept (u2 < 115792089237316195423570985008687907853269984665640564039457584007913129639936) := ⟨by rw [eu2]; exact Nat.lt_trans (Nat.mod_lt _ (by decide)) (by decide)⟩
  clear eu2
  have C0 : Kept (∀ w, Below w2.heap.size w2 w → Calls Tryd.prog 90 [.agg (numA c), .agg (numA d)].toArray w fun e w2 => e = .returned (.agg (numA u2)) ∧ Below w.heap.size w w2) := ⟨fun w hb => by rw [Eu2.out]; exact SubP_any pA pB pC pD c d w Lc.out Ld.out (PrimeP.below HPW.out hb)⟩
  obtain ⟨z, ez⟩ : ∃ z, z = u2 * s % 57896044618658097711785492504343953926634992332820282019728792003956564819949 := ⟨_, rfl⟩
  have Ez : Kept (z = u2 * s % 57896044618658097711785492504343953926634992332820282019728792003956564819949) := ⟨ez⟩
  have Lz : Kept (z < 115792089237316195423570985008687907853269984665640564039457584007913129639936) := ⟨by rw [ez]; exact Nat.lt_trans (Nat.mod_lt _ (by decide)) (by decide)⟩
  clear ez
  have C1 : Kept (∀ w, Below w2.heap.size w2 w → Calls Tryd.prog 82 [.agg (numA u2), .agg (numA s)].toArray w fun e w2 => e = .returned (.agg (numA z)) ∧ Below w.heap.size w w2) := ⟨fun w hb => by rw [Ez.out]; exact Mul_any u2 s w Lu2.out Ls.out⟩
  refine region_made1 (W0 := w2) [(30, .pointer (some ⟨w.heap.size, 64, none⟩)), (31, .agg (numA c)), (32, .pointer (some ⟨w.heap.size, 96, none⟩)), (33, .agg (numA d)), (34, .agg (numA u2)), (35, .agg (numA s)), (36, .agg (numA z))] 7 8 9 z (by kernel_rfl) (by kernel_rfl) (by kernel_rfl) (by kernel_rfl) (by kernel_rfl) (by kernel_rfl) (by kernel_rfl) (by kernel_rfl) (by kernel_rfl) (by kernel_rfl) (by kernel_rfl) (Below.refl _ _) ⟨ok_val (by rfl) 30 (.pointer (some ⟨w.heap.size, 64, none⟩)) rfl (by kernel_rfl) (fun w => by kernel_rfl), ok_part (by rfl) 31 (w.heap.size) 64 c 133 (rowA [a, b, c, d]) (.tmp 30) rfl (by kernel_rfl) rfl (by kernel_rfl) (fun w hb => AtQ.under AQ2 hb) (rowA_part _ (i := 2) rfl), ok_val (by rfl) 32 (.pointer (some ⟨w.heap.size, 96, none⟩)) rfl (by kernel_rfl) (fun w => by kernel_rfl), ok_part (by rfl) 33 (w.heap.size) 96 d 133 (rowA [a, b, c, d]) (.tmp 32) rfl (by kernel_rfl) rfl (by kernel_rfl) (fun w hb => AtQ.under AQ2 hb) (rowA_part _ (i := 3) rfl), ok_call (by rfl) 34 90 Tryd.f90 _ (.func 90) [.tmp 31, .tmp 33] _ [.agg (numA c), .agg (numA d)] (.agg (numA u2)) rfl (by kernel_rfl) rfl (by kernel_rfl) (by kernel_rfl) Tryd.func90 (by kernel_rfl) rfl C0.out, ok_get (by rfl) 35 (g2a) s (.tmp 6) rfl (by kernel_rfl) rfl (by kernel_rfl) (fun w hb => At.under Ag2au hb), ok_call (by rfl) 36 82 Tryd.f82 _ (.func 82) [.tmp 34, .tmp 35] _ [.agg (numA u2), .agg (numA s)] (.agg (numA z)) rfl (by kernel_rfl) rfl (by kernel_rfl) (by kernel_rfl) Tryd.func82 (by kernel_rfl) rfl C1.out, ok_new (by rfl) 9 rfl zero32 rfl makes_num, ok_put 7 z 9 36 (by rfl) rfl rfl (by kernel_rfl) (by rfl) (by kernel_rfl) (by kernel_rfl) (by kernel_rfl), trivial⟩ ?_
  intro g4a w3 hg4a Ag4a hbw3
  simp only [putAll, List.foldl_cons, List.foldl_nil, Act.put, List.setIfInBounds_toArray, List.set_cons_succ, List.set_cons_zero]
  clear C0 C1
  have AQ3 := AQ2.under hbw3
  have RR3 := RR2.under hbw3
  have QB3 := QB2.trans (hbw3.mono QB2.size)
  have AX0uuu := AX0uu.under hbw3
  have Ag2auu := Ag2au.under hbw3
  have Ag2buu := Ag2bu.under hbw3
  have Ag3au := Ag3a.under hbw3
  clear AX0uu Ag2au Ag2bu Ag3a AQ2 RR2 QB2 hbw3 hg4a HPW
  have HPW : Kept _ := ⟨PrimeP.below HP.out QB3⟩
  go_wp2_with fail
  obtain ⟨ss, ess⟩ : ∃ ss, ss = s * s % 57896044618658097711785492504343953926634992332820282019728792003956564819949 := ⟨_, rfl⟩
  have Ess : Kept (ss = s * s % 57896044618658097711785492504343953926634992332820282019728792003956564819949) := ⟨ess⟩
  have Lss : Kept (ss < 115792089237316195423570985008687907853269984665640564039457584007913129639936) := ⟨by rw [ess]; exact Nat.lt_trans (Nat.mod_lt _ (by decide)) (by decide)⟩
  clear ess
  have C0 : Kept (∀ w, Below w3.heap.size w3 w → Calls Tryd.prog 88 [.agg (numA s)].toArray w fun e w2 => e = .returned (.agg (numA ss)) ∧ Below w.heap.size w w2) := ⟨fun w hb => by rw [Ess.out]; exact square_any s w Ls.out⟩
  obtain ⟨tt, ett⟩ : ∃ tt, tt = t * t % 57896044618658097711785492504343953926634992332820282019728792003956564819949 := ⟨_, rfl⟩
  have Ett : Kept (tt = t * t % 57896044618658097711785492504343953926634992332820282019728792003956564819949) := ⟨ett⟩
  have Ltt : Kept (tt < 115792089237316195423570985008687907853269984665640564039457584007913129639936) := ⟨by rw [ett]; exact Nat.lt_trans (Nat.mod_lt _ (by decide)) (by decide)⟩
  clear ett
  have C1 : Kept (∀ w, Below w3.heap.size w3 w → Calls Tryd.prog 88 [.agg (numA t)].toArray w fun e w2 => e = .returned (.agg (numA tt)) ∧ Below w.heap.size w w2) := ⟨fun w hb => by rw [Ett.out]; exact square_any t w Lt.out⟩
  refine region_made2 (W0 := w3) [(37, .func (.func 88) #[] #[]), (38, .agg (numA s)), (39, .agg (numA ss)), (40, .func (.func 88) #[] #[]), (41, .agg (numA t)), (42, .agg (numA tt))] 6 7 8 9 10 11 ss tt (by kernel_rfl) (by kernel_rfl) (by kernel_rfl) (by kernel_rfl) (by kernel_rfl) (by kernel_rfl) (by kernel_rfl) (by kernel_rfl) (by kernel_rfl) (by kernel_rfl) (by kernel_rfl) (by kernel_rfl) (Below.refl _ _) ⟨ok_val (by rfl) 37 (.func (.func 88) #[] #[]) rfl (by kernel_rfl) (fun w => by kernel_rfl), ok_get (by rfl) 38 (g2a) s (.tmp 6) rfl (by kernel_rfl) rfl (by kernel_rfl) (fun w hb => At.under Ag2auu hb), ok_call (by rfl) 39 88 Tryd.f88 _ (.tmp 37) [.tmp 38] _ [.agg (numA s)] (.agg (numA ss)) rfl (by kernel_rfl) rfl (by kernel_rfl) (by kernel_rfl) Tryd.func88 (by kernel_rfl) rfl C0.out, ok_val (by rfl) 40 (.func (.func 88) #[] #[]) rfl (by kernel_rfl) (fun w => by kernel_rfl), ok_get (by rfl) 41 (g2b) t (.tmp 7) rfl (by kernel_rfl) rfl (by kernel_rfl) (fun w hb => At.under Ag2buu hb), ok_call (by rfl) 42 88 Tryd.f88 _ (.tmp 40) [.tmp 41] _ [.agg (numA t)] (.agg (numA tt)) rfl (by kernel_rfl) rfl (by kernel_rfl) (by kernel_rfl) Tryd.func88 (by kernel_rfl) rfl C1.out, ok_new (by rfl) 10 rfl zero32 rfl makes_num, ok_new (by rfl) 11 rfl zero32 rfl makes_num, ok_put 6 ss 10 39 (by rfl) rfl rfl (by kernel_rfl) (by rfl) (by kernel_rfl) (by kernel_rfl) (by kernel_rfl), ok_put 7 tt 11 42 (by rfl) rfl rfl (by kernel_rfl) (by rfl) (by kernel_rfl) (by kernel_rfl) (by kernel_rfl), trivial⟩ ?_
  intro g5a g5b w4 hg5a hg5b hneg5a Ag5a Ag5b hbw4
  simp only [putAll, List.foldl_cons, List.foldl_nil, Act.put, List.setIfInBounds_toArray, List.set_cons_succ, List.set_cons_zero]
  clear C0 C1
  have AQ4 := AQ3.under hbw4
  have RR4 := RR3.under hbw4
  have QB4 := QB3.trans (hbw4.mono QB3.size)
  have AX0uuuu := AX0uuu.under hbw4
  have Ag2auuu := Ag2auu.under hbw4
  have Ag2buuu := Ag2buu.under hbw4
  have Ag3auu := Ag3au.under hbw4
  have Ag4au := Ag4a.under hbw4
  clear AX0uuu Ag2auu Ag2buu Ag3au Ag4a AQ3 RR3 QB3 hbw4 hg5a hg5b hneg5a HPW
  have HPW : Kept _ := ⟨PrimeP.below HP.out QB4⟩
  skip
  obtain ⟨e, ee⟩ : ∃ e, e = (ss + (negN pA pB pC pD tt)) % 57896044618658097711785492504343953926634992332820282019728792003956564819949 := ⟨_, rfl⟩
  have Ee : Kept (e = (ss + (negN pA pB pC pD tt)) % 57896044618658097711785492504343953926634992332820282019728792003956564819949) := ⟨ee⟩
  have Le : Kept (e < 115792089237316195423570985008687907853269984665640564039457584007913129639936) := ⟨by rw [ee]; exact Nat.lt_trans (Nat.mod_lt _ (by decide)) (by decide)⟩
  clear ee
  go_wp2_with (first | (refine wpList_get rfl (.tmp 10) rfl _ ss rfl Ag5a ?_) | (refine wpList_get rfl (.tmp 11) rfl _ tt rfl Ag5b ?_))
  have hc := SubP_any pA pB pC pD ss tt w4 Lss.out Ltt.out HPW.out
  rw [← Ee.out] at hc
  refine hc.mono ?_
  clear hc
  rintro e w4c ⟨rfl, hbc⟩
  have AX0uuuuc := AX0uuuu.under hbc
  have Ag2auuuc := Ag2auuu.under hbc
  have Ag2buuuc := Ag2buuu.under hbc
  have Ag3auuc := Ag3auu.under hbc
  have Ag4auc := Ag4au.under hbc
  have Ag5ac := Ag5a.under hbc
  have Ag5bc := Ag5b.under hbc
  have AQc := AQ4.under hbc
  have RRc := RR4.under hbc
  have QBc := QB4.trans (hbc.mono QB4.size)
  clear hbc HPW AX0uuuu Ag2auuu Ag2buuu Ag3auu Ag4au Ag5a Ag5b AQ4 RR4 QB4
  go_wp2_with (first | (refine wpList_put rfl (.tmp 12) (.tmp 45) rfl _ e rfl rfl (room_top _ _ rfl) ?_))
  intro w5 A6 P6
  have AX0uuuup := P6.at (AX0uuuuc.alloc _) (Nat.ne_of_lt AX0uuuuc.lt)
  have Ag2auuup := P6.at (Ag2auuuc.alloc _) (Nat.ne_of_lt Ag2auuuc.lt)
  have Ag2buuup := P6.at (Ag2buuuc.alloc _) (Nat.ne_of_lt Ag2buuuc.lt)
  have Ag3auup := P6.at (Ag3auuc.alloc _) (Nat.ne_of_lt Ag3auuc.lt)
  have Ag4aup := P6.at (Ag4auc.alloc _) (Nat.ne_of_lt Ag4auc.lt)
  have Ag5ap := P6.at (Ag5ac.alloc _) (Nat.ne_of_lt Ag5ac.lt)
  have Ag5bp := P6.at (Ag5bc.alloc _) (Nat.ne_of_lt Ag5bc.lt)
  have AQ5 := P6.atQ (AQc.alloc _) (Nat.ne_of_lt AQc.lt)
  have RR5 := P6.roomQ (RRc.alloc _) (Nat.ne_of_lt RRc.lt)
  have QB5 : Below w.heap.size w w5 := (QBc.alloc QBc.size _).trans (P6.below QBc.size)
  clear AX0uuuuc Ag2auuuc Ag2buuuc Ag3auuc Ag4auc Ag5ac Ag5bc AQc RRc QBc P6
  generalize w4c.heap.size = g6 at *
  have HPW : Kept _ := ⟨PrimeP.below HP.out QB5⟩
  go_wp2_with fail
  obtain ⟨a1, ea1⟩ : ∃ a1, a1 = ss * tt % 57896044618658097711785492504343953926634992332820282019728792003956564819949 := ⟨_, rfl⟩
  have Ea1 : Kept (a1 = ss * tt % 57896044618658097711785492504343953926634992332820282019728792003956564819949) := ⟨ea1⟩
  have La1 : Kept (a1 < 115792089237316195423570985008687907853269984665640564039457584007913129639936) := ⟨by rw [ea1]; exact Nat.lt_trans (Nat.mod_lt _ (by decide)) (by decide)⟩
  clear ea1
  have D0 : Kept (∀ w', Below w5.heap.size w5 w' → Calls Tryd.prog 82 [.agg (numA ss), .agg (numA tt)].toArray w' fun e w2 => e = .returned (.agg (numA a1)) ∧ Below w5.heap.size w5 w2) := ⟨fun w' hb => by rw [Ea1.out]; exact (Mul_any ss tt w' Lss.out Ltt.out).mono fun e w2 hh => ⟨hh.1, hb.trans (hh.2.mono hb.size)⟩⟩
  have D1 : Kept (∀ w', Below w5.heap.size w5 w' → Calls Tryd.prog 91 [].toArray w' fun e w2 => e = .returned (.agg (numA 121665)) ∧ Below w5.heap.size w5 w2) := ⟨fun w' hb => (curve_any  w').mono fun e w2 hh => ⟨hh.1, hb.trans (hh.2.mono hb.size)⟩⟩
  obtain ⟨m1, em1⟩ : ∃ m1, m1 = 121665 * e % 57896044618658097711785492504343953926634992332820282019728792003956564819949 := ⟨_, rfl⟩
  have Em1 : Kept (m1 = 121665 * e % 57896044618658097711785492504343953926634992332820282019728792003956564819949) := ⟨em1⟩
  have Lm1 : Kept (m1 < 115792089237316195423570985008687907853269984665640564039457584007913129639936) := ⟨by rw [em1]; exact Nat.lt_trans (Nat.mod_lt _ (by decide)) (by decide)⟩
  clear em1
  have D2 : Kept (∀ w', Below w5.heap.size w5 w' → Calls Tryd.prog 82 [.agg (numA 121665), .agg (numA e)].toArray w' fun e w2 => e = .returned (.agg (numA m1)) ∧ Below w5.heap.size w5 w2) := ⟨fun w' hb => by rw [Em1.out]; exact (Mul_any 121665 e w' (by decide) Le.out).mono fun e w2 hh => ⟨hh.1, hb.trans (hh.2.mono hb.size)⟩⟩
  obtain ⟨m2, em2⟩ : ∃ m2, m2 = (ss + m1) % 57896044618658097711785492504343953926634992332820282019728792003956564819949 := ⟨_, rfl⟩
  have Em2 : Kept (m2 = (ss + m1) % 57896044618658097711785492504343953926634992332820282019728792003956564819949) := ⟨em2⟩
  have Lm2 : Kept (m2 < 115792089237316195423570985008687907853269984665640564039457584007913129639936) := ⟨by rw [em2]; exact Nat.lt_trans (Nat.mod_lt _ (by decide)) (by decide)⟩
  clear em2
  have D3 : Kept (∀ w', Below w5.heap.size w5 w' → Calls Tryd.prog 89 [.agg (numA ss), .agg (numA m1)].toArray w' fun e w2 => e = .returned (.agg (numA m2)) ∧ Below w5.heap.size w5 w2) := ⟨fun w' hb => by rw [Em2.out]; exact (Add_any ss m1 w' Lss.out Lm1.out).mono fun e w2 hh => ⟨hh.1, hb.trans (hh.2.mono hb.size)⟩⟩
  obtain ⟨b1, eb1⟩ : ∃ b1, b1 = e * m2 % 57896044618658097711785492504343953926634992332820282019728792003956564819949 := ⟨_, rfl⟩
  have Eb1 : Kept (b1 = e * m2 % 57896044618658097711785492504343953926634992332820282019728792003956564819949) := ⟨eb1⟩
  have Lb1 : Kept (b1 < 115792089237316195423570985008687907853269984665640564039457584007913129639936) := ⟨by rw [eb1]; exact Nat.lt_trans (Nat.mod_lt _ (by decide)) (by decide)⟩
  clear eb1
  have D4 : Kept (∀ w', Below w5.heap.size w5 w' → Calls Tryd.prog 82 [.agg (numA e), .agg (numA m2)].toArray w' fun e w2 => e = .returned (.agg (numA b1)) ∧ Below w5.heap.size w5 w2) := ⟨fun w' hb => by rw [Eb1.out]; exact (Mul_any e m2 w' Le.out Lm2.out).mono fun e w2 hh => ⟨hh.1, hb.trans (hh.2.mono hb.size)⟩⟩
  obtain ⟨q1, eq1⟩ : ∃ q1, q1 = (v + z) % 57896044618658097711785492504343953926634992332820282019728792003956564819949 := ⟨_, rfl⟩
  have Eq1 : Kept (q1 = (v + z) % 57896044618658097711785492504343953926634992332820282019728792003956564819949) := ⟨eq1⟩
  have Lq1 : Kept (q1 < 115792089237316195423570985008687907853269984665640564039457584007913129639936) := ⟨by rw [eq1]; exact Nat.lt_trans (Nat.mod_lt _ (by decide)) (by decide)⟩
  clear eq1
  have D5 : Kept (∀ w', Below w5.heap.size w5 w' → Calls Tryd.prog 89 [.agg (numA v), .agg (numA z)].toArray w' fun e w2 => e = .returned (.agg (numA q1)) ∧ Below w5.heap.size w5 w2) := ⟨fun w' hb => by rw [Eq1.out]; exact (Add_any v z w' Lv.out Lz.out).mono fun e w2 hh => ⟨hh.1, hb.trans (hh.2.mono hb.size)⟩⟩
  obtain ⟨c1, ec1⟩ : ∃ c1, c1 = q1 * q1 % 57896044618658097711785492504343953926634992332820282019728792003956564819949 := ⟨_, rfl⟩
  have Ec1 : Kept (c1 = q1 * q1 % 57896044618658097711785492504343953926634992332820282019728792003956564819949) := ⟨ec1⟩
  have Lc1 : Kept (c1 < 115792089237316195423570985008687907853269984665640564039457584007913129639936) := ⟨by rw [ec1]; exact Nat.lt_trans (Nat.mod_lt _ (by decide)) (by decide)⟩
  clear ec1
  have D6 : Kept (∀ w', Below w5.heap.size w5 w' → Calls Tryd.prog 88 [.agg (numA q1)].toArray w' fun e w2 => e = .returned (.agg (numA c1)) ∧ Below w5.heap.size w5 w2) := ⟨fun w' hb => by rw [Ec1.out]; exact (square_any q1 w' Lq1.out).mono fun e w2 hh => ⟨hh.1, hb.trans (hh.2.mono hb.size)⟩⟩
  obtain ⟨q2, eq2⟩ : ∃ q2, q2 = (v + (negN pA pB pC pD z)) % 57896044618658097711785492504343953926634992332820282019728792003956564819949 := ⟨_, rfl⟩
  have Eq2 : Kept (q2 = (v + (negN pA pB pC pD z)) % 57896044618658097711785492504343953926634992332820282019728792003956564819949) := ⟨eq2⟩
  have Lq2 : Kept (q2 < 115792089237316195423570985008687907853269984665640564039457584007913129639936) := ⟨by rw [eq2]; exact Nat.lt_trans (Nat.mod_lt _ (by decide)) (by decide)⟩
  clear eq2
  have D7 : Kept (∀ w', Below w5.heap.size w5 w' → Calls Tryd.prog 90 [.agg (numA v), .agg (numA z)].toArray w' fun e w2 => e = .returned (.agg (numA q2)) ∧ Below w5.heap.size w5 w2) := ⟨fun w' hb => by rw [Eq2.out]; exact (SubP_any pA pB pC pD v z w' Lv.out Lz.out (PrimeP.below HPW.out hb)).mono fun e w2 hh => ⟨hh.1, hb.trans (hh.2.mono hb.size)⟩⟩
  obtain ⟨q3, eq3⟩ : ∃ q3, q3 = q2 * q2 % 57896044618658097711785492504343953926634992332820282019728792003956564819949 := ⟨_, rfl⟩
  have Eq3 : Kept (q3 = q2 * q2 % 57896044618658097711785492504343953926634992332820282019728792003956564819949) := ⟨eq3⟩
  have Lq3 : Kept (q3 < 115792089237316195423570985008687907853269984665640564039457584007913129639936) := ⟨by rw [eq3]; exact Nat.lt_trans (Nat.mod_lt _ (by decide)) (by decide)⟩
  clear eq3
  have D8 : Kept (∀ w', Below w5.heap.size w5 w' → Calls Tryd.prog 88 [.agg (numA q2)].toArray w' fun e w2 => e = .returned (.agg (numA q3)) ∧ Below w5.heap.size w5 w2) := ⟨fun w' hb => by rw [Eq3.out]; exact (square_any q2 w' Lq2.out).mono fun e w2 hh => ⟨hh.1, hb.trans (hh.2.mono hb.size)⟩⟩
  obtain ⟨d1, ed1⟩ : ∃ d1, d1 = x * q3 % 57896044618658097711785492504343953926634992332820282019728792003956564819949 := ⟨_, rfl⟩
  have Ed1 : Kept (d1 = x * q3 % 57896044618658097711785492504343953926634992332820282019728792003956564819949) := ⟨ed1⟩
  have Ld1 : Kept (d1 < 115792089237316195423570985008687907853269984665640564039457584007913129639936) := ⟨by rw [ed1]; exact Nat.lt_trans (Nat.mod_lt _ (by decide)) (by decide)⟩
  clear ed1
  have D9 : Kept (∀ w', Below w5.heap.size w5 w' → Calls Tryd.prog 82 [.agg (numA x), .agg (numA q3)].toArray w' fun e w2 => e = .returned (.agg (numA d1)) ∧ Below w5.heap.size w5 w2) := ⟨fun w' hb => by rw [Ed1.out]; exact (Mul_any x q3 w' Lx.out Lq3.out).mono fun e w2 hh => ⟨hh.1, hb.trans (hh.2.mono hb.size)⟩⟩
  have KF : Kept (r = [a1, b1, c1, d1]) := ⟨by rw [KR.out]; obtain ⟨hs⟩ := Es; obtain ⟨ht⟩ := Et; obtain ⟨hu1⟩ := Eu1; obtain ⟨hv⟩ := Ev; obtain ⟨hu2⟩ := Eu2; obtain ⟨hz⟩ := Ez; obtain ⟨hss⟩ := Ess; obtain ⟨htt⟩ := Ett; obtain ⟨he⟩ := Ee; obtain ⟨ha1⟩ := Ea1; obtain ⟨hm1⟩ := Em1; obtain ⟨hm2⟩ := Em2; obtain ⟨hb1⟩ := Eb1; obtain ⟨hq1⟩ := Eq1; obtain ⟨hc1⟩ := Ec1; obtain ⟨hq2⟩ := Eq2; obtain ⟨hq3⟩ := Eq3; obtain ⟨hd1⟩ := Ed1; subst hd1 hq3 hq2 hc1 hq1 hb1 hm2 hm1 ha1 he htt hss hz hu2 hv hu1 ht hs; rfl⟩
  refine wp_region_quiet_cut (C := fun w' => Below w5.heap.size w5 w') 23 rfl (by kernel_rfl) (by kernel_rfl) (by kernel_rfl) (by kernel_rfl) (by kernel_rfl) (Below.drew (Below.refl _ _)) ?_
  dsimp only [List.take_succ_cons, List.take_zero]
  refine q_load (by kernel_rfl) 22 _ (g5a) 22 (numA ss) (0, 0) _ rfl (by kernel_rfl) (fun w' hb => At.under Ag5ap hb) Tryd.underlying22 rfl (by rw [numA_size]; kernel_rfl) ?_
  simp only [Act.put, List.setIfInBounds_toArray, List.set_cons_succ, List.set_cons_zero]
  refine q_load (by kernel_rfl) 22 _ (g5b) 22 (numA tt) (0, 0) _ rfl (by kernel_rfl) (fun w' hb => At.under Ag5bp hb) Tryd.underlying22 rfl (by rw [numA_size]; kernel_rfl) ?_
  simp only [Act.put, List.setIfInBounds_toArray, List.set_cons_succ, List.set_cons_zero]
  refine q_callx (by kernel_rfl) 82 Tryd.f82 _ (.func 82) [.tmp 46, .tmp 47] _ [.agg (numA ss), .agg (numA tt)] (.agg (numA a1)) rfl (by kernel_rfl) (by kernel_rfl) Tryd.func82 (by kernel_rfl) rfl D0.out ?_
  simp only [Act.put, List.setIfInBounds_toArray, List.set_cons_succ, List.set_cons_zero]
  refine q_load (by kernel_rfl) 22 _ (g6) 22 (numA e) (0, 0) _ rfl (by kernel_rfl) (fun w' hb => At.under A6 hb) Tryd.underlying22 rfl (by rw [numA_size]; kernel_rfl) ?_
  simp only [Act.put, List.setIfInBounds_toArray, List.set_cons_succ, List.set_cons_zero]
  refine q_load (by kernel_rfl) 22 _ (g5a) 22 (numA ss) (0, 0) _ rfl (by kernel_rfl) (fun w' hb => At.under Ag5ap hb) Tryd.underlying22 rfl (by rw [numA_size]; kernel_rfl) ?_
  simp only [Act.put, List.setIfInBounds_toArray, List.set_cons_succ, List.set_cons_zero]
  refine q_callx (by kernel_rfl) 91 Tryd.f91 _ (.func 91) [] _ [] (.agg (numA 121665)) rfl (by kernel_rfl) (by kernel_rfl) Tryd.func91 (by kernel_rfl) rfl D1.out ?_
  simp only [Act.put, List.setIfInBounds_toArray, List.set_cons_succ, List.set_cons_zero]
  refine q_load (by kernel_rfl) 22 _ (g6) 22 (numA e) (0, 0) _ rfl (by kernel_rfl) (fun w' hb => At.under A6 hb) Tryd.underlying22 rfl (by rw [numA_size]; kernel_rfl) ?_
  simp only [Act.put, List.setIfInBounds_toArray, List.set_cons_succ, List.set_cons_zero]
  refine q_callx (by kernel_rfl) 82 Tryd.f82 _ (.func 82) [.tmp 51, .tmp 52] _ [.agg (numA 121665), .agg (numA e)] (.agg (numA m1)) rfl (by kernel_rfl) (by kernel_rfl) Tryd.func82 (by kernel_rfl) rfl D2.out ?_
  simp only [Act.put, List.setIfInBounds_toArray, List.set_cons_succ, List.set_cons_zero]
  refine q_callx (by kernel_rfl) 89 Tryd.f89 _ (.func 89) [.tmp 50, .tmp 53] _ [.agg (numA ss), .agg (numA m1)] (.agg (numA m2)) rfl (by kernel_rfl) (by kernel_rfl) Tryd.func89 (by kernel_rfl) rfl D3.out ?_
  simp only [Act.put, List.setIfInBounds_toArray, List.set_cons_succ, List.set_cons_zero]
  refine q_callx (by kernel_rfl) 82 Tryd.f82 _ (.func 82) [.tmp 49, .tmp 54] _ [.agg (numA e), .agg (numA m2)] (.agg (numA b1)) rfl (by kernel_rfl) (by kernel_rfl) Tryd.func82 (by kernel_rfl) rfl D4.out ?_
  simp only [Act.put, List.setIfInBounds_toArray, List.set_cons_succ, List.set_cons_zero]
  refine q_val (by kernel_rfl) (.func (.func 88) #[] #[]) (fun w' => by kernel_rfl) ?_
  simp only [Act.put, List.setIfInBounds_toArray, List.set_cons_succ, List.set_cons_zero]
  refine q_load (by kernel_rfl) 22 _ (g3a) 22 (numA v) (0, 0) _ rfl (by kernel_rfl) (fun w' hb => At.under Ag3auup hb) Tryd.underlying22 rfl (by rw [numA_size]; kernel_rfl) ?_
  simp only [Act.put, List.setIfInBounds_toArray, List.set_cons_succ, List.set_cons_zero]
  refine q_load (by kernel_rfl) 22 _ (g4a) 22 (numA z) (0, 0) _ rfl (by kernel_rfl) (fun w' hb => At.under Ag4aup hb) Tryd.underlying22 rfl (by rw [numA_size]; kernel_rfl) ?_
  simp only [Act.put, List.setIfInBounds_toArray, List.set_cons_succ, List.set_cons_zero]
  refine q_callx (by kernel_rfl) 89 Tryd.f89 _ (.func 89) [.tmp 57, .tmp 58] _ [.agg (numA v), .agg (numA z)] (.agg (numA q1)) rfl (by kernel_rfl) (by kernel_rfl) Tryd.func89 (by kernel_rfl) rfl D5.out ?_
  simp only [Act.put, List.setIfInBounds_toArray, List.set_cons_succ, List.set_cons_zero]
  refine q_callx (by kernel_rfl) 88 Tryd.f88 _ (.tmp 56) [.tmp 59] _ [.agg (numA q1)] (.agg (numA c1)) rfl (by kernel_rfl) (by kernel_rfl) Tryd.func88 (by kernel_rfl) rfl D6.out ?_
  simp only [Act.put, List.setIfInBounds_toArray, List.set_cons_succ, List.set_cons_zero]
  refine q_load (by kernel_rfl) 22 _ (w.heap.size + 1) 22 (numA x) (0, 0) _ rfl (by kernel_rfl) (fun w' hb => At.under AX0uuuup hb) Tryd.underlying22 rfl (by rw [numA_size]; kernel_rfl) ?_
  simp only [Act.put, List.setIfInBounds_toArray, List.set_cons_succ, List.set_cons_zero]
  refine q_val (by kernel_rfl) (.func (.func 88) #[] #[]) (fun w' => by kernel_rfl) ?_
  simp only [Act.put, List.setIfInBounds_toArray, List.set_cons_succ, List.set_cons_zero]
  refine q_load (by kernel_rfl) 22 _ (g3a) 22 (numA v) (0, 0) _ rfl (by kernel_rfl) (fun w' hb => At.under Ag3auup hb) Tryd.underlying22 rfl (by rw [numA_size]; kernel_rfl) ?_
  simp only [Act.put, List.setIfInBounds_toArray, List.set_cons_succ, List.set_cons_zero]
  refine q_load (by kernel_rfl) 22 _ (g4a) 22 (numA z) (0, 0) _ rfl (by kernel_rfl) (fun w' hb => At.under Ag4aup hb) Tryd.underlying22 rfl (by rw [numA_size]; kernel_rfl) ?_
  simp only [Act.put, List.setIfInBounds_toArray, List.set_cons_succ, List.set_cons_zero]
  refine q_callx (by kernel_rfl) 90 Tryd.f90 _ (.func 90) [.tmp 63, .tmp 64] _ [.agg (numA v), .agg (numA z)] (.agg (numA q2)) rfl (by kernel_rfl) (by kernel_rfl) Tryd.func90 (by kernel_rfl) rfl D7.out ?_
  simp only [Act.put, List.setIfInBounds_toArray, List.set_cons_succ, List.set_cons_zero]
  refine q_callx (by kernel_rfl) 88 Tryd.f88 _ (.tmp 62) [.tmp 65] _ [.agg (numA q2)] (.agg (numA q3)) rfl (by kernel_rfl) (by kernel_rfl) Tryd.func88 (by kernel_rfl) rfl D8.out ?_
  simp only [Act.put, List.setIfInBounds_toArray, List.set_cons_succ, List.set_cons_zero]
  refine q_callx (by kernel_rfl) 82 Tryd.f82 _ (.func 82) [.tmp 61, .tmp 66] _ [.agg (numA x), .agg (numA q3)] (.agg (numA d1)) rfl (by kernel_rfl) (by kernel_rfl) Tryd.func82 (by kernel_rfl) rfl D9.out ?_
  simp only [Act.put, List.setIfInBounds_toArray, List.set_cons_succ, List.set_cons_zero]
  refine q_val (by kernel_rfl) (.agg (rowA [a1, b1, c1, d1])) (fun w' => by kernel_rfl) ?_
  simp only [Act.put, List.setIfInBounds_toArray, List.set_cons_succ, List.set_cons_zero]
  refine wpQuiet_nil ?_
  intro wz hz
  have RZ := RR5.under hz
  have QZ := QB5.trans (hz.mono QB5.size)
  refine wpList_qput iQ1 rfl (.tmp 4) (.tmp 68) rfl (w.heap.size + 1 + 1) a1 b1 c1 d1 (by kernel_rfl) (by kernel_rfl) RZ ?_
  intro wy AY PY
  have QY : Below w.heap.size w wy := QZ.trans (PY.below (by omega))
  clear hz PY RZ QZ HPW D0 D1 D2 D3 D4 D5 D6 D7 D8 D9 A6 AX0uuuup Ag2auuup Ag2buuup Ag3auup Ag4aup Ag5ap Ag5bp AQ5 RR5 QB5
  go_wp2_with fail
  rw [KF.out]
  exact bodyPost_ret (v := .agg (rowA [a1, b1, c1, d1])) (ret_quad Tryd.underlying133 iQ1 Tryd.results81 _ _ _ a1 b1 c1 d1 rfl AY) rfl ⟨rfl, QY⟩
end Go.Proofs.YtjkdonjcngmjeaaDoor
