/-
  General pieces, joined: NA NB.
-/
import Derived.Test.YtjkdonjcngmjeaaDoorG04
import Derived.Test.YtjkdonjcngmjeaaDoorG02
import Derived.Deep.RegionWith
import Derived.Deep.DeepCutAuto
import Derived.Test.YtjkdonjcngmjeaaDoorG32
/-
  Numbers, whatever the program's variable that holds p holds: what goes with a number to that.
-/
namespace Go.Proofs.YtjkdonjcngmjeaaDoor
open Go.RowKit
set_option linter.unusedVariables false
set_option linter.unusedSimpArgs false

/-- The program's variable that should hold p, whatever it holds. -/
def PrimeP (a0 a1 a2 a3 : Nat) (w : World) : Prop := lt4 a0 a1 a2 a3 ∧ w.cell? ⟨2, 0, none⟩ = some (.int .u64 (a0 : Int)) ∧ w.cell? ⟨2, 1, none⟩ = some (.int .u64 (a1 : Int)) ∧ w.cell? ⟨2, 2, none⟩ = some (.int .u64 (a2 : Int)) ∧ w.cell? ⟨2, 3, none⟩ = some (.int .u64 (a3 : Int))
theorem PrimeP.lt {a0 a1 a2 a3 : Nat} {w : World} (h : PrimeP a0 a1 a2 a3 w) : 2 < w.heap.size := block_lt_of_cell h.2.1
theorem PrimeP.below {a0 a1 a2 a3 : Nat} {w w' : World} (h : PrimeP a0 a1 a2 a3 w) (hb : Below w.heap.size w w') : PrimeP a0 a1 a2 a3 w' :=
  ⟨h.1, (hb.cell (p := ⟨2, 0, none⟩) h.lt).trans h.2.1, (hb.cell (p := ⟨2, 1, none⟩) h.lt).trans h.2.2.1, (hb.cell (p := ⟨2, 2, none⟩) h.lt).trans h.2.2.2.1, (hb.cell (p := ⟨2, 3, none⟩) h.lt).trans h.2.2.2.2⟩
theorem negativeP_arith (a0 a1 a2 a3 : Nat) (r0 r1 r2 r3 z0 z1 z2 z3 c0 c1 c2 c3 : Nat) (hr : lt4 r0 r1 r2 r3) (hp : v4 r0 r1 r2 r3 < 57896044618658097711785492504343953926634992332820282019728792003956564819949)
    (h0 : z0 < 18446744073709551616 ∧ c0 ≤ 1 ∧ a0 + 18446744073709551616 * c0 = z0 + r0) (h1 : z1 < 18446744073709551616 ∧ c1 ≤ 1 ∧ a1 + 18446744073709551616 * c1 = z1 + r1 + c0)
    (h2 : z2 < 18446744073709551616 ∧ c2 ≤ 1 ∧ a2 + 18446744073709551616 * c2 = z2 + r2 + c1) (h3 : z3 < 18446744073709551616 ∧ c3 ≤ 1 ∧ a3 + 18446744073709551616 * c3 = z3 + r3 + c2) :
    v4 z0 z1 z2 z3 = (v4 a0 a1 a2 a3 + 115792089237316195423570985008687907853269984665640564039457584007913129639936 - v4 r0 r1 r2 r3) % 115792089237316195423570985008687907853269984665640564039457584007913129639936 := by
  have e : v4 z0 z1 z2 z3 + v4 r0 r1 r2 r3 = v4 a0 a1 a2 a3 + 115792089237316195423570985008687907853269984665640564039457584007913129639936 * c3 := by unfold v4; omega
  have l : v4 z0 z1 z2 z3 < 115792089237316195423570985008687907853269984665640564039457584007913129639936 := by unfold v4; omega
  generalize v4 z0 z1 z2 z3 = Z at *
  generalize v4 r0 r1 r2 r3 = R at *
  generalize v4 a0 a1 a2 a3 = A at *
  have : c3 = 0 ∨ c3 = 1 := by omega
  rcases this with rfl | rfl
  · rw [show A + 115792089237316195423570985008687907853269984665640564039457584007913129639936 - R = Z + 115792089237316195423570985008687907853269984665640564039457584007913129639936 by omega]
    omega
  · rw [show A + 115792089237316195423570985008687907853269984665640564039457584007913129639936 - R = Z by omega]
    omega

set_option maxHeartbeats 8000000 in
theorem negativeP_any (a0 a1 a2 a3 : Nat) (x0 x1 x2 x3 : Nat) (w : World) (hx : lt4 x0 x1 x2 x3) (hp : PrimeP a0 a1 a2 a3 w) :
    Calls Tryd.prog 98 #[L4 x0 x1 x2 x3] w
      fun e w' => ∃ z0 z1 z2 z3 : Nat, e = .returned (.agg #[.int .u64 (z0 : Int), .int .u64 (z1 : Int), .int .u64 (z2 : Int), .int .u64 (z3 : Int)]) ∧
        Below w.heap.size w w' ∧ Hid (lt4 z0 z1 z2 z3 ∧ v4 z0 z1 z2 z3 = (v4 a0 a1 a2 a3 + 115792089237316195423570985008687907853269984665640564039457584007913129639936 - v4 x0 x1 x2 x3 % 57896044618658097711785492504343953926634992332820282019728792003956564819949) % 115792089237316195423570985008687907853269984665640564039457584007913129639936) := by
  have HX := (show Hid _ from hx)
  have hlt := hp.lt
  have hne : w.heap.size ≠ 2 := by omega
  have hne' : 2 ≠ w.heap.size := by omega
  have hpz : w.heap.size ≠ 0 := by omega
  have hpz' : 0 < w.heap.size := by omega
  obtain ⟨hpl, p0, p1, p2, p3⟩ := hp
  have HPL : Hid (lt4 a0 a1 a2 a3) := hpl
  clear hpl
  unfold L4
  clear hx
  go_enter Tryd.func98, Tryd.ntmps98
  go_wp2
  go_cut [3] (fun s3 wc => ∃ g r0 r1 r2 r3 : Nat, s3 = .pointer (some ⟨g, 0, none⟩) ∧ w.heap.size + 1 < g ∧ g < wc.heap.size ∧ w.heap.size + 1 < wc.heap.size ∧
    (wc.cell? ⟨w.heap.size, 0, none⟩ = some (.int .u64 (r0 : Int)) ∧ wc.cell? ⟨w.heap.size, 1, none⟩ = some (.int .u64 (r1 : Int)) ∧ wc.cell? ⟨w.heap.size, 2, none⟩ = some (.int .u64 (r2 : Int)) ∧ wc.cell? ⟨w.heap.size, 3, none⟩ = some (.int .u64 (r3 : Int))) ∧
    (wc.cell? ⟨w.heap.size + 1, 0, none⟩ = some (.int .u64 0) ∧ wc.cell? ⟨w.heap.size + 1, 1, none⟩ = some (.int .u64 0) ∧ wc.cell? ⟨w.heap.size + 1, 2, none⟩ = some (.int .u64 0) ∧ wc.cell? ⟨w.heap.size + 1, 3, none⟩ = some (.int .u64 0)) ∧
    (wc.cell? ⟨g, 0, none⟩ = some (.int .u64 (a0 : Int)) ∧ wc.cell? ⟨g, 1, none⟩ = some (.int .u64 (a1 : Int)) ∧ wc.cell? ⟨g, 2, none⟩ = some (.int .u64 (a2 : Int)) ∧ wc.cell? ⟨g, 3, none⟩ = some (.int .u64 (a3 : Int))) ∧
    (∀ j, wc.frozen? ⟨w.heap.size, j, none⟩ = false) ∧ (∀ j, wc.frozen? ⟨w.heap.size + 1, j, none⟩ = false) ∧ (∀ j, wc.frozen? ⟨g, j, none⟩ = false) ∧ Below w.heap.size w wc ∧
    Hid (lt4 r0 r1 r2 r3 ∧ v4 r0 r1 r2 r3 = v4 x0 x1 x2 x3 % 57896044618658097711785492504343953926634992332820282019728792003956564819949))
  case first =>
    go_region_with (go_at_call 96; go_must (refine (reduce_at _ x0 x1 x2 x3 _ rfl HX.out).mono ?_; rintro e w1 ⟨r0, r1, r2, r3, rfl, hb1, H1⟩; have Q : Hid (Below w.heap.size w w1) := (Below.trans (by (repeat (first | with_reducible exact Below.refl _ _ | with_reducible assumption | with_reducible refine Below.drew ?_ | (with_reducible refine Below.alloc ?_ ?hB _; (case hB => first | omega | (simp <;> omega))) | (with_reducible refine Below.setCell ?_ ?hB _; (case hB => first | omega | (simp <;> omega)))))) (hb1.mono (by first | omega | (simp <;> omega)))); have ZZ : Hid _ := hb1.size; have ca := after4 hb1 w.heap.size (by first | omega | (simp <;> omega)); have cb := after4 hb1 (w.heap.size + 1) (by first | omega | (simp <;> omega)); have cp := after4 hb1 2 (by first | omega | (simp <;> omega)); have fa := after_f hb1 w.heap.size (by first | omega | (simp <;> omega)); have fb := after_f hb1 (w.heap.size + 1) (by first | omega | (simp <;> omega)); have zz := hb1.size; simp [go_sem, p0, p1, p2, p3, hlt, hne, hne', hpz, hpz'] at ca cb cp fa fb zz; have lp : 2 < w1.heap.size := (by omega); have np : 2 ≠ w1.heap.size := (by omega); have np2 : w1.heap.size ≠ 2 := (by omega); have npz : w1.heap.size ≠ 0 := (by omega); have la : w.heap.size < w1.heap.size := (by omega); have na : w.heap.size ≠ w1.heap.size := (by omega); have lb : w.heap.size + 1 < w1.heap.size := (by omega); have nb : w.heap.size + 1 ≠ w1.heap.size := (by omega); have na' : w1.heap.size ≠ w.heap.size := (by omega); have nb' : w1.heap.size ≠ w.heap.size + 1 := (by omega); have cc := (fun hq => after4 hb1 (w.heap.size + 1 + 1) hq); have fc := (fun hq => after_f hb1 (w.heap.size + 1 + 1) hq); try simp [go_sem, p0, p1, p2, p3, hlt, hne, hne', hpz, hpz'] at cc; try simp [go_sem, p0, p1, p2, p3, hlt, hne, hne', hpz, hpz'] at fc; clear hb1 zz))
    all_goals (go_wp2_with fail; go_meet; refine ⟨_, r0, r1, r2, r3, rfl, ?_, ?_, ?_, ?_, ?_, ?_, ?_, ?_, ?_, ?_, H1⟩)
    all_goals try (first | omega | (simp; omega))
    all_goals try (first | (simp [go_sem, ca, cb, cp, fa, fb, la, lb, na, nb, na', nb', lp, np, np2, npz, hlt, hne, hne', hpz, hpz', p0, p1, p2, p3, cc, fc]; done) | (simp [go_sem, ca, cb, cp, fa, fb, la, lb, na, nb, na', nb', lp, np, np2, npz, hlt, hne, hne', hpz, hpz', p0, p1, p2, p3]; done))
    all_goals try (intro j; first | (simp [go_sem, ca, cb, cp, fa, fb, la, lb, na, nb, na', nb', lp, np, np2, npz, hlt, hne, hne', hpz, hpz', p0, p1, p2, p3, cc, fc]; done) | (simp [go_sem, ca, cb, cp, fa, fb, la, lb, na, nb, na', nb', lp, np, np2, npz, hlt, hne, hne', hpz, hpz', p0, p1, p2, p3]; done))
    all_goals have q1 := Q.out
    all_goals have z := ZZ.out
    all_goals simp at z
    all_goals first | (with_reducible refine Below.alloc ?_ ?hB _; (case hB => simp; omega); (repeat (first | with_reducible exact Below.refl _ _ | with_reducible assumption | with_reducible refine Below.drew ?_ | (with_reducible refine Below.alloc ?_ ?hB _; (case hB => first | omega | (simp <;> omega))) | (with_reducible refine Below.setCell ?_ ?hB _; (case hB => first | omega | (simp <;> omega)))))) | (with_reducible refine Below.setCell ?_ ?hB _; (case hB => simp; omega); (repeat (first | with_reducible exact Below.refl _ _ | with_reducible assumption | with_reducible refine Below.drew ?_ | (with_reducible refine Below.alloc ?_ ?hB _; (case hB => first | omega | (simp <;> omega))) | (with_reducible refine Below.setCell ?_ ?hB _; (case hB => first | omega | (simp <;> omega)))))) | (simp; omega)
  case rest =>
    obtain ⟨g, r0, r1, r2, r3, rfl, g1, g2, g3, ca, cb, cg, fa, fb, fg, hB, HR⟩ := hcut
    have QB : Hid _ := hB
    clear hB p0 p1 p2 p3 hlt hne hne' hpz hpz'
    have n1 : w.heap.size ≠ g := by omega
    have n2 : w.heap.size + 1 ≠ g := by omega
    have n3 : g ≠ w.heap.size := by omega
    have n4 : g ≠ w.heap.size + 1 := by omega
    have GE : Hid (w.heap.size ≤ g) := Nat.le_of_lt (by omega)
    clear g1 g2 g3
    obtain ⟨z0, c0, h0, H0⟩ := call_sub64_0 a0 r0 HPL.out.1 HR.out.1.1
    obtain ⟨z1, c1, h1, H1⟩ := call_sub64 a1 r1 c0 H0.out.2.1 HPL.out.2.1 HR.out.1.2.1
    obtain ⟨z2, c2, h2, H2⟩ := call_sub64 a2 r2 c1 H1.out.2.1 HPL.out.2.2.1 HR.out.1.2.2.1
    obtain ⟨z3, c3, h3, H3⟩ := call_sub64 a3 r3 c2 H2.out.2.1 HPL.out.2.2.2 HR.out.1.2.2.2
    go_wp2
    refine wp_loop_rounds 5 ?_
    rw [rounds_succ]
    go_wp2
    go_region
    go_wp2
    rw [rounds_succ]
    go_wp2
    go_region
    go_wp2
    rw [rounds_succ]
    go_wp2
    go_region
    go_wp2
    rw [rounds_succ]
    go_wp2
    go_region
    go_wp2
    rw [rounds_succ]
    go_wp2
    refine bodyPost_ret (v := .agg #[.int .u64 (z0 : Int), .int .u64 (z1 : Int), .int .u64 (z2 : Int), .int .u64 (z3 : Int)]) (by simp [results, Tryd.results98, go_sem, ca, cb, cg, fa, fb, fg, n1, n2, n3, n4]) rfl ⟨z0, z1, z2, z3, rfl, ?_, ?_, ?_⟩
    · have q := QB.out
      have ge := GE.out
      repeat (first | with_reducible exact Below.refl _ _ | with_reducible assumption | with_reducible refine Below.drew ?_ | (with_reducible refine Below.alloc ?_ ?hB _; (case hB => first | omega | (simp <;> omega))) | (with_reducible refine Below.setCell ?_ ?hB _; (case hB => first | omega | (simp <;> omega))))
    · exact ⟨H0.out.1, H1.out.1, H2.out.1, H3.out.1⟩
    · rw [← HR.out.2]
      exact negativeP_arith a0 a1 a2 a3 _ _ _ _ _ _ _ _ _ _ _ _ HR.out.1 (by rw [HR.out.2]; exact Nat.mod_lt _ (by omega)) H0.out H1.out H2.out H3.out
end Go.Proofs.YtjkdonjcngmjeaaDoor
/-
  The power that inverse comes to, whatever the program's variable that should hold p holds.
-/
namespace Go.Proofs.YtjkdonjcngmjeaaDoor.sh
open Go Go.RowKit
set_option linter.unusedVariables false
set_option linter.unusedSimpArgs false

theorem inf4 : (Tryd.prog.info? 144).map (·.size) = some 4 := by kernel_rfl
def wL (N : Nat) : List Nat := [N % 18446744073709551616, N / 18446744073709551616 % 18446744073709551616, N / 18446744073709551616 / 18446744073709551616 % 18446744073709551616, N / 18446744073709551616 / 18446744073709551616 / 18446744073709551616 % 18446744073709551616]
theorem wL_len (N : Nat) : (wL N).length = 4 := rfl
theorem L_wL (N : Nat) : L N = .agg (ints .u64 (wL N)) := rfl
/-- By squares and products: as the words PL of the exponent say, from its bit 254 down. -/
def invG (PL : List Nat) (N : Nat) : Nat → Nat
  | 0 => 1
  | k + 1 => if PL.getD ((254 - k) / 64) 0 / 2 ^ ((254 - k) % 64) % 2 = 1 then (invG PL N k * invG PL N k % 57896044618658097711785492504343953926634992332820282019728792003956564819949) * N % 57896044618658097711785492504343953926634992332820282019728792003956564819949 else invG PL N k * invG PL N k % 57896044618658097711785492504343953926634992332820282019728792003956564819949
theorem invG_lt (PL : List Nat) (N : Nat) : ∀ k, invG PL N k < 115792089237316195423570985008687907853269984665640564039457584007913129639936
  | 0 => by simp [invG]
  | k + 1 => by
    unfold invG
    split
    · exact Nat.lt_trans (Nat.mod_lt _ (by decide)) (by decide)
    · exact Nat.lt_trans (Nat.mod_lt _ (by decide)) (by decide)
theorem prime_row {a0 a1 a2 a3 : Nat} {w : World} (h : PrimeP a0 a1 a2 a3 w) : ∃ cs t fr, w.heap[2]? = some (.cells cs t fr) ∧ ∀ (j : Nat) (v : Value), (ints .u64 [a0, a1, a2, a3])[j]? = some v → cs[0 + j]? = some v := by
  obtain ⟨_, h0, h1, h2, h3⟩ := h
  unfold World.cell? at h0 h1 h2 h3
  simp only at h0 h1 h2 h3
  split at h0
  · next cs t fr hg =>
    rw [hg] at h1 h2 h3
    refine ⟨cs, t, fr, hg, fun j v hj => ?_⟩
    rw [Nat.zero_add]
    match j, hj with
    | 0, hj => simp [ints] at hj; subst hj; exact h0
    | 1, hj => simp [ints] at hj; subst hj; exact h1
    | 2, hj => simp [ints] at hj; subst hj; exact h2
    | 3, hj => simp [ints] at hj; subst hj; exact h3
    | n + 4, hj => simp [ints] at hj
  · cases h0
section
variable {o : Oper} {a : Act} {x y : Operand}
theorem run_quoC64 {m z : Nat} (ho : o.op = .binOp .quo 3 x (.const (.int .i64 64)) 3) (hx : a.eval x = .int .i64 (m : Int)) (hz : z = m / 64) (hm : m < 1000) (w : World) : (execOp a.eval o).run Tryd.prog w = .ok (.value (.int .i64 (z : Int))) w := by
  unfold execOp
  simp only [ho, hx]
  subst hz
  simp [go_sem, Act.eval]
  try (simp only [IntKind.wrap_i64, wrap64]; omega)
theorem run_remC64 {m z : Nat} (ho : o.op = .binOp .rem 3 x (.const (.int .i64 64)) 3) (hx : a.eval x = .int .i64 (m : Int)) (hz : z = m % 64) (w : World) : (execOp a.eval o).run Tryd.prog w = .ok (.value (.int .i64 (z : Int))) w := by
  unfold execOp
  simp only [ho, hx]
  subst hz
  simp [go_sem, Act.eval]
  exact Int.tmod_eq_emod_of_nonneg (by omega)
theorem run_and1U {m z : Nat} (ho : o.op = .binOp .and 49 x (.const (.int .u64 1)) 49) (hx : a.eval x = .int .u64 (m : Int)) (hm : m < 18446744073709551616) (hz : z = m % 2) (w : World) : (execOp a.eval o).run Tryd.prog w = .ok (.value (.int .u64 (z : Int))) w := by
  have e3 : a.eval (.const (.int .u64 1)) = .int .u64 1 := rfl
  have h := u64_and_nat m 1 hm (by decide)
  rw [Nat.and_one_is_mod, ← hz] at h
  unfold execOp
  simp only [ho, hx, e3]
  simp [go_sem]
  exact h
theorem run_eq1U {m : Nat} {b : Bool} (ho : o.op = .binOp .eql 49 x (.const (.int .u64 1)) 49) (hx : a.eval x = .int .u64 (m : Int)) (hb : b = decide (m = 1)) (w : World) : (execOp a.eval o).run Tryd.prog w = .ok (.value (.bool b)) w := by
  unfold execOp
  simp only [ho, hx]
  subst hb
  by_cases h : m = 1
  · subst h; simp [go_sem, Act.eval]
  · have h2 : ¬ (m : Int) = 1 := by omega
    simp [go_sem, Act.eval, h, h2]
theorem run_sub2 {m z : Nat} (ho : o.op = .binOp .sub 49 x (.const (.int .u64 2)) 49) (hx : a.eval x = .int .u64 (m : Int)) (hz : z = (m + 18446744073709551614) % 18446744073709551616) (w : World) : (execOp a.eval o).run Tryd.prog w = .ok (.value (.int .u64 (z : Int))) w := by
  have e : IntKind.u64.wrap ((m : Int) - 2) = (z : Int) := by rw [IntKind.wrap_u64]; omega
  clear hz
  unfold execOp
  simp only [ho, hx]
  simp [go_sem, Act.eval, e]
end

set_option maxRecDepth 100000 in
set_option maxHeartbeats 4000000 in
theorem inverseP (a0 a1 a2 a3 N : Nat) (w : World) (hN : N < 115792089237316195423570985008687907853269984665640564039457584007913129639936) (hp : PrimeP a0 a1 a2 a3 w) :
    Calls Tryd.prog 95 #[L N] w fun e w' => e = .returned (L (invG [(a0 + 18446744073709551614) % 18446744073709551616, a1, a2, a3] N 255)) ∧ Below w.heap.size w w' := by
  rw [L_wL, L_wL]
  obtain ⟨e0, he0⟩ : ∃ e, e = (a0 + 18446744073709551614) % 18446744073709551616 := ⟨_, rfl⟩
  obtain ⟨AL, hAL⟩ : ∃ l, l = [a0, a1, a2, a3] := ⟨_, rfl⟩
  obtain ⟨PL, hPL⟩ : ∃ l, l = [e0, a1, a2, a3] := ⟨_, rfl⟩
  obtain ⟨XL, hXL⟩ : ∃ l, l = wL N := ⟨_, rfl⟩
  have hl4 := hp.1
  unfold lt4 at hl4
  have KPL : Kept (PL.length = 4 ∧ ∀ j x, PL[j]? = some x → x < 18446744073709551616) := ⟨⟨by rw [hPL]; rfl, fun j x hx => by
    rw [hPL] at hx
    have he : e0 < 18446744073709551616 := by rw [he0]; exact Nat.mod_lt _ (by decide)
    have hj : j < 4 := by have := (List.getElem?_eq_some_iff.1 hx).1; simpa using this
    have h4 : j = 0 ∨ j = 1 ∨ j = 2 ∨ j = 3 := by omega
    rcases h4 with rfl | rfl | rfl | rfl <;> simp at hx <;> omega⟩⟩
  have LA : Kept (AL.length = 4) := ⟨by rw [hAL]; rfl⟩
  have LX : Kept (XL.length = 4) := ⟨by rw [hXL]; rfl⟩
  have KS : Kept ((ints .u64 AL).setIfInBounds 0 (.int .u64 (e0 : Int)) = ints .u64 PL) := ⟨by rw [hAL, hPL]; rfl⟩
  have KA0 : Kept ((ints .u64 AL)[0]? = some (.int .u64 (a0 : Int)) ∧ 0 < (ints .u64 AL).size) := ⟨by rw [hAL]; exact ⟨rfl, by simp [ints]⟩⟩
  have K1 : Kept ((#[.int .u64 1, .int .u64 0, .int .u64 0, .int .u64 0] : Array Value) = ints .u64 (wL 1)) := ⟨rfl⟩
  have Ke0 : Kept (e0 = (a0 + 18446744073709551614) % 18446744073709551616) := ⟨he0⟩
  have KN : Kept _ := ⟨hN⟩
  have KXL : Kept (L N = .agg (ints .u64 XL)) := ⟨by rw [hXL]; rfl⟩
  rw [← he0, ← hPL]
  have q0 := (Below.refl w.heap.size w).alloc (Nat.le_refl _) (.cells (ints .u64 XL) 144)
  have q1 := q0.alloc q0.size (.cells #[.int .u64 0, .int .u64 0, .int .u64 0, .int .u64 0] 144)
  obtain ⟨w0, hw0⟩ : ∃ v, v = (w.alloc (.cells (ints .u64 XL) 144)).alloc (.cells #[.int .u64 0, .int .u64 0, .int .u64 0, .int .u64 0] 144) := ⟨_, rfl⟩
  have Q0 : Kept (Below w.heap.size w w0) := ⟨by rw [hw0]; exact q1⟩
  have BX : Kept (Blk w0 w.heap.size 144 (ints .u64 XL)) := ⟨by rw [hw0]; exact (blk_new w _ _).under ((Below.refl _ _).alloc (Nat.le_refl _) _)⟩
  have BR : Kept (Blk w0 (w.heap.size + 1) 144 #[.int .u64 0, .int .u64 0, .int .u64 0, .int .u64 0]) := ⟨by
    have := blk_new (w.alloc (.cells (ints .u64 XL) 144)) 144 #[.int .u64 0, .int .u64 0, .int .u64 0, .int .u64 0]
    rw [show (w.alloc (.cells (ints .u64 XL) 144)).heap.size = w.heap.size + 1 by simp] at this
    rw [hw0]
    exact this⟩
  have Kw0 : Kept _ := ⟨hw0⟩
  have KPr : Kept (∃ cs t fr, w0.heap[2]? = some (.cells cs t fr) ∧ ∀ (j : Nat) (v : Value), (ints .u64 AL)[j]? = some v → cs[0 + j]? = some v) := ⟨by rw [hAL]; exact prime_row (hp.below Q0.out)⟩
  rw [← hXL]
  clear hN hp he0 hAL hPL hXL hl4 q0 q1 hw0
  go_enter Tryd.func95, Tryd.ntmps95
  go_wp2_with (first | (rw [← Kw0.out]; fail) | ((with_reducible refine wv_rowF (d := 6) ?hd ?hw 144 (.global 2) ?ho (2) ?hx (ints .u64 AL) _ _ Tryd.underlying144 ?hs ?hg ?_); (case hd => rfl); (case hw => kernel_rfl); (case ho => rfl); (case hx => kernel_rfl); (case hs => rw [ints_size, LA.out]; exact inf4); (case hg => rw [← Kw0.out]; exact KPr.out); rw [← Kw0.out]; simp only [Act.put, List.setIfInBounds_toArray, List.set_cons_succ, List.set_cons_zero]) | (refine wl_store rfl 144 (.tmp 3) (.tmp 6) rfl w0.heap.size (ints .u64 AL) (by kernel_rfl) (by kernel_rfl) _ (blk_new _ _ _) (by rw [ints_size, LA.out]; exact inf4) (by first | (rw [ints_size, ints_size]; rfl) | (rw [ints_size, ints_size, LA.out]; simp) | (rw [ints_size, LA.out]; rfl)) (ints_one _ _) ?_; intro w5 hB5 hp5; simp only [Act.put, List.setIfInBounds_toArray, List.set_cons_succ, List.set_cons_zero]) | ((with_reducible refine wv_val (d := 7) ?hd ?hw (.pointer (some ⟨w0.heap.size, 0, none⟩)) ?hr ?_); (case hd => rfl); (case hw => kernel_rfl); (case hr => intro w; exact run_idx (i := 0) (g := w0.heap.size) (len := 4) rfl (by kernel_rfl) (by kernel_rfl) Tryd.underlying144 (by decide) Tryd.sizeOf49 w); simp only [Act.put, List.setIfInBounds_toArray, List.set_cons_succ, List.set_cons_zero]) | ((with_reducible refine wv_elem (d := 8) ?hd ?hw 49 Tryd.isAgg49 (.tmp 7) ?ho (⟨w0.heap.size, 0, none⟩) ?hx (.int .u64 (a0 : Int)) ?hc ?_); (case hd => rfl); (case hw => kernel_rfl); (case ho => rfl); (case hx => kernel_rfl); (case hc => exact hB5.cell KA0.out.1); simp only [Act.put, List.setIfInBounds_toArray, List.set_cons_succ, List.set_cons_zero]) | ((with_reducible refine wv_val (d := 9) ?hd ?hw (.int .u64 (e0 : Int)) ?hr ?_); (case hd => rfl); (case hw => kernel_rfl); (case hr => intro w; exact run_sub2 rfl (by kernel_rfl) Ke0.out w); simp only [Act.put, List.setIfInBounds_toArray, List.set_cons_succ, List.set_cons_zero]) | ((with_reducible refine wv_val (d := 10) ?hd ?hw (.pointer (some ⟨w0.heap.size, 0, none⟩)) ?hr ?_); (case hd => rfl); (case hw => kernel_rfl); (case hr => intro w; exact run_idx (i := 0) (g := w0.heap.size) (len := 4) rfl (by kernel_rfl) (by kernel_rfl) Tryd.underlying144 (by decide) Tryd.sizeOf49 w); simp only [Act.put, List.setIfInBounds_toArray, List.set_cons_succ, List.set_cons_zero]) | (refine wl_set1 rfl 49 Tryd.sizeOf49 (.tmp 10) (.tmp 9) rfl w0.heap.size 0 (.int .u64 (e0 : Int)) (by kernel_rfl) (by kernel_rfl) rfl (ints .u64 AL) hB5 KA0.out.2 ?_; intro w6 hB6 hp6; rw [KS.out] at hB6; simp only [Act.put, List.setIfInBounds_toArray, List.set_cons_succ, List.set_cons_zero]) | ((with_reducible refine wv_val (d := 11) ?hd ?hw (.agg (ints .u64 (wL 1))) ?hr ?_); (case hd => rfl); (case hw => kernel_rfl); (case hr => intro w; rw [← K1.out]; kernel_rfl); simp only [Act.put, List.setIfInBounds_toArray, List.set_cons_succ, List.set_cons_zero]) | (refine wl_store rfl 144 (.tmp 4) (.tmp 11) rfl w6.heap.size (ints .u64 (wL 1)) (by kernel_rfl) (by kernel_rfl) _ (blk_new _ _ _) (by rw [ints_size, wL_len 1]; exact inf4) (by first | (rw [ints_size, ints_size]; rfl) | (rw [ints_size, ints_size, wL_len 1]; simp) | (rw [ints_size, wL_len 1]; rfl)) (ints_one _ _) ?_; intro w7 hB7 hp7; simp only [Act.put, List.setIfInBounds_toArray, List.set_cons_succ, List.set_cons_zero]))
  have B4 : Kept _ := ⟨hB7⟩
  have BP : Kept _ := ⟨hB6⟩
  obtain ⟨gy, hgy⟩ : ∃ g, g = w6.heap.size := ⟨_, rfl⟩
  obtain ⟨gp, hgp⟩ : ∃ g, g = w0.heap.size := ⟨_, rfl⟩
  have p6 : Below w0.heap.size w0 w6 := (((Below.refl w0.heap.size w0).alloc (Nat.le_refl _) _).trans (hp5.below (Nat.le_refl _))).trans (hp6.below (Nat.le_refl _))
  have KP6 : Kept _ := ⟨p6⟩
  have P7 : Kept (Below w6.heap.size w6 w7) := ⟨((Below.refl w6.heap.size w6).alloc (Nat.le_refl _) _).trans (hp7.below (Nat.le_refl _))⟩
  rw [← hgy, ← hgp]
  have Kgy : Kept _ := ⟨hgy⟩
  have Kgp : Kept _ := ⟨hgp⟩
  clear hB5 hp5 hB6 hp6 hB7 hp7 p6 hgy hgp KPr KS KA0 K1
  go_loopg [5] 255 (fun g s5 wr => ∃ k : Nat, k + g = 255 ∧ s5 = .int .i64 (254 - (k : Int)) ∧ Blk wr gy 144 (ints .u64 (wL (invG PL N k))) ∧ Below w6.heap.size w6 wr)
  case atStart => exact ⟨0, by omega, rfl, by rw [Kgy.out]; exact B4.out, P7.out⟩
  case round =>
    rename World => wz
    obtain ⟨k, hik, rfl, hy, hbz⟩ := hrel
    by_cases hk0 : gk = 0
    case neg =>
      obtain ⟨i, hi⟩ : ∃ i : Nat, i + k = 254 := ⟨254 - k, by omega⟩
      have e5 : (254 - (k : Int)) = (i : Int) := by omega
      rw [e5]
      obtain ⟨Y, hY⟩ : ∃ y, y = invG PL N k := ⟨_, rfl⟩
      obtain ⟨S, hS⟩ : ∃ y, y = Y * Y % 57896044618658097711785492504343953926634992332820282019728792003956564819949 := ⟨_, rfl⟩
      obtain ⟨U, hU⟩ : ∃ y, y = S * N % 57896044618658097711785492504343953926634992332820282019728792003956564819949 := ⟨_, rfl⟩
      obtain ⟨q, hq⟩ : ∃ q, q = i / 64 := ⟨_, rfl⟩
      obtain ⟨r, hr⟩ : ∃ q, q = i % 64 := ⟨_, rfl⟩
      have hq4 : q < 4 := by omega
      have hr64 : r < 64 := by omega
      obtain ⟨pw, hpw⟩ : ∃ x, PL[q]? = some x := ⟨_, List.getElem?_eq_getElem (by rw [KPL.out.1]; exact hq4)⟩
      have hpl := KPL.out.2 q pw hpw
      obtain ⟨ps, hps⟩ : ∃ q, q = pw / 2 ^ r := ⟨_, rfl⟩
      obtain ⟨pb, hpb⟩ : ∃ q, q = ps % 2 := ⟨_, rfl⟩
      have hYl : Y < 115792089237316195423570985008687907853269984665640564039457584007913129639936 := by rw [hY]; exact invG_lt _ _ _
      have hSl : S < 115792089237316195423570985008687907853269984665640564039457584007913129639936 := by rw [hS]; exact Nat.lt_trans (Nat.mod_lt _ (by decide)) (by decide)
      have hstep : invG PL N (k + 1) = if pb = 1 then U else S := by
        have e1 : PL.getD ((254 - k) / 64) 0 = pw := by rw [show 254 - k = i by omega, ← hq, List.getD_eq_getElem?_getD, hpw]; rfl
        show (if PL.getD ((254 - k) / 64) 0 / 2 ^ ((254 - k) % 64) % 2 = 1 then _ else _) = _
        rw [e1, show (254 - k) % 64 = r by omega, ← hY, ← hS, ← hU, ← hps, ← hpb]
      have CY : Kept (∀ w, Calls Tryd.prog 93 #[.agg (ints .u64 (wL Y)), .agg (ints .u64 (wL Y))] w fun e w' => e = .returned (.agg (ints .u64 (wL S))) ∧ Below w.heap.size w w') := ⟨fun w => by rw [hS]; exact product_det Y Y w hYl hYl⟩
      have CU : Kept (∀ w, Calls Tryd.prog 93 #[.agg (ints .u64 (wL S)), .agg (ints .u64 XL)] w fun e w' => e = .returned (.agg (ints .u64 (wL U))) ∧ Below w.heap.size w w') := ⟨fun w => by
        have h9 := product_det S N w hSl KN.out
        rw [← hU, KXL.out] at h9
        exact h9⟩
      have Kst : Kept _ := ⟨hstep⟩
      have Kq : Kept (q = i / 64 ∧ r = i % 64 ∧ ps = pw / 2 ^ r ∧ pb = ps % 2 ∧ pw < 18446744073709551616) := ⟨⟨hq, hr, hps, hpb, hpl⟩⟩
      have Kq4 : Kept (q < 4 ∧ r < 64) := ⟨⟨hq4, hr64⟩⟩
      have Kpw : Kept ((ints .u64 PL)[q]? = some (.int .u64 (pw : Int))) := ⟨ints_get hpw⟩
      have Kyz : Kept (Blk wz gy 144 (ints .u64 (wL Y))) := ⟨by rw [hY]; exact hy⟩
      have Kbz : Kept _ := ⟨hbz⟩
      have hi0 : (0 : Int) ≤ (i : Int) := by omega
      have hi2 : -9223372036854775808 ≤ (i : Int) - 1 := by omega
      have Ki : Kept (i + k = 254 ∧ i < 1000) := ⟨⟨hi, by omega⟩⟩
      have Kgz : Kept (w6.heap.size ≤ gy) := ⟨by rw [Kgy.out]; exact Nat.le_refl _⟩
      clear e5 hY hS hU hq hr hps hpb hpw hpl hq4 hr64 hstep hy hbz hYl hSl hi
      go_wp2_with (first | ((with_reducible refine wv_row (d := 16) ?hd ?hw 144 (.tmp 4) ?ho (gy) ?hx (t' := 144) (ints .u64 (wL Y)) _ _ Tryd.underlying144 ?hs ?hg ?_); (case hd => rfl); (case hw => kernel_rfl); (case ho => rfl); (case hx => kernel_rfl); (case hs => rw [ints_size, wL_len Y]; exact inf4); (case hg => exact Kyz.out); simp only [Act.put, List.setIfInBounds_toArray, List.set_cons_succ, List.set_cons_zero]) | ((with_reducible refine wv_row (d := 17) ?hd ?hw 144 (.tmp 4) ?ho (gy) ?hx (t' := 144) (ints .u64 (wL Y)) _ _ Tryd.underlying144 ?hs ?hg ?_); (case hd => rfl); (case hw => kernel_rfl); (case ho => rfl); (case hx => kernel_rfl); (case hs => rw [ints_size, wL_len Y]; exact inf4); (case hg => exact Kyz.out); simp only [Act.put, List.setIfInBounds_toArray, List.set_cons_succ, List.set_cons_zero]))
      refine (CY.out _).mono ?_
      rintro e wa ⟨rfl, qa⟩
      have Kya : Kept _ := ⟨Kyz.out.under qa⟩
      have Kba : Kept _ := ⟨Kbz.out.trans (qa.mono Kbz.out.size)⟩
      clear qa Kyz Kbz
      obtain ⟨bb, hbb⟩ : ∃ b, b = decide (pb = 1) := ⟨_, rfl⟩
      have Kbb : Kept _ := ⟨hbb⟩
      clear hbb
      have Kpz : Kept (Blk wa gp 144 (ints .u64 PL)) := ⟨by rw [Kgp.out]; exact BP.out.under Kba.out⟩
      have Kxz : Kept (Blk wa w.heap.size 144 (ints .u64 XL)) := ⟨(BX.out.under KP6.out).under Kba.out⟩
      have Kng : Kept (some gp ≠ some gy ∧ some w.heap.size ≠ some gy) := ⟨⟨fun e => by have h1 := BP.out.lt; have h2 := Kgp.out; have h3 := Kgy.out; have h4 := Option.some.inj e; omega, fun e => by have h1 := BX.out.lt; have h2 := KP6.out.size; have h3 := Kgy.out; have h4 := Option.some.inj e; omega⟩⟩
      cases bb with
      | true =>
        go_wp2_with (first | (refine wl_store rfl 144 (.tmp 4) (.tmp 18) rfl gy (ints .u64 (wL S)) (by kernel_rfl) (by kernel_rfl) _ Kya.out (by rw [ints_size, wL_len S]; exact inf4) (by first | (rw [ints_size, ints_size]; rfl) | (rw [ints_size, ints_size, wL_len S]; simp) | (rw [ints_size, wL_len S]; rfl)) (ints_one _ _) ?_; intro wb hBb hpb; simp only [Act.put, List.setIfInBounds_toArray, List.set_cons_succ, List.set_cons_zero]) | ((with_reducible refine wv_val (d := 20) ?hd ?hw (.int .i64 (q : Int)) ?hr ?_); (case hd => rfl); (case hw => kernel_rfl); (case hr => intro w; exact run_quoC64 rfl (by kernel_rfl) Kq.out.1 Ki.out.2 w); simp only [Act.put, List.setIfInBounds_toArray, List.set_cons_succ, List.set_cons_zero]) | ((with_reducible refine wv_val (d := 21) ?hd ?hw (.pointer (some ⟨gp, q, none⟩)) ?hr ?_); (case hd => rfl); (case hw => kernel_rfl); (case hr => intro w; exact run_idx (i := q) (g := gp) (len := 4) rfl (by kernel_rfl) (by kernel_rfl) Tryd.underlying144 Kq4.out.1 Tryd.sizeOf49 w); simp only [Act.put, List.setIfInBounds_toArray, List.set_cons_succ, List.set_cons_zero]) | ((with_reducible refine wv_elem (d := 22) ?hd ?hw 49 Tryd.isAgg49 (.tmp 21) ?ho (⟨gp, q, none⟩) ?hx (.int .u64 (pw : Int)) ?hc ?_); (case hd => rfl); (case hw => kernel_rfl); (case ho => rfl); (case hx => kernel_rfl); (case hc => exact (blk_grown hpb.grown Kpz.out Kng.out.1).cell Kpw.out); simp only [Act.put, List.setIfInBounds_toArray, List.set_cons_succ, List.set_cons_zero]) | ((with_reducible refine wv_val (d := 24) ?hd ?hw (.int .i64 (r : Int)) ?hr ?_); (case hd => rfl); (case hw => kernel_rfl); (case hr => intro w; exact run_remC64 rfl (by kernel_rfl) Kq.out.2.1 w); simp only [Act.put, List.setIfInBounds_toArray, List.set_cons_succ, List.set_cons_zero]) | ((with_reducible refine wv_val (d := 25) ?hd ?hw (.int .u64 (ps : Int)) ?hr ?_); (case hd => rfl); (case hw => kernel_rfl); (case hr => intro w; exact run_shr64V rfl (by kernel_rfl) (by kernel_rfl) Kq4.out.2 Kq.out.2.2.2.2 Kq.out.2.2.1 w); simp only [Act.put, List.setIfInBounds_toArray, List.set_cons_succ, List.set_cons_zero]) | ((with_reducible refine wv_val (d := 26) ?hd ?hw (.int .u64 (pb : Int)) ?hr ?_); (case hd => rfl); (case hw => kernel_rfl); (case hr => intro w; exact run_and1U rfl (by kernel_rfl) (by rw [Kq.out.2.2.1]; exact Nat.lt_of_le_of_lt (Nat.div_le_self _ _) Kq.out.2.2.2.2) Kq.out.2.2.2.1 w); simp only [Act.put, List.setIfInBounds_toArray, List.set_cons_succ, List.set_cons_zero]) | ((with_reducible refine wv_val (d := 27) ?hd ?hw (.bool true) ?hr ?_); (case hd => rfl); (case hw => kernel_rfl); (case hr => intro w; exact run_eq1U rfl (by kernel_rfl) Kbb.out w); simp only [Act.put, List.setIfInBounds_toArray, List.set_cons_succ, List.set_cons_zero]) | ((with_reducible refine wv_row (d := 28) ?hd ?hw 144 (.tmp 4) ?ho (gy) ?hx (t' := 144) (ints .u64 (wL S)) _ _ Tryd.underlying144 ?hs ?hg ?_); (case hd => rfl); (case hw => kernel_rfl); (case ho => rfl); (case hx => kernel_rfl); (case hs => rw [ints_size, wL_len S]; exact inf4); (case hg => exact hBb); simp only [Act.put, List.setIfInBounds_toArray, List.set_cons_succ, List.set_cons_zero]) | ((with_reducible refine wv_row (d := 29) ?hd ?hw 144 (.tmp 1) ?ho (w.heap.size) ?hx (t' := 144) (ints .u64 XL) _ _ Tryd.underlying144 ?hs ?hg ?_); (case hd => rfl); (case hw => kernel_rfl); (case ho => rfl); (case hx => kernel_rfl); (case hs => rw [ints_size, LX.out]; exact inf4); (case hg => exact (blk_grown hpb.grown Kxz.out Kng.out.2)); simp only [Act.put, List.setIfInBounds_toArray, List.set_cons_succ, List.set_cons_zero]))
        refine (CU.out _).mono ?_
        rintro e wc ⟨rfl, qc⟩
        have Kyc : Kept _ := ⟨hBb.under qc⟩
        have pb2 := Kba.out.trans (hpb.below Kgz.out)
        have Kbc : Kept _ := ⟨pb2.trans (qc.mono pb2.size)⟩
        clear pb2 qc hBb hpb
        go_wp2_with (first | (refine wl_store rfl 144 (.tmp 4) (.tmp 30) rfl gy (ints .u64 (wL U)) (by kernel_rfl) (by kernel_rfl) _ Kyc.out (by rw [ints_size, wL_len U]; exact inf4) (by first | (rw [ints_size, ints_size]; rfl) | (rw [ints_size, ints_size, wL_len U]; simp) | (rw [ints_size, wL_len U]; rfl)) (ints_one _ _) ?_; intro wd hBd hpd; simp only [Act.put, List.setIfInBounds_toArray, List.set_cons_succ, List.set_cons_zero]))
        go_roundg (gk - 1)
        case measure => omega
        case rel => exact ⟨k + 1, by omega, by rw [show (254 - ((k + 1 : Nat) : Int)) = (i : Int) - 1 by have := Ki.out.1; omega, show wrap64 ((i : Int) - 1) = (i : Int) - 1 by have := Ki.out.2; unfold wrap64; omega], by rw [Kst.out, if_pos (of_decide_eq_true Kbb.out.symm)]; exact hBd, Kbc.out.trans (hpd.below Kgz.out)⟩
      | false =>
        go_wp2_with (first | (refine wl_store rfl 144 (.tmp 4) (.tmp 18) rfl gy (ints .u64 (wL S)) (by kernel_rfl) (by kernel_rfl) _ Kya.out (by rw [ints_size, wL_len S]; exact inf4) (by first | (rw [ints_size, ints_size]; rfl) | (rw [ints_size, ints_size, wL_len S]; simp) | (rw [ints_size, wL_len S]; rfl)) (ints_one _ _) ?_; intro wb hBb hpb; simp only [Act.put, List.setIfInBounds_toArray, List.set_cons_succ, List.set_cons_zero]) | ((with_reducible refine wv_val (d := 20) ?hd ?hw (.int .i64 (q : Int)) ?hr ?_); (case hd => rfl); (case hw => kernel_rfl); (case hr => intro w; exact run_quoC64 rfl (by kernel_rfl) Kq.out.1 Ki.out.2 w); simp only [Act.put, List.setIfInBounds_toArray, List.set_cons_succ, List.set_cons_zero]) | ((with_reducible refine wv_val (d := 21) ?hd ?hw (.pointer (some ⟨gp, q, none⟩)) ?hr ?_); (case hd => rfl); (case hw => kernel_rfl); (case hr => intro w; exact run_idx (i := q) (g := gp) (len := 4) rfl (by kernel_rfl) (by kernel_rfl) Tryd.underlying144 Kq4.out.1 Tryd.sizeOf49 w); simp only [Act.put, List.setIfInBounds_toArray, List.set_cons_succ, List.set_cons_zero]) | ((with_reducible refine wv_elem (d := 22) ?hd ?hw 49 Tryd.isAgg49 (.tmp 21) ?ho (⟨gp, q, none⟩) ?hx (.int .u64 (pw : Int)) ?hc ?_); (case hd => rfl); (case hw => kernel_rfl); (case ho => rfl); (case hx => kernel_rfl); (case hc => exact (blk_grown hpb.grown Kpz.out Kng.out.1).cell Kpw.out); simp only [Act.put, List.setIfInBounds_toArray, List.set_cons_succ, List.set_cons_zero]) | ((with_reducible refine wv_val (d := 24) ?hd ?hw (.int .i64 (r : Int)) ?hr ?_); (case hd => rfl); (case hw => kernel_rfl); (case hr => intro w; exact run_remC64 rfl (by kernel_rfl) Kq.out.2.1 w); simp only [Act.put, List.setIfInBounds_toArray, List.set_cons_succ, List.set_cons_zero]) | ((with_reducible refine wv_val (d := 25) ?hd ?hw (.int .u64 (ps : Int)) ?hr ?_); (case hd => rfl); (case hw => kernel_rfl); (case hr => intro w; exact run_shr64V rfl (by kernel_rfl) (by kernel_rfl) Kq4.out.2 Kq.out.2.2.2.2 Kq.out.2.2.1 w); simp only [Act.put, List.setIfInBounds_toArray, List.set_cons_succ, List.set_cons_zero]) | ((with_reducible refine wv_val (d := 26) ?hd ?hw (.int .u64 (pb : Int)) ?hr ?_); (case hd => rfl); (case hw => kernel_rfl); (case hr => intro w; exact run_and1U rfl (by kernel_rfl) (by rw [Kq.out.2.2.1]; exact Nat.lt_of_le_of_lt (Nat.div_le_self _ _) Kq.out.2.2.2.2) Kq.out.2.2.2.1 w); simp only [Act.put, List.setIfInBounds_toArray, List.set_cons_succ, List.set_cons_zero]) | ((with_reducible refine wv_val (d := 27) ?hd ?hw (.bool false) ?hr ?_); (case hd => rfl); (case hw => kernel_rfl); (case hr => intro w; exact run_eq1U rfl (by kernel_rfl) Kbb.out w); simp only [Act.put, List.setIfInBounds_toArray, List.set_cons_succ, List.set_cons_zero]))
        go_roundg (gk - 1)
        case measure => omega
        case rel => exact ⟨k + 1, by omega, by rw [show (254 - ((k + 1 : Nat) : Int)) = (i : Int) - 1 by have := Ki.out.1; omega, show wrap64 ((i : Int) - 1) = (i : Int) - 1 by have := Ki.out.2; unfold wrap64; omega], by rw [Kst.out, if_neg (of_decide_eq_false Kbb.out.symm)]; exact hBb, Kba.out.trans (hpb.below Kgz.out)⟩
    case pos =>
      obtain rfl : k = 255 := by omega
      rw [show (254 - ((255 : Nat) : Int)) = -1 by decide]
      have Kyz : Kept _ := ⟨hy⟩
      have Kbz : Kept _ := ⟨hbz⟩
      have Krz : Kept (Blk wz (w.heap.size + 1) 144 #[.int .u64 0, .int .u64 0, .int .u64 0, .int .u64 0]) := ⟨(BR.out.under KP6.out).under hbz⟩
      obtain ⟨Y, hY⟩ : ∃ y, y = invG PL N 255 := ⟨_, rfl⟩
      rw [← hY] at Kyz
      have KY : Kept _ := ⟨hY⟩
      clear hy hbz hY
      go_wp2_with (first | ((with_reducible refine wv_row (d := 31) ?hd ?hw 144 (.tmp 4) ?ho (gy) ?hx (t' := 144) (ints .u64 (wL Y)) _ _ Tryd.underlying144 ?hs ?hg ?_); (case hd => rfl); (case hw => kernel_rfl); (case ho => rfl); (case hx => kernel_rfl); (case hs => rw [ints_size, wL_len Y]; exact inf4); (case hg => exact Kyz.out); simp only [Act.put, List.setIfInBounds_toArray, List.set_cons_succ, List.set_cons_zero]) | (refine wl_store rfl 144 (.tmp 2) (.tmp 31) rfl (w.heap.size + 1) (ints .u64 (wL Y)) (by kernel_rfl) (by kernel_rfl) _ Krz.out (by rw [ints_size, wL_len Y]; exact inf4) (by first | (rw [ints_size, ints_size]; rfl) | (rw [ints_size, ints_size, wL_len Y]; simp) | (rw [ints_size, wL_len Y]; rfl)) (ints_one _ _) ?_; intro we hBe hpe; simp only [Act.put, List.setIfInBounds_toArray, List.set_cons_succ, List.set_cons_zero]))
      refine ⟨rfl, _, results_cell_row Tryd.results95 _ _ _ 144 (ints .u64 (wL Y)) (0, 0) _ rfl hBe Tryd.underlying144 rfl (by rw [ints_size, wL_len Y]; exact inf4), by rw [← KY.out], ?_⟩
      have p6 := Q0.out.trans (KP6.out.mono Q0.out.size)
      exact (p6.trans (Kbz.out.mono p6.size)).trans (hpe.below (by omega))
end Go.Proofs.YtjkdonjcngmjeaaDoor.sh
