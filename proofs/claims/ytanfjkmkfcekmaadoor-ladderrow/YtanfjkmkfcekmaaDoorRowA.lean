/-
  Joined texts: L3 Open2 L4.
-/
import Derived.Test.YtanfjkmkfcekmaaDoorS1
import Derived.Test.YtanfjkmkfcekmaaDoorModA
import Derived.Deep.LoopGhost
import Derived.Test.YtanfjkmkfcekmaaDoorOpen
import Derived.Deep.Slices
/-
  What LimbSums answers: true, whatever the numbers and the place to begin at are.
-/
namespace Go.Proofs.YtanfjkmkfcekmaaDoor
open Go.RowKit
set_option linter.unusedSimpArgs false
set_option linter.unusedVariables false

theorem add_block (A : Addr) (k : Nat) : (A.add k).block = A.block := by unfold Addr.add; split <;> rfl

/-- A slice of numbers lies at A, in a world and in all that leave it. -/
structure Lies (w : World) (A : Addr) (len : Nat) (f : Nat → Nat) : Prop where
  lt : A.block < w.heap.size
  cells : ∀ i, i < len → ∀ j v, (numA (f i))[j]? = some v → w.cell? ((A.add (i * 32)).add j) = some v
theorem Lies.below {w w' : World} {A : Addr} {len : Nat} {f : Nat → Nat} (h : Lies w A len f) (hb : Below w.heap.size w w') : Lies w' A len f :=
  ⟨Nat.lt_of_lt_of_le h.lt hb.size, fun i hi j v hv => by rw [hb.cell (by rw [add_block, add_block]; exact h.lt)]; exact h.cells i hi j v hv⟩

set_option maxHeartbeats 1000000 in
theorem sums_none (A : Option Addr) (cap : Nat) (s : Nat) (w : World) (hs : s < 256) (hp : PrimeAt w) :
    Calls Tryd.prog 5 #[.slice A 0 cap, .int .u8 (s : Int)] w fun e w' => e = .returned (.bool true) ∧ Below w.heap.size w w' := by
  have HP : Kept _ := ⟨hp⟩
  clear hp
  go_enter Tryd.func5, Tryd.ntmps5
  go_wp2_with fail
  refine (alive_any _ HP.out).mono ?_
  rintro e w1 ⟨rfl, hb1⟩
  have H1 : Kept _ := ⟨hb1⟩
  clear hb1
  go_wp2_with fail
  go_ret
  exact ⟨rfl, H1.out⟩

set_option maxHeartbeats 1000000 in
theorem sums_any (A : Addr) (len cap : Nat) (f : Nat → Nat) (s : Nat) (w : World) (lf : ∀ i, i < len → f i < 115792089237316195423570985008687907853269984665640564039457584007913129639936) (hc : Lies w A len f) (hs : s < 256) (hp : PrimeAt w) :
    Calls Tryd.prog 5 #[.slice (some A) len cap, .int .u8 (s : Int)] w fun e w' => e = .returned (.bool true) ∧ Below w.heap.size w w' := by
  have LF : Kept _ := ⟨lf⟩
  have HC : Kept _ := ⟨hc⟩
  have HP : Kept _ := ⟨hp⟩
  clear lf hc hp
  go_enter Tryd.func5, Tryd.ntmps5
  go_wp2_with fail
  refine (alive_any _ HP.out).mono ?_
  rintro e w1 ⟨rfl, hb1⟩
  have H1 : Kept _ := ⟨hb1⟩
  clear hb1
  by_cases h40 : 40 < len
  · have hd : decide ((40 : Int) < (len : Int)) = true := decide_eq_true (by omega)
    go_wp2_with fail
    go_ret
    exact ⟨rfl, H1.out⟩
  by_cases h0 : len = 0
  · subst h0
    go_wp2_with fail
    go_ret
    exact ⟨rfl, H1.out⟩
  have hd : decide ((40 : Int) < (len : Int)) = false := decide_eq_false (by omega)
  have hne : (len : Int) ≠ 0 := by omega
  have hz0 : ((len : Int) == 0) = false := by simpa using h0
  go_wp2_with fail
  obtain ⟨q, hq⟩ : ∃ q, q = s % len := ⟨_, rfl⟩
  have hql : q < len := by rw [hq]; exact Nat.mod_lt _ (by omega)
  rw [show ((s : Int) % (len : Int)) = (q : Int) from by rw [hq]; simp]
  generalize hW : (w1.alloc (.cells #[.int .u8 0, .int .u8 0, .int .u8 0, .int .u8 0, .int .u8 0, .int .u8 0, .int .u8 0, .int .u8 0, .int .u8 0, .int .u8 0, .int .u8 0, .int .u8 0, .int .u8 0, .int .u8 0, .int .u8 0, .int .u8 0, .int .u8 0, .int .u8 0, .int .u8 0, .int .u8 0, .int .u8 0, .int .u8 0, .int .u8 0, .int .u8 0, .int .u8 0, .int .u8 0, .int .u8 0, .int .u8 0, .int .u8 0, .int .u8 0, .int .u8 0, .int .u8 0] 22)).alloc (.cells #[.int .u8 0, .int .u8 0, .int .u8 0, .int .u8 0, .int .u8 0, .int .u8 0, .int .u8 0, .int .u8 0, .int .u8 0, .int .u8 0, .int .u8 0, .int .u8 0, .int .u8 0, .int .u8 0, .int .u8 0, .int .u8 0, .int .u8 0, .int .u8 0, .int .u8 0, .int .u8 0, .int .u8 0, .int .u8 0, .int .u8 0, .int .u8 0, .int .u8 0, .int .u8 0, .int .u8 0, .int .u8 0, .int .u8 0, .int .u8 0, .int .u8 0, .int .u8 0] 22) = W2
  have A2 : At W2 w1.heap.size 0 := by subst hW; exact (at_new w1 0).alloc _
  have B2 : At W2 (w1.heap.size + 1) 0 := by
    subst hW
    have h := at_new (w1.alloc (.cells (numA 0) 22)) 0
    rw [show (w1.alloc (.cells (numA 0) 22)).heap.size = w1.heap.size + 1 from by simp] at h
    exact h
  have Q2 : Below w.heap.size w W2 := by subst hW; exact (H1.out.alloc H1.out.size _).alloc (by have := H1.out.size; simp; omega) _
  have hg : w.heap.size ≤ w1.heap.size := H1.out.size
  clear hW hq H1
  generalize w1.heap.size = g at *
  go_loopg [27] len (fun k s27 wr => ∃ i x y : Nat, i + k = len ∧ s27 = .int .i64 (i : Int) ∧ Below w.heap.size w wr ∧ At wr g x ∧ At wr (g + 1) y ∧ Kept (x = sumTo f i % 57896044618658097711785492504343953926634992332820282019728792003956564819949 ∧ y = sumTo (fun i => f ((i + q) % len)) i % 57896044618658097711785492504343953926634992332820282019728792003956564819949))
  case atStart => exact ⟨0, 0, 0, by omega, rfl, Q2, A2, B2, ⟨rfl, rfl⟩⟩
  case round =>
    obtain ⟨i, x, y, hik, rfl, HB, Ax, Ay, KE⟩ := hrel
    clear Q2 A2 B2
    have lx : x < 115792089237316195423570985008687907853269984665640564039457584007913129639936 := by rw [KE.out.1]; exact Nat.lt_trans (Nat.mod_lt _ (by decide)) (by decide)
    have ly : y < 115792089237316195423570985008687907853269984665640564039457584007913129639936 := by rw [KE.out.2]; exact Nat.lt_trans (Nat.mod_lt _ (by decide)) (by decide)
    have LX : Kept _ := ⟨lx⟩
    have LY : Kept _ := ⟨ly⟩
    have HL : Kept _ := ⟨HC.out.below HB⟩
    clear lx ly
    by_cases hk0 : gk = 0
    · obtain rfl : i = len := by omega
      subst hk0
      clear hik
      have KXY : Kept (y = x) := ⟨by rw [KE.out.1, KE.out.2, sumTo_round f hql]⟩
      clear KE
      rw [KXY.out] at Ay
      clear KXY LY
      obtain ⟨z, ez⟩ : ∃ z, z = f q := ⟨_, rfl⟩
      have LZ : Kept (z < 115792089237316195423570985008687907853269984665640564039457584007913129639936) := ⟨by rw [ez]; exact LF.out q hql⟩
      have CZ : Kept (∀ j v, (numA z)[j]? = some v → wr.cell? ((A.add (q * 32)).add j) = some v) := ⟨by rw [ez]; exact HL.out.cells q hql⟩
      clear ez
      go_wp2_with (first | (refine wpList_load_cells rfl 22 _ rfl (A.add (q * 32)) rfl (numA z) _ CZ.out Tryd.underlying22 rfl ?hs ?_; (case hs => rw [numA_size]; kernel_rfl)) | (refine wpList_put rfl (.tmp 9) (.tmp 51) rfl _ z rfl rfl (room_top _ _ rfl) ?_))
      intro w5 Az P5
      have Fx := P5.at (Ax.alloc _) (Nat.ne_of_lt Ax.lt)
      have Fy := P5.at (Ay.alloc _) (Nat.ne_of_lt Ay.lt)
      have Fz := Az
      have Q5 : Below w.heap.size w w5 := (HB.alloc HB.size _).trans (P5.below HB.size)
      have HQ : Kept _ := ⟨Q5⟩
      have HPW := PrimeAt.below HP.out Q5
      clear P5 Ax Ay Az HB Q5 CZ HL
      generalize wr.heap.size = gz at *
      go_wp2_with fail
      have lx := LX.out
      have lz := LZ.out
      have l2 : 2 < 115792089237316195423570985008687907853269984665640564039457584007913129639936 := by decide
      obtain ⟨u1, eu1⟩ : ∃ u1, u1 = (z + z) % 57896044618658097711785492504343953926634992332820282019728792003956564819949 := ⟨_, rfl⟩
      have lu1 : u1 < 115792089237316195423570985008687907853269984665640564039457584007913129639936 := by rw [eu1]; exact Nat.lt_trans (Nat.mod_lt _ (by decide)) (by decide)
      obtain ⟨u2, eu2⟩ : ∃ u2, u2 = z * 2 % 57896044618658097711785492504343953926634992332820282019728792003956564819949 := ⟨_, rfl⟩
      have lu2 : u2 < 115792089237316195423570985008687907853269984665640564039457584007913129639936 := by rw [eu2]; exact Nat.lt_trans (Nat.mod_lt _ (by decide)) (by decide)
      obtain ⟨u3, eu3⟩ : ∃ u3, u3 = (x + z) % 57896044618658097711785492504343953926634992332820282019728792003956564819949 := ⟨_, rfl⟩
      have lu3 : u3 < 115792089237316195423570985008687907853269984665640564039457584007913129639936 := by rw [eu3]; exact Nat.lt_trans (Nat.mod_lt _ (by decide)) (by decide)
      obtain ⟨u4, eu4⟩ : ∃ u4, u4 = (u3 + (57896044618658097711785492504343953926634992332820282019728792003956564819949 - z % 57896044618658097711785492504343953926634992332820282019728792003956564819949)) % 57896044618658097711785492504343953926634992332820282019728792003956564819949 := ⟨_, rfl⟩
      have lu4 : u4 < 115792089237316195423570985008687907853269984665640564039457584007913129639936 := by rw [eu4]; exact Nat.lt_trans (Nat.mod_lt _ (by decide)) (by decide)
      obtain ⟨u5, eu5⟩ : ∃ u5, u5 = x % 57896044618658097711785492504343953926634992332820282019728792003956564819949 := ⟨_, rfl⟩
      have lu5 : u5 < 115792089237316195423570985008687907853269984665640564039457584007913129639936 := by rw [eu5]; exact Nat.lt_trans (Nat.mod_lt _ (by decide)) (by decide)
      have C_limb_Add_z_z : ∀ w', Below w5.heap.size w5 w' → Calls Tryd.prog 13 [.agg (numA z), .agg (numA z)].toArray w' fun e w2 => e = .returned (.agg (numA u1)) ∧ Below w5.heap.size w5 w2 := fun w' hb => by rw [eu1]; exact (Add_any z z w' lz lz).mono fun e w2 hh => ⟨hh.1, hb.trans (hh.2.mono hb.size)⟩
      have C_limb_Mul_z_2 : ∀ w', Below w5.heap.size w5 w' → Calls Tryd.prog 17 [.agg (numA z), .agg (numA 2)].toArray w' fun e w2 => e = .returned (.agg (numA u2)) ∧ Below w5.heap.size w5 w2 := fun w' hb => by rw [eu2]; exact (Mul_any z 2 w' lz l2).mono fun e w2 hh => ⟨hh.1, hb.trans (hh.2.mono hb.size)⟩
      have C_limb_Add_x_z : ∀ w', Below w5.heap.size w5 w' → Calls Tryd.prog 13 [.agg (numA x), .agg (numA z)].toArray w' fun e w2 => e = .returned (.agg (numA u3)) ∧ Below w5.heap.size w5 w2 := fun w' hb => by rw [eu3]; exact (Add_any x z w' lx lz).mono fun e w2 hh => ⟨hh.1, hb.trans (hh.2.mono hb.size)⟩
      have C_limb_Sub_u3_z : ∀ w', Below w5.heap.size w5 w' → Calls Tryd.prog 15 [.agg (numA u3), .agg (numA z)].toArray w' fun e w2 => e = .returned (.agg (numA u4)) ∧ Below w5.heap.size w5 w2 := fun w' hb => by rw [eu4]; exact (Sub_any u3 z w' lu3 lz (PrimeAt.below HPW hb)).mono fun e w2 hh => ⟨hh.1, hb.trans (hh.2.mono hb.size)⟩
      have C_limb_Reduce_x : ∀ w', Below w5.heap.size w5 w' → Calls Tryd.prog 11 [.agg (numA x)].toArray w' fun e w2 => e = .returned (.agg (numA u5)) ∧ Below w5.heap.size w5 w2 := fun w' hb => by rw [eu5]; exact (Reduce_any x w' lx).mono fun e w2 hh => ⟨hh.1, hb.trans (hh.2.mono hb.size)⟩
      refine wp_region_quiet (C := fun w' => Below w5.heap.size w5 w') (by kernel_rfl) (by kernel_rfl) (Below.drew (Below.refl _ _)) ?_
      refine q_load (by kernel_rfl) 22 _ (g) 22 (numA x) (0, 0) _ rfl (by kernel_rfl) (fun w' hb => At.under Fx hb) Tryd.underlying22 rfl (by rw [numA_size]; kernel_rfl) ?_
      simp only [Act.put, List.setIfInBounds_toArray, List.set_cons_succ, List.set_cons_zero]
      refine q_load (by kernel_rfl) 22 _ (g + 1) 22 (numA x) (0, 0) _ rfl (by kernel_rfl) (fun w' hb => At.under Fy hb) Tryd.underlying22 rfl (by rw [numA_size]; kernel_rfl) ?_
      simp only [Act.put, List.setIfInBounds_toArray, List.set_cons_succ, List.set_cons_zero]
      refine q_val (by kernel_rfl) (.bool true) (fun w' => (run_eql_num (t := 22) (e := 5) x x rfl (by kernel_rfl) (by kernel_rfl) lx lx Tryd.underlying22 Tryd.underlying5 sz5 ag5 eqG w').trans (by rw [show decide (x = x) = true from decide_eq_true rfl])) ?_
      simp only [Act.put, List.setIfInBounds_toArray, List.set_cons_succ, List.set_cons_zero]
      refine q_val (by kernel_rfl) (.bool true) (fun w' => by kernel_rfl) ?_
      simp only [Act.put, List.setIfInBounds_toArray, List.set_cons_succ, List.set_cons_zero]
      refine q_load (by kernel_rfl) 22 _ (gz) 22 (numA z) (0, 0) _ rfl (by kernel_rfl) (fun w' hb => At.under Fz hb) Tryd.underlying22 rfl (by rw [numA_size]; kernel_rfl) ?_
      simp only [Act.put, List.setIfInBounds_toArray, List.set_cons_succ, List.set_cons_zero]
      refine q_load (by kernel_rfl) 22 _ (gz) 22 (numA z) (0, 0) _ rfl (by kernel_rfl) (fun w' hb => At.under Fz hb) Tryd.underlying22 rfl (by rw [numA_size]; kernel_rfl) ?_
      simp only [Act.put, List.setIfInBounds_toArray, List.set_cons_succ, List.set_cons_zero]
      refine q_call (by kernel_rfl) 13 Tryd.f13 _ _ _ [.agg (numA z), .agg (numA z)] (.agg (numA u1)) rfl (by kernel_rfl) Tryd.func13 (by kernel_rfl) rfl C_limb_Add_z_z ?_
      simp only [Act.put, List.setIfInBounds_toArray, List.set_cons_succ, List.set_cons_zero]
      refine q_load (by kernel_rfl) 22 _ (gz) 22 (numA z) (0, 0) _ rfl (by kernel_rfl) (fun w' hb => At.under Fz hb) Tryd.underlying22 rfl (by rw [numA_size]; kernel_rfl) ?_
      simp only [Act.put, List.setIfInBounds_toArray, List.set_cons_succ, List.set_cons_zero]
      refine q_val (by kernel_rfl) (.agg (numA 2)) (fun w' => by kernel_rfl) ?_
      simp only [Act.put, List.setIfInBounds_toArray, List.set_cons_succ, List.set_cons_zero]
      refine q_call (by kernel_rfl) 17 Tryd.f17 _ _ _ [.agg (numA z), .agg (numA 2)] (.agg (numA u2)) rfl (by kernel_rfl) Tryd.func17 (by kernel_rfl) rfl C_limb_Mul_z_2 ?_
      simp only [Act.put, List.setIfInBounds_toArray, List.set_cons_succ, List.set_cons_zero]
      refine q_val (by kernel_rfl) (.bool true) (fun w' => (run_eql_num (t := 22) (e := 5) u1 u2 rfl (by kernel_rfl) (by kernel_rfl) lu1 lu2 Tryd.underlying22 Tryd.underlying5 sz5 ag5 eqG w').trans (by rw [show decide (u1 = u2) = true from decide_eq_true (by rw [eu1, eu2]; omega)])) ?_
      simp only [Act.put, List.setIfInBounds_toArray, List.set_cons_succ, List.set_cons_zero]
      refine q_val (by kernel_rfl) (.bool true) (fun w' => by kernel_rfl) ?_
      simp only [Act.put, List.setIfInBounds_toArray, List.set_cons_succ, List.set_cons_zero]
      refine q_val (by kernel_rfl) (.bool true) (fun w' => by kernel_rfl) ?_
      simp only [Act.put, List.setIfInBounds_toArray, List.set_cons_succ, List.set_cons_zero]
      refine q_load (by kernel_rfl) 22 _ (g) 22 (numA x) (0, 0) _ rfl (by kernel_rfl) (fun w' hb => At.under Fx hb) Tryd.underlying22 rfl (by rw [numA_size]; kernel_rfl) ?_
      simp only [Act.put, List.setIfInBounds_toArray, List.set_cons_succ, List.set_cons_zero]
      refine q_load (by kernel_rfl) 22 _ (gz) 22 (numA z) (0, 0) _ rfl (by kernel_rfl) (fun w' hb => At.under Fz hb) Tryd.underlying22 rfl (by rw [numA_size]; kernel_rfl) ?_
      simp only [Act.put, List.setIfInBounds_toArray, List.set_cons_succ, List.set_cons_zero]
      refine q_call (by kernel_rfl) 13 Tryd.f13 _ _ _ [.agg (numA x), .agg (numA z)] (.agg (numA u3)) rfl (by kernel_rfl) Tryd.func13 (by kernel_rfl) rfl C_limb_Add_x_z ?_
      simp only [Act.put, List.setIfInBounds_toArray, List.set_cons_succ, List.set_cons_zero]
      refine q_load (by kernel_rfl) 22 _ (gz) 22 (numA z) (0, 0) _ rfl (by kernel_rfl) (fun w' hb => At.under Fz hb) Tryd.underlying22 rfl (by rw [numA_size]; kernel_rfl) ?_
      simp only [Act.put, List.setIfInBounds_toArray, List.set_cons_succ, List.set_cons_zero]
      refine q_call (by kernel_rfl) 15 Tryd.f15 _ _ _ [.agg (numA u3), .agg (numA z)] (.agg (numA u4)) rfl (by kernel_rfl) Tryd.func15 (by kernel_rfl) rfl C_limb_Sub_u3_z ?_
      simp only [Act.put, List.setIfInBounds_toArray, List.set_cons_succ, List.set_cons_zero]
      refine q_load (by kernel_rfl) 22 _ (g) 22 (numA x) (0, 0) _ rfl (by kernel_rfl) (fun w' hb => At.under Fx hb) Tryd.underlying22 rfl (by rw [numA_size]; kernel_rfl) ?_
      simp only [Act.put, List.setIfInBounds_toArray, List.set_cons_succ, List.set_cons_zero]
      refine q_call (by kernel_rfl) 11 Tryd.f11 _ _ _ [.agg (numA x)] (.agg (numA u5)) rfl (by kernel_rfl) Tryd.func11 (by kernel_rfl) rfl C_limb_Reduce_x ?_
      simp only [Act.put, List.setIfInBounds_toArray, List.set_cons_succ, List.set_cons_zero]
      refine q_val (by kernel_rfl) (.bool true) (fun w' => (run_eql_num (t := 22) (e := 5) u4 u5 rfl (by kernel_rfl) (by kernel_rfl) lu4 lu5 Tryd.underlying22 Tryd.underlying5 sz5 ag5 eqG w').trans (by rw [show decide (u4 = u5) = true from decide_eq_true (by rw [eu4, eu5, eu3]; omega)])) ?_
      simp only [Act.put, List.setIfInBounds_toArray, List.set_cons_succ, List.set_cons_zero]
      refine q_val (by kernel_rfl) (.bool true) (fun w' => by kernel_rfl) ?_
      simp only [Act.put, List.setIfInBounds_toArray, List.set_cons_succ, List.set_cons_zero]
      refine q_val (by kernel_rfl) (.bool true) (fun w' => by kernel_rfl) ?_
      simp only [Act.put, List.setIfInBounds_toArray, List.set_cons_succ, List.set_cons_zero]
      refine wpQuiet_nil ?_
      intro w7 h7
      have H7 : Kept _ := ⟨h7⟩
      clear h7 Fx Fy Fz HPW lx lz l2 C_limb_Add_z_z C_limb_Mul_z_2 C_limb_Add_x_z C_limb_Sub_u3_z C_limb_Reduce_x eu1 eu2 eu3 eu4 eu5 lu1 lu2 lu3 lu4 lu5
      go_wp2_with fail
      go_ret
      exact ⟨rfl, HQ.out.trans (H7.out.mono HQ.out.size)⟩
    · have hil : i < len := by omega
      have hlt : ((i : Int) < (len : Int)) := by omega
      have hr : (i + q) % len < len := Nat.mod_lt _ (by omega)
      obtain ⟨r, er⟩ : ∃ r, r = (i + q) % len := ⟨_, rfl⟩
      rw [← er] at hr
      have ER : Kept _ := ⟨er⟩
      have hrlt : ((r : Int) < (len : Int)) := by omega
      obtain ⟨u, eu⟩ : ∃ u, u = (x + f i) % 57896044618658097711785492504343953926634992332820282019728792003956564819949 := ⟨_, rfl⟩
      obtain ⟨v, ev⟩ : ∃ v, v = (y + f r) % 57896044618658097711785492504343953926634992332820282019728792003956564819949 := ⟨_, rfl⟩
      have KN : Kept (u = sumTo f (i + 1) % 57896044618658097711785492504343953926634992332820282019728792003956564819949 ∧ v = sumTo (fun i => f ((i + q) % len)) (i + 1) % 57896044618658097711785492504343953926634992332820282019728792003956564819949) := ⟨by rw [eu, KE.out.1, sumTo_mod], by rw [ev, KE.out.2, er, ← sumTo_mod]⟩
      have EU : Kept _ := ⟨eu⟩
      have EV : Kept _ := ⟨ev⟩
      clear KE er eu ev
      go_wp2_with fail
      have lx := LX.out
      have lz := LF.out i hil
      have Fc : ∀ w', Below wr.heap.size wr w' → ∀ j v, (numA (f i))[j]? = some v → w'.cell? ((A.add (i * 32)).add j) = some v := fun w' hb => (HL.out.below hb).cells i hil
      have Cx : ∀ w', Below wr.heap.size wr w' → Calls Tryd.prog 13 [.agg (numA x), .agg (numA (f i))].toArray w' fun e w2 => e = .returned (.agg (numA u)) ∧ Below wr.heap.size wr w2 := fun w' hb => by rw [EU.out]; exact (Add_any x (f i) w' lx lz).mono fun e w2 hh => ⟨hh.1, hb.trans (hh.2.mono hb.size)⟩
      refine wp_region_quiet_cut (C := fun w' => Below wr.heap.size wr w') 6 rfl (by kernel_rfl) (by kernel_rfl) (by kernel_rfl) (by kernel_rfl) (by kernel_rfl) (Below.drew (Below.refl _ _)) ?_
      dsimp only [List.take_succ_cons, List.take_zero]
      refine q_load (by kernel_rfl) 22 _ (g) 22 (numA x) (0, 0) _ rfl (by kernel_rfl) (fun w' hb => At.under Ax hb) Tryd.underlying22 rfl (by rw [numA_size]; kernel_rfl) ?_
      simp only [Act.put, List.setIfInBounds_toArray, List.set_cons_succ, List.set_cons_zero]
      refine q_val (by kernel_rfl) (.slice (some A) len cap) (fun w' => by kernel_rfl) ?_
      simp only [Act.put, List.setIfInBounds_toArray, List.set_cons_succ, List.set_cons_zero]
      refine q_val (by kernel_rfl) (.int .i64 (i : Int)) (fun w' => by kernel_rfl) ?_
      simp only [Act.put, List.setIfInBounds_toArray, List.set_cons_succ, List.set_cons_zero]
      refine q_val (by kernel_rfl) (.pointer (some (A.add (i * 32)))) (fun w' => ?ia) ?_
      case ia => simp [execOp, Act.eval, go_sem, hlt, hil]
      simp only [Act.put, List.setIfInBounds_toArray, List.set_cons_succ, List.set_cons_zero]
      refine q_load_cells (by kernel_rfl) 22 _ (A.add (i * 32)) (numA (f i)) _ rfl (by kernel_rfl) Fc Tryd.underlying22 rfl (by rw [numA_size]; kernel_rfl) ?_
      simp only [Act.put, List.setIfInBounds_toArray, List.set_cons_succ, List.set_cons_zero]
      refine q_call (by kernel_rfl) 13 Tryd.f13 _ _ _ [.agg (numA x), .agg (numA (f i))] (.agg (numA u)) rfl (by kernel_rfl) Tryd.func13 (by kernel_rfl) rfl Cx ?_
      simp only [Act.put, List.setIfInBounds_toArray, List.set_cons_succ, List.set_cons_zero]
      refine wpQuiet_nil ?_
      intro w3 hw3
      have Ay3 := Ay.under hw3
      have HB3 := HB.trans (hw3.mono HB.size)
      refine wpList_put rfl (.tmp 5) (.tmp 35) rfl g u (by kernel_rfl) (by kernel_rfl) (Ax.under hw3).room ?_
      intro w4 A4 P4
      have Ay4 := P4.at Ay3 (by omega)
      have HB4 : Below w.heap.size w w4 := HB3.trans (P4.below (by omega))
      have HL4 : Kept _ := ⟨HC.out.below HB4⟩
      clear hw3 Ay3 HB3 P4 Ax Ay HB HL Fc Cx lx lz EU
      go_wp2_with fail
      have ly := LY.out
      have lz := LF.out r hr
      have Fc : ∀ w', Below w4.heap.size w4 w' → ∀ j v, (numA (f r))[j]? = some v → w'.cell? ((A.add (r * 32)).add j) = some v := fun w' hb => (HL4.out.below hb).cells r hr
      have Cx : ∀ w', Below w4.heap.size w4 w' → Calls Tryd.prog 13 [.agg (numA y), .agg (numA (f r))].toArray w' fun e w2 => e = .returned (.agg (numA v)) ∧ Below w4.heap.size w4 w2 := fun w' hb => by rw [EV.out]; exact (Add_any y (f r) w' ly lz).mono fun e w2 hh => ⟨hh.1, hb.trans (hh.2.mono hb.size)⟩
      have et : (((i + q : Nat) : Int)).tmod (len : Int) = (r : Int) := by rw [ER.out]; exact (Int.ofNat_tmod (i + q) len).symm
      refine wp_region_quiet_cut (C := fun w' => Below w4.heap.size w4 w') 11 rfl (by kernel_rfl) (by kernel_rfl) (by kernel_rfl) (by kernel_rfl) (by kernel_rfl) (Below.drew (Below.refl _ _)) ?_
      dsimp only [List.take_succ_cons, List.take_zero]
      refine q_load (by kernel_rfl) 22 _ (g + 1) 22 (numA y) (0, 0) _ rfl (by kernel_rfl) (fun w' hb => At.under Ay4 hb) Tryd.underlying22 rfl (by rw [numA_size]; kernel_rfl) ?_
      simp only [Act.put, List.setIfInBounds_toArray, List.set_cons_succ, List.set_cons_zero]
      refine q_val (by kernel_rfl) (.slice (some A) len cap) (fun w' => by kernel_rfl) ?_
      simp only [Act.put, List.setIfInBounds_toArray, List.set_cons_succ, List.set_cons_zero]
      refine q_val (by kernel_rfl) (.int .i64 (i : Int)) (fun w' => by kernel_rfl) ?_
      simp only [Act.put, List.setIfInBounds_toArray, List.set_cons_succ, List.set_cons_zero]
      refine q_val (by kernel_rfl) (.int .i64 (q : Int)) (fun w' => by kernel_rfl) ?_
      simp only [Act.put, List.setIfInBounds_toArray, List.set_cons_succ, List.set_cons_zero]
      refine q_val (by kernel_rfl) (.int .i64 ((i + q : Nat) : Int)) (fun w' => ?ad) ?_
      case ad =>
        simp [execOp, Act.eval, go_sem]
        first | (rw [IntKind.wrap_i64]; unfold wrap64; omega) | (simp [IntKind.wrap_i64, wrap64]; omega)
      simp only [Act.put, List.setIfInBounds_toArray, List.set_cons_succ, List.set_cons_zero]
      refine q_val (by kernel_rfl) (.slice (some A) len cap) (fun w' => by kernel_rfl) ?_
      simp only [Act.put, List.setIfInBounds_toArray, List.set_cons_succ, List.set_cons_zero]
      refine q_val (by kernel_rfl) (.int .i64 (len : Int)) (fun w' => by kernel_rfl) ?_
      simp only [Act.put, List.setIfInBounds_toArray, List.set_cons_succ, List.set_cons_zero]
      refine q_val (by kernel_rfl) (.int .i64 (r : Int)) (fun w' => ?rm) ?_
      case rm =>
        simp [execOp, Act.eval, go_sem, hne, ← et]
        exact h0
      simp only [Act.put, List.setIfInBounds_toArray, List.set_cons_succ, List.set_cons_zero]
      refine q_val (by kernel_rfl) (.pointer (some (A.add (r * 32)))) (fun w' => ?ia) ?_
      case ia => simp [execOp, Act.eval, go_sem, hrlt, hr]
      simp only [Act.put, List.setIfInBounds_toArray, List.set_cons_succ, List.set_cons_zero]
      refine q_load_cells (by kernel_rfl) 22 _ (A.add (r * 32)) (numA (f r)) _ rfl (by kernel_rfl) Fc Tryd.underlying22 rfl (by rw [numA_size]; kernel_rfl) ?_
      simp only [Act.put, List.setIfInBounds_toArray, List.set_cons_succ, List.set_cons_zero]
      refine q_call (by kernel_rfl) 13 Tryd.f13 _ _ _ [.agg (numA y), .agg (numA (f r))] (.agg (numA v)) rfl (by kernel_rfl) Tryd.func13 (by kernel_rfl) rfl Cx ?_
      simp only [Act.put, List.setIfInBounds_toArray, List.set_cons_succ, List.set_cons_zero]
      refine wpQuiet_nil ?_
      intro w5 hw5
      have A5 := A4.under hw5
      have HB5 := HB4.trans (hw5.mono HB4.size)
      refine wpList_put rfl (.tmp 6) (.tmp 46) rfl (g + 1) v (by kernel_rfl) (by kernel_rfl) (Ay4.under hw5).room ?_
      intro w6 A6 P6
      have Ax6 := P6.at A5 (by omega)
      have HB6 : Below w.heap.size w w6 := HB5.trans (P6.below (by omega))
      clear hw5 A5 HB5 P6 A4 Ay4 HB4 HL4 Fc Cx ly lz EV et
      go_wp2_with fail
      go_roundg (gk - 1)
      case measure => omega
      case rel => exact ⟨i + 1, u, v, by omega, by simp, HB6, Ax6, A6, KN⟩
end Go.Proofs.YtanfjkmkfcekmaaDoor
/-
  An argument that is a slice of numbers: where its numbers lie.
-/
namespace Go.Proofs.YtanfjkmkfcekmaaDoor
open Go Go.ChangeShapes Go.WideShapes Go.ChangeAt Go.RowKit
set_option linter.unusedVariables false
set_option linter.unusedSimpArgs false

theorem num_cells {H : Type} {enc : TypeId × Value → H} {W : World} {base : Nat} {sp : Nat → Bool} {held : Bool} {fuel : Nat} {cs : List Value} {x : DataW H × List MemPlace}
    (hs : cs.length = 32) (hf : DataW.trod enc Tryd.prog W base sp held fuel 22 cs = some x) : ∃ n, cs.toArray = numA n ∧ n < 115792089237316195423570985008687907853269984665640564039457584007913129639936 := by
  obtain ⟨xs, m, rfl, hx, hlen, hn, hel⟩ := DataW.trod_array Tryd.underlying22 hf
  refine numA_of cs.toArray (by simpa using hs) (fun i hi => ?_)
  have h1 := hel i hi
  rw [c5, Nat.mul_one] at h1
  have hxi : xs[i]? = some (xs[i]'(by omega)) := List.getElem?_eq_getElem _
  rw [hxi] at h1
  obtain ⟨k, e1, e2, hwf⟩ := DataW.trod_int Tryd.underlying5 h1
  have hi' : i < cs.length := by omega
  have e3 : (cs.drop i).take 1 = [cs[i]] := by
    rw [List.drop_eq_getElem_cons hi']
    rfl
  rw [e3] at e1
  refine ⟨k, ?_, bounds_u8 hwf⟩
  rw [List.getElem?_toArray, List.getElem?_eq_getElem hi']
  simpa using e1

theorem open_nums {H : Type} {enc : TypeId × Value → H} {W : World} {r : Reach} {b0 : Nat} {v : Value} {d : DataW H} {p : List MemPlace}
    (hv : Value.okWide Tryd.prog W r b0 30 v) (h : DataW.Trod enc Tryd.prog W 0 (fun _ => true) true 30 v d p) :
    v = .slice none 0 0 ∨ ∃ A len cap f, v = .slice (some A) len cap ∧ (len = 0 ∨ Lies W A len f) ∧ ∀ i, i < len → f i < 115792089237316195423570985008687907853269984665640564039457584007913129639936 := by
  obtain ⟨a0, len, cap, rfl⟩ := okWide_slice Tryd.underlying30 hv
  obtain ⟨fuel, hf⟩ := h
  rcases Go.Deep.open_slice Tryd.underlying30 hf with ⟨hcs, hx⟩ | ⟨a, len', cap', m, n, D, Pl, hcs, _, hl, hm, hmm, hx, hel⟩
  · left
    simpa [Value.cells] using hcs
  · right
    simp [Value.cells] at hcs
    obtain ⟨rfl, rfl, rfl⟩ := hcs
    have hlm : len ≤ m := by rw [hmm]; split <;> omega
    have key : ∀ i, ∃ n, i < len → n < 115792089237316195423570985008687907853269984665640564039457584007913129639936 ∧ ∀ j v, (numA n)[j]? = some v → W.cell? ((a.add (i * 32)).add j) = some v := by
      intro i
      by_cases hi : i < len
      · obtain ⟨cs', h1, h2⟩ := hel i (by omega)
        rw [c22] at h1
        obtain ⟨_, h3, h4⟩ := World.cells?_some h1
        obtain ⟨n, e, hn⟩ := num_cells h3 h2
        refine ⟨n, fun _ => ⟨hn, fun j v hv => ?_⟩⟩
        have hj : j < 32 := by
          have := (Array.getElem?_eq_some_iff.1 hv).1
          rw [numA_size] at this
          exact this
        rw [h4 j hj]
        rw [← e, List.getElem?_toArray] at hv
        exact hv
      · exact ⟨0, fun h => absurd h hi⟩
    let f : Nat → Nat := fun i => Classical.choose (key i)
    have hk : ∀ i, i < len → f i < 115792089237316195423570985008687907853269984665640564039457584007913129639936 ∧ ∀ j v, (numA (f i))[j]? = some v → W.cell? ((a.add (i * 32)).add j) = some v := fun i => Classical.choose_spec (key i)
    refine ⟨a, len, cap, f, rfl, ?_, fun i hi => (hk i hi).1⟩
    by_cases h0 : len = 0
    · exact .inl h0
    · right
      refine ⟨?_, fun i hi => (hk i hi).2⟩
      have h1 := (hk 0 (by omega)).2 0 _ (numA_get _ 0 (by omega))
      have h2 := block_lt_of_cell h1
      rw [add_block, add_block] at h2
      exact h2
end Go.Proofs.YtanfjkmkfcekmaaDoor
/-
  What LimbSums answers, for whatever slice and byte come in.
-/
namespace Go.Proofs.YtanfjkmkfcekmaaDoor
open Go Go.RowKit

theorem sums_all (v : Value) (n : Int) (w : World) (hv : v = .slice none 0 0 ∨ ∃ A len cap f, v = .slice (some A) len cap ∧ (len = 0 ∨ Lies w A len f) ∧ ∀ i, i < len → f i < 115792089237316195423570985008687907853269984665640564039457584007913129639936)
    (hn : (Lit.int .u8 n).wf = true) (hp : PrimeAt w) : Calls Tryd.prog 5 #[v, .int .u8 n] w fun e w' => e = .returned (.bool true) ∧ Below w.heap.size w w' := by
  have hb := bounds_u8 hn
  obtain ⟨s, rfl⟩ := Int.eq_ofNat_of_zero_le hb.1
  rcases hv with rfl | ⟨A, len, cap, f, rfl, h0 | hl, hf⟩
  · exact sums_none none 0 s w (by omega) hp
  · subst h0; exact sums_none (some A) cap s w (by omega) hp
  · exact sums_any A len cap f s w hf hl (by omega) hp
end Go.Proofs.YtanfjkmkfcekmaaDoor
