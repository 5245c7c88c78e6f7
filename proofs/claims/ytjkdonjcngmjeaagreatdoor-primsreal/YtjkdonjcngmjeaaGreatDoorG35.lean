/-
  General pieces, joined: MN.
-/
import Derived.Test.YtjkdonjcngmjeaaGreatDoorG23
import Derived.Test.YtjkdonjcngmjeaaGreatDoorG34
/-
  Prims of bytes: public keys, and what two come to.
-/
namespace Go.Proofs.YtjkdonjcngmjeaaGreatDoor.sh
open Go Go.RowKit
set_option linter.unusedVariables false
set_option linter.unusedSimpArgs false

theorem numA_intsD (n : Nat) : numA n = ints .u8 (digs n 32) := by simp [numA, ints, digs]
theorem ints_numA {k : List Nat} (hk : k.length = 32) (hy : Bytes k) : ints .u8 k = numA (val k) := by
  have h := digs_val k hy.all
  rw [hk] at h
  rw [numA_intsD, h]
theorem val_lt32 {k : List Nat} (hk : k.length = 32) (hy : Bytes k) : val k < 115792089237316195423570985008687907853269984665640564039457584007913129639936 := by
  have h := val_lt k hy.all
  rw [hk] at h
  exact Nat.lt_of_lt_of_le h (by decide)
/-- A secret's public key, and what two come to, in bytes. -/
def pubB (k : List Nat) : List Nat := digs (XN (val k) 9) 32
def dhB (k u : List Nat) : List Nat := digs (XN (val k) (val u)) 32
def dhO (k u : List Nat) : Bool := !decide (XN (val k) (val u) % 57896044618658097711785492504343953926634992332820282019728792003956564819949 = 0)
theorem cPub {k : List Nat} {w : World} (hk : k.length = 32) (hy : Bytes k) (hp : PrimeAt w) :
    Calls Tryz.prog 12 #[.agg (ints .u8 k)] w fun e w' => e = .returned (.agg (ints .u8 (pubB k))) ∧ Below w.heap.size w w' := by
  have h := Pub_any (val k) w (val_lt32 hk hy) hp
  rw [← ints_numA hk hy, numA_intsD] at h
  exact h
theorem cShared {k u : List Nat} {w : World} (hk : k.length = 32) (hy : Bytes k) (hu : u.length = 32) (hyu : Bytes u) (hp : PrimeAt w) :
    Calls Tryz.prog 13 #[.agg (ints .u8 k), .agg (ints .u8 u)] w fun e w' => e = .returned (.tuple #[.agg (ints .u8 (dhB k u)), .bool (dhO k u)]) ∧ Below w.heap.size w w' := by
  have h := Shared_any (val k) (val u) w (val_lt32 hk hy) (val_lt32 hu hyu) hp
  rw [← ints_numA hk hy, ← ints_numA hu hyu, numA_intsD] at h
  exact h

set_option maxRecDepth 100000 in
theorem PubR {s : List Nat} {w : World} (hs : Bytes s) (h32 : s.length = 32) (hp : PrimeAt w) :
    Calls Tryz.prog 170 #[.agg #[], .string (strOf s)] w fun e w' => e = .returned (.string (strOf (pubB s))) ∧ Below w.heap.size w w' := by
  obtain ⟨Y, hY⟩ : ∃ y, y = pubB s := ⟨_, rfl⟩
  have LY : Kept (Y.length = 32) := ⟨by rw [hY]; exact digs_len _ _⟩
  have IY : Kept ((Tryz.prog.info? 30).map (·.size) = some (ints .u8 Y).size ∧ (ints .u8 Y).size = 32) := ⟨by rw [ints_size, LY.out]; exact ⟨t32_info, rfl⟩⟩
  have CK : Kept (∀ w, Calls Tryz.prog 172 [.string (strOf s)].toArray w fun e w' => e = .returned (.tuple #[.agg (ints .u8 s), .bool true]) ∧ Below w.heap.size w w') := ⟨fun w => keyOf_ok hs h32⟩
  have L32 : Kept (s.length = 32) := ⟨h32⟩
  have Ys : Kept _ := ⟨hs⟩
  have IZ : Kept ((Tryz.prog.info? 30).map (·.size) = some (ints .u8 s).size ∧ (ints .u8 s).size = 32) := ⟨by rw [ints_size, h32]; exact ⟨t32_info, rfl⟩⟩
  have CP : Kept (∀ w', Below w.heap.size w w' → Calls Tryz.prog 12 [.agg (ints .u8 s)].toArray w' fun e w2 => e = .returned (.agg (ints .u8 Y)) ∧ Below w'.heap.size w' w2) := ⟨fun w' hb => by rw [hY]; exact cPub h32 hs (PrimeAt.below hp hb)⟩
  rw [← hY]
  clear hs h32 hp hY
  go_enter Tryz.func170, Tryz.ntmps170
  go_wp2_with fail
  refine (CK.out _).mono ?_
  rintro e w1 ⟨rfl, hb1⟩
  have Q1 : Kept (Below w.heap.size w w1) := ⟨((Below.refl w.heap.size w).alloc (Nat.le_refl _) _).trans (hb1.mono (by simp))⟩
  clear hb1
  go_wp2_with (first | (refine wl_store rfl 30 (.tmp 5) (.tmp 11) rfl w1.heap.size (ints .u8 s) rfl rfl _ (blk_new _ _ _) IZ.out.1 (by rw [IZ.out.2]; rfl) (ints_one _ _) ?_; intro w5 hB5 hp5; simp only [Act.put, List.setIfInBounds_toArray, List.set_cons_succ, List.set_cons_zero]) | ((with_reducible refine wv_row (d := 15) ?hd ?hw 30 (.tmp 5) ?ho (w1.heap.size) ?hx (t' := 30) (ints .u8 s) _ _ Tryz.underlying30 ?hs ?hg ?_); (case hd => rfl); (case hw => kernel_rfl); (case ho => rfl); (case hx => kernel_rfl); (case hs => exact IZ.out.1); (case hg => exact hB5); simp only [Act.put, List.setIfInBounds_toArray, List.set_cons_succ, List.set_cons_zero]))
  have p5 := (Q1.out.alloc Q1.out.size _).trans (hp5.below Q1.out.size)
  refine (CP.out _ p5).mono ?_
  rintro e w6 ⟨rfl, q6⟩
  have Q6 : Kept (Below w.heap.size w w6) := ⟨p5.trans (q6.mono p5.size)⟩
  clear p5 q6 hB5 hp5
  go_wp2_with (first | (refine wl_store rfl 30 (.tmp 7) (.tmp 16) rfl w6.heap.size (ints .u8 Y) rfl rfl _ (blk_new _ _ _) IY.out.1 (by rw [IY.out.2]; rfl) (ints_one _ _) ?_; intro w7 hB7 hp7; simp only [Act.put, List.setIfInBounds_toArray, List.set_cons_succ, List.set_cons_zero]) | ((with_reducible refine wv_str (d := 18) ?hd ?hw (.tmp 17) ?ho (.slice (some ⟨w6.heap.size, 0, none⟩) 32 32) ?hx (Y) ?hl ?_); (case hd => rfl); (case hw => kernel_rfl); (case ho => rfl); (case hx => kernel_rfl); (case hl => exact blk_bytes hB7 LY.out); simp only [Act.put, List.setIfInBounds_toArray, List.set_cons_succ, List.set_cons_zero]))
  go_ret
  exact ⟨rfl, (Q6.out.alloc Q6.out.size _).trans (hp7.below Q6.out.size)⟩

set_option maxRecDepth 100000 in
theorem Dh_no1 {s t : List Nat} {w : World} (hs : Bytes s) (ht : Bytes t) (h1 : s.length ≠ 32) (h2 : t.length = 32) :
    Calls Tryz.prog 166 #[.agg #[], .string (strOf s), .string (strOf t)] w fun e w' => e = .returned (.tuple #[.string ⟨#[]⟩, .bool false]) ∧ Below w.heap.size w w' := by
  obtain ⟨a, ha⟩ : ∃ z : List Nat, z = (if s.length = 32 then s else List.replicate 32 0) := ⟨_, rfl⟩
  obtain ⟨c, hc⟩ : ∃ z : List Nat, z = (if t.length = 32 then t else List.replicate 32 0) := ⟨_, rfl⟩
  have la : a.length = 32 := by rw [ha]; split <;> simp [*]
  have lc : c.length = 32 := by rw [hc]; split <;> simp [*]
  have IA : Kept ((Tryz.prog.info? 30).map (·.size) = some (ints .u8 a).size ∧ (ints .u8 a).size = 32) := ⟨by rw [ints_size, la]; exact ⟨t32_info, rfl⟩⟩
  have IC : Kept ((Tryz.prog.info? 30).map (·.size) = some (ints .u8 c).size ∧ (ints .u8 c).size = 32) := ⟨by rw [ints_size, lc]; exact ⟨t32_info, rfl⟩⟩
  have C1 : Kept (∀ w, Calls Tryz.prog 172 [.string (strOf s)].toArray w fun e w' => e = .returned (.tuple #[.agg (ints .u8 a), .bool false]) ∧ Below w.heap.size w w') := ⟨fun w => by rw [ha]; rw [if_neg h1]; exact keyOf_no rfl hs h1⟩
  have C2 : Kept (∀ w, Calls Tryz.prog 172 [.string (strOf t)].toArray w fun e w' => e = .returned (.tuple #[.agg (ints .u8 c), .bool true]) ∧ Below w.heap.size w w') := ⟨fun w => by rw [hc]; rw [if_pos h2]; exact keyOf_ok ht h2⟩
  clear ha hc la lc
  go_enter Tryz.func166, Tryz.ntmps166
  go_wp2_with fail
  refine (C1.out _).mono ?_
  rintro e w1 ⟨rfl, hb1⟩
  have Q1 : Kept (Below w.heap.size w w1) := ⟨((Below.refl w.heap.size w).alloc (Nat.le_refl _) _).trans (hb1.mono (by simp))⟩
  clear hb1
  go_wp2_with (first | (refine wl_store rfl 30 (.tmp 8) (.tmp 17) rfl w1.heap.size (ints .u8 a) rfl rfl _ (blk_new _ _ _) IA.out.1 (by rw [IA.out.2]; rfl) (ints_one _ _) ?_; intro w5 hB5 hp5; simp only [Act.put, List.setIfInBounds_toArray, List.set_cons_succ, List.set_cons_zero]))
  refine (C2.out _).mono ?_
  rintro e w2 ⟨rfl, hb2⟩
  have p5 := (Q1.out.alloc Q1.out.size _).trans (hp5.below Q1.out.size)
  have Q2 : Kept (Below w.heap.size w w2) := ⟨p5.trans (hb2.mono p5.size)⟩
  clear hb2 p5 hB5 hp5
  go_wp2_with (first | (refine wl_store rfl 30 (.tmp 10) (.tmp 22) rfl w2.heap.size (ints .u8 c) rfl rfl _ (blk_new _ _ _) IC.out.1 (by rw [IC.out.2]; rfl) (ints_one _ _) ?_; intro w6 hB6 hp6; simp only [Act.put, List.setIfInBounds_toArray, List.set_cons_succ, List.set_cons_zero]))
  go_ret2
  exact ⟨rfl, (Q2.out.alloc Q2.out.size _).trans (hp6.below Q2.out.size)⟩

set_option maxRecDepth 100000 in
theorem Dh_no2 {s t : List Nat} {w : World} (hs : Bytes s) (ht : Bytes t) (h1 : s.length = 32) (h2 : t.length ≠ 32) :
    Calls Tryz.prog 166 #[.agg #[], .string (strOf s), .string (strOf t)] w fun e w' => e = .returned (.tuple #[.string ⟨#[]⟩, .bool false]) ∧ Below w.heap.size w w' := by
  obtain ⟨a, ha⟩ : ∃ z : List Nat, z = (if s.length = 32 then s else List.replicate 32 0) := ⟨_, rfl⟩
  obtain ⟨c, hc⟩ : ∃ z : List Nat, z = (if t.length = 32 then t else List.replicate 32 0) := ⟨_, rfl⟩
  have la : a.length = 32 := by rw [ha]; split <;> simp [*]
  have lc : c.length = 32 := by rw [hc]; split <;> simp [*]
  have IA : Kept ((Tryz.prog.info? 30).map (·.size) = some (ints .u8 a).size ∧ (ints .u8 a).size = 32) := ⟨by rw [ints_size, la]; exact ⟨t32_info, rfl⟩⟩
  have IC : Kept ((Tryz.prog.info? 30).map (·.size) = some (ints .u8 c).size ∧ (ints .u8 c).size = 32) := ⟨by rw [ints_size, lc]; exact ⟨t32_info, rfl⟩⟩
  have C1 : Kept (∀ w, Calls Tryz.prog 172 [.string (strOf s)].toArray w fun e w' => e = .returned (.tuple #[.agg (ints .u8 a), .bool true]) ∧ Below w.heap.size w w') := ⟨fun w => by rw [ha]; rw [if_pos h1]; exact keyOf_ok hs h1⟩
  have C2 : Kept (∀ w, Calls Tryz.prog 172 [.string (strOf t)].toArray w fun e w' => e = .returned (.tuple #[.agg (ints .u8 c), .bool false]) ∧ Below w.heap.size w w') := ⟨fun w => by rw [hc]; rw [if_neg h2]; exact keyOf_no rfl ht h2⟩
  clear ha hc la lc
  go_enter Tryz.func166, Tryz.ntmps166
  go_wp2_with fail
  refine (C1.out _).mono ?_
  rintro e w1 ⟨rfl, hb1⟩
  have Q1 : Kept (Below w.heap.size w w1) := ⟨((Below.refl w.heap.size w).alloc (Nat.le_refl _) _).trans (hb1.mono (by simp))⟩
  clear hb1
  go_wp2_with (first | (refine wl_store rfl 30 (.tmp 8) (.tmp 17) rfl w1.heap.size (ints .u8 a) rfl rfl _ (blk_new _ _ _) IA.out.1 (by rw [IA.out.2]; rfl) (ints_one _ _) ?_; intro w5 hB5 hp5; simp only [Act.put, List.setIfInBounds_toArray, List.set_cons_succ, List.set_cons_zero]))
  refine (C2.out _).mono ?_
  rintro e w2 ⟨rfl, hb2⟩
  have p5 := (Q1.out.alloc Q1.out.size _).trans (hp5.below Q1.out.size)
  have Q2 : Kept (Below w.heap.size w w2) := ⟨p5.trans (hb2.mono p5.size)⟩
  clear hb2 p5 hB5 hp5
  go_wp2_with (first | (refine wl_store rfl 30 (.tmp 10) (.tmp 22) rfl w2.heap.size (ints .u8 c) rfl rfl _ (blk_new _ _ _) IC.out.1 (by rw [IC.out.2]; rfl) (ints_one _ _) ?_; intro w6 hB6 hp6; simp only [Act.put, List.setIfInBounds_toArray, List.set_cons_succ, List.set_cons_zero]))
  go_ret2
  exact ⟨rfl, (Q2.out.alloc Q2.out.size _).trans (hp6.below Q2.out.size)⟩

set_option maxRecDepth 100000 in
theorem Dh_no3 {s t : List Nat} {w : World} (hs : Bytes s) (ht : Bytes t) (h1 : s.length ≠ 32) (h2 : t.length ≠ 32) :
    Calls Tryz.prog 166 #[.agg #[], .string (strOf s), .string (strOf t)] w fun e w' => e = .returned (.tuple #[.string ⟨#[]⟩, .bool false]) ∧ Below w.heap.size w w' := by
  obtain ⟨a, ha⟩ : ∃ z : List Nat, z = (if s.length = 32 then s else List.replicate 32 0) := ⟨_, rfl⟩
  obtain ⟨c, hc⟩ : ∃ z : List Nat, z = (if t.length = 32 then t else List.replicate 32 0) := ⟨_, rfl⟩
  have la : a.length = 32 := by rw [ha]; split <;> simp [*]
  have lc : c.length = 32 := by rw [hc]; split <;> simp [*]
  have IA : Kept ((Tryz.prog.info? 30).map (·.size) = some (ints .u8 a).size ∧ (ints .u8 a).size = 32) := ⟨by rw [ints_size, la]; exact ⟨t32_info, rfl⟩⟩
  have IC : Kept ((Tryz.prog.info? 30).map (·.size) = some (ints .u8 c).size ∧ (ints .u8 c).size = 32) := ⟨by rw [ints_size, lc]; exact ⟨t32_info, rfl⟩⟩
  have C1 : Kept (∀ w, Calls Tryz.prog 172 [.string (strOf s)].toArray w fun e w' => e = .returned (.tuple #[.agg (ints .u8 a), .bool false]) ∧ Below w.heap.size w w') := ⟨fun w => by rw [ha]; rw [if_neg h1]; exact keyOf_no rfl hs h1⟩
  have C2 : Kept (∀ w, Calls Tryz.prog 172 [.string (strOf t)].toArray w fun e w' => e = .returned (.tuple #[.agg (ints .u8 c), .bool false]) ∧ Below w.heap.size w w') := ⟨fun w => by rw [hc]; rw [if_neg h2]; exact keyOf_no rfl ht h2⟩
  clear ha hc la lc
  go_enter Tryz.func166, Tryz.ntmps166
  go_wp2_with fail
  refine (C1.out _).mono ?_
  rintro e w1 ⟨rfl, hb1⟩
  have Q1 : Kept (Below w.heap.size w w1) := ⟨((Below.refl w.heap.size w).alloc (Nat.le_refl _) _).trans (hb1.mono (by simp))⟩
  clear hb1
  go_wp2_with (first | (refine wl_store rfl 30 (.tmp 8) (.tmp 17) rfl w1.heap.size (ints .u8 a) rfl rfl _ (blk_new _ _ _) IA.out.1 (by rw [IA.out.2]; rfl) (ints_one _ _) ?_; intro w5 hB5 hp5; simp only [Act.put, List.setIfInBounds_toArray, List.set_cons_succ, List.set_cons_zero]))
  refine (C2.out _).mono ?_
  rintro e w2 ⟨rfl, hb2⟩
  have p5 := (Q1.out.alloc Q1.out.size _).trans (hp5.below Q1.out.size)
  have Q2 : Kept (Below w.heap.size w w2) := ⟨p5.trans (hb2.mono p5.size)⟩
  clear hb2 p5 hB5 hp5
  go_wp2_with (first | (refine wl_store rfl 30 (.tmp 10) (.tmp 22) rfl w2.heap.size (ints .u8 c) rfl rfl _ (blk_new _ _ _) IC.out.1 (by rw [IC.out.2]; rfl) (ints_one _ _) ?_; intro w6 hB6 hp6; simp only [Act.put, List.setIfInBounds_toArray, List.set_cons_succ, List.set_cons_zero]))
  go_ret2
  exact ⟨rfl, (Q2.out.alloc Q2.out.size _).trans (hp6.below Q2.out.size)⟩

theorem Dh_no {s t : List Nat} {w : World} (hs : Bytes s) (ht : Bytes t) (h : ¬ (s.length = 32 ∧ t.length = 32)) :
    Calls Tryz.prog 166 #[.agg #[], .string (strOf s), .string (strOf t)] w fun e w' => e = .returned (.tuple #[.string ⟨#[]⟩, .bool false]) ∧ Below w.heap.size w w' := by
  by_cases h1 : s.length = 32
  · exact Dh_no2 hs ht h1 (fun h2 => h ⟨h1, h2⟩)
  · by_cases h2 : t.length = 32
    · exact Dh_no1 hs ht h1 h2
    · exact Dh_no3 hs ht h1 h2
set_option maxRecDepth 100000 in
theorem DhR {s t : List Nat} {w : World} (hs : Bytes s) (ht : Bytes t) (h1 : s.length = 32) (h2 : t.length = 32) (hp : PrimeAt w) :
    Calls Tryz.prog 166 #[.agg #[], .string (strOf s), .string (strOf t)] w fun e w' => e = .returned (.tuple #[.string (strOf (if dhO s t then dhB s t else [])), .bool (dhO s t)]) ∧ Below w.heap.size w w' := by
  obtain ⟨Y, hY⟩ : ∃ y, y = dhB s t := ⟨_, rfl⟩
  obtain ⟨fo, hfo⟩ : ∃ y, y = dhO s t := ⟨_, rfl⟩
  have LY : Kept (Y.length = 32) := ⟨by rw [hY]; exact digs_len _ _⟩
  have IY : Kept ((Tryz.prog.info? 30).map (·.size) = some (ints .u8 Y).size ∧ (ints .u8 Y).size = 32) := ⟨by rw [ints_size, LY.out]; exact ⟨t32_info, rfl⟩⟩
  have IA : Kept ((Tryz.prog.info? 30).map (·.size) = some (ints .u8 s).size ∧ (ints .u8 s).size = 32) := ⟨by rw [ints_size, h1]; exact ⟨t32_info, rfl⟩⟩
  have IC : Kept ((Tryz.prog.info? 30).map (·.size) = some (ints .u8 t).size ∧ (ints .u8 t).size = 32) := ⟨by rw [ints_size, h2]; exact ⟨t32_info, rfl⟩⟩
  have C1 : Kept (∀ w, Calls Tryz.prog 172 [.string (strOf s)].toArray w fun e w' => e = .returned (.tuple #[.agg (ints .u8 s), .bool true]) ∧ Below w.heap.size w w') := ⟨fun w => keyOf_ok hs h1⟩
  have C2 : Kept (∀ w, Calls Tryz.prog 172 [.string (strOf t)].toArray w fun e w' => e = .returned (.tuple #[.agg (ints .u8 t), .bool true]) ∧ Below w.heap.size w w') := ⟨fun w => keyOf_ok ht h2⟩
  have CS : Kept (∀ w', Below w.heap.size w w' → Calls Tryz.prog 13 [.agg (ints .u8 s), .agg (ints .u8 t)].toArray w' fun e w2 => e = .returned (.tuple #[.agg (ints .u8 Y), .bool fo]) ∧ Below w'.heap.size w' w2) := ⟨fun w' hb => by rw [hY, hfo]; exact cShared h1 hs h2 ht (PrimeAt.below hp hb)⟩
  rw [← hY, ← hfo]
  clear hs ht h1 h2 hp hY hfo
  go_enter Tryz.func166, Tryz.ntmps166
  go_wp2_with fail
  refine (C1.out _).mono ?_
  rintro e w1 ⟨rfl, hb1⟩
  have Q1 : Kept (Below w.heap.size w w1) := ⟨((Below.refl w.heap.size w).alloc (Nat.le_refl _) _).trans (hb1.mono (by simp))⟩
  clear hb1
  go_wp2_with (first | (refine wl_store rfl 30 (.tmp 8) (.tmp 17) rfl w1.heap.size (ints .u8 s) rfl rfl _ (blk_new _ _ _) IA.out.1 (by rw [IA.out.2]; rfl) (ints_one _ _) ?_; intro w5 hB5 hp5; simp only [Act.put, List.setIfInBounds_toArray, List.set_cons_succ, List.set_cons_zero]))
  refine (C2.out _).mono ?_
  rintro e w2 ⟨rfl, hb2⟩
  have p5 := (Q1.out.alloc Q1.out.size _).trans (hp5.below Q1.out.size)
  have Q2 : Kept (Below w.heap.size w w2) := ⟨p5.trans (hb2.mono p5.size)⟩
  have K1 : Kept _ := ⟨hB5.under hb2⟩
  clear hb2 p5 hB5 hp5
  have hne : w1.heap.size < w2.heap.size := K1.out.lt
  go_wp2_with (first | (refine wl_store rfl 30 (.tmp 10) (.tmp 22) rfl w2.heap.size (ints .u8 t) rfl rfl _ (blk_new _ _ _) IC.out.1 (by rw [IC.out.2]; rfl) (ints_one _ _) ?_; intro w6 hB6 hp6; simp only [Act.put, List.setIfInBounds_toArray, List.set_cons_succ, List.set_cons_zero]) | ((with_reducible refine wv_row (d := 31) ?hd ?hw 30 (.tmp 8) ?ho (w1.heap.size) ?hx (t' := 30) (ints .u8 s) _ _ Tryz.underlying30 ?hs ?hg ?_); (case hd => rfl); (case hw => kernel_rfl); (case ho => rfl); (case hx => kernel_rfl); (case hs => exact IA.out.1); (case hg => exact (blk_grown hp6.grown (K1.out.under ((Below.refl _ _).alloc (Nat.le_refl _) _)) (by simp; omega))); simp only [Act.put, List.setIfInBounds_toArray, List.set_cons_succ, List.set_cons_zero]) | ((with_reducible refine wv_row (d := 32) ?hd ?hw 30 (.tmp 10) ?ho (w2.heap.size) ?hx (t' := 30) (ints .u8 t) _ _ Tryz.underlying30 ?hs ?hg ?_); (case hd => rfl); (case hw => kernel_rfl); (case ho => rfl); (case hx => kernel_rfl); (case hs => exact IC.out.1); (case hg => exact hB6); simp only [Act.put, List.setIfInBounds_toArray, List.set_cons_succ, List.set_cons_zero]))
  have p6 := (Q2.out.alloc Q2.out.size _).trans (hp6.below Q2.out.size)
  refine (CS.out _ p6).mono ?_
  rintro e w7 ⟨rfl, q7⟩
  have Q7 : Kept (Below w.heap.size w w7) := ⟨p6.trans (q7.mono p6.size)⟩
  clear p6 q7 hB6 hp6 K1 hne
  cases fo with
  | true =>
    go_wp2_with (first | (refine wl_store rfl 30 (.tmp 12) (.tmp 34) rfl w7.heap.size (ints .u8 Y) rfl rfl _ (blk_new _ _ _) IY.out.1 (by rw [IY.out.2]; rfl) (ints_one _ _) ?_; intro w8 hB8 hp8; simp only [Act.put, List.setIfInBounds_toArray, List.set_cons_succ, List.set_cons_zero]) | ((with_reducible refine wv_str (d := 39) ?hd ?hw (.tmp 38) ?ho (.slice (some ⟨w7.heap.size, 0, none⟩) 32 32) ?hx (Y) ?hl ?_); (case hd => rfl); (case hw => kernel_rfl); (case ho => rfl); (case hx => kernel_rfl); (case hl => exact blk_bytes hB8 LY.out); simp only [Act.put, List.setIfInBounds_toArray, List.set_cons_succ, List.set_cons_zero]))
    go_ret2
    exact ⟨rfl, (Q7.out.alloc Q7.out.size _).trans (hp8.below Q7.out.size)⟩
  | false =>
    go_wp2_with (first | (refine wl_store rfl 30 (.tmp 12) (.tmp 34) rfl w7.heap.size (ints .u8 Y) rfl rfl _ (blk_new _ _ _) IY.out.1 (by rw [IY.out.2]; rfl) (ints_one _ _) ?_; intro w8 hB8 hp8; simp only [Act.put, List.setIfInBounds_toArray, List.set_cons_succ, List.set_cons_zero]))
    go_ret2
    exact ⟨rfl, (Q7.out.alloc Q7.out.size _).trans (hp8.below Q7.out.size)⟩
end Go.Proofs.YtjkdonjcngmjeaaGreatDoor.sh
