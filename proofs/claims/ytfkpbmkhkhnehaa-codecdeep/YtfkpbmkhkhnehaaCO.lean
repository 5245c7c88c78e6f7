/-
  The statements' alive: answers that the document fixes.
-/
import Derived.Test.YtfkpbmkhkhnehaaCN
namespace Go.Proofs.Ytfkpbmkhkhnehaa.sh
open Go Go.RowKit
set_option linter.unusedVariables false
set_option linter.unusedSimpArgs false

def s8 : List Nat := [1, 7, 2, 0, 1, 97, 0, 0]
def two8 : List (List Nat) := [[97], []]
theorem two8_bytes : ∀ l ∈ two8, Bytes l := fun l hl => by
  unfold two8 at hl
  simp at hl
  rcases hl with rfl | rfl
  · exact bytes_of_all (fun x hx => by simp at hx; omega)
  · exact nil_bytes
theorem fits8 : Fits two8 := by decide
theorem join8 : joinS 7 two8 = s8 ∧ joinE two8 = 0 := by rw [joinS_fits fits8, joinE_fits fits8]; exact ⟨by decide, rfl⟩
theorem s8_bytes : Bytes s8 := bytes_of_all (fun x hx => by unfold s8 at hx; simp at hx; omega)
theorem split8 : splitL s8 = some (7, two8) := by
  rw [← join8.1, joinS_fits fits8]
  exact splitL_join fits8
theorem lit8 (w : World) : ValsV (.slice (some ⟨w.heap.size, 0, none⟩) 2 2) (w.alloc (.cells #[.string { data := #[97] }, .string { data := #[] }] 9)) (strs two8) :=
  vrow_vals (vrow_lit (base := 0) w #[.string { data := #[97] }, .string { data := #[] }] 2 rfl (Nat.zero_le _) (by decide))

set_option maxRecDepth 100000 in
set_option maxHeartbeats 4000000 in
theorem alive8 (w : World) : Calls Try.prog 10 #[] w fun e w' => e = .returned (.bool true) ∧ Below w.heap.size w w' := by
  have C1 : Kept (∀ w1, Calls Try.prog 12 #[.int .u8 7, .slice (some ⟨w1.heap.size, 0, none⟩) 2 2] (w1.alloc (.cells #[.string { data := #[97] }, .string { data := #[] }] 9)) fun e w' => e = .returned (.tuple #[.string (strOf s8), .int .i64 0]) ∧ Below w1.heap.size w1 w') := ⟨fun w1 => by
    have h := JoinD (k := 7) (w := w1.alloc (.cells #[.string { data := #[97] }, .string { data := #[] }] 9)) (by decide) (lit8 w1) (fun l hl => ⟨two8_bytes l hl, by have := item_in hl; have : (itemsL two8).length = 5 := rfl; unfold maxLen; omega⟩)
    rw [join8.1, join8.2] at h
    refine h.mono ?_
    rintro e w' ⟨rfl, hb⟩
    exact ⟨rfl, ((Below.refl _ w1).alloc (Nat.le_refl _) _).trans (hb.mono (by simp))⟩⟩
  have C2 : Kept (∀ w1, Calls Try.prog 14 #[.string (strOf s8)] w1 fun e w' => ∃ p c, e = .returned (.tuple #[.int .u8 7, .slice p 2 c, .int .i64 0]) ∧ ValsV (.slice p 2 c) w' (strs two8) ∧ Below w1.heap.size w1 w') := ⟨fun w1 => by
    refine (SplitD (w := w1) s8_bytes (by decide)).mono ?_
    rintro e w' ⟨⟨V, rfl, hr⟩, hb⟩
    unfold spK spE spL at *
    rw [split8] at hr ⊢
    obtain ⟨p, c, rfl, _⟩ := vals_form (vrow_vals hr) (n := 2) rfl
    exact ⟨p, c, rfl, vrow_vals hr, hb⟩⟩
  have C3 : Kept (∀ w1, Calls Try.prog 15 #[.string (strOf s8), .int .u8 8, .int .i64 2] w1 fun e w' => ∃ V, e = .returned (.tuple #[V, .int .i64 4]) ∧ Below w1.heap.size w1 w') := ⟨fun w1 => by
    refine (TakeD (k := 8) (n := 2) (w := w1) s8_bytes (by decide)).mono ?_
    rintro e w' ⟨⟨V, rfl, hr⟩, hb⟩
    have e0 : tkE s8 8 2 = 4 := by unfold tkE takeL; rw [split8]; rfl
    rw [e0]
    exact ⟨V, rfl, hb⟩⟩
  have C4 : Kept (∀ w1, Calls Try.prog 20 #[.int .u64 258] w1 fun e w' => e = .returned (.string (strOf [1, 2])) ∧ Below w1.heap.size w1 w') := ⟨fun w1 => NumD (n := 258) (by decide)⟩
  have C5 : Kept (∀ w1, Calls Try.prog 18 #[.string (strOf [1, 2])] w1 fun e w' => e = .returned (.tuple #[.int .u64 258, .int .i64 0]) ∧ w' = w1) := ⟨fun w1 => ReadD (s := [1, 2]) (bytes_of_all (fun x hx => by simp at hx; omega)) (by decide)⟩
  have C6 : Kept (∀ w1, Calls Try.prog 18 #[.string { data := #[0] }] w1 fun e w' => e = .returned (.tuple #[.int .u64 0, .int .i64 4]) ∧ w' = w1) := ⟨fun w1 => ReadD (s := [0]) (bytes_of_all (fun x hx => by simp at hx; omega)) (by decide)⟩
  have C7 : Kept (∀ w1 p c, ValsV (.slice p 2 c) w1 (strs two8) → Calls Try.prog 16 #[.slice p 2 c, .slice (some ⟨w1.heap.size, 0, none⟩) 2 2] (w1.alloc (.cells #[.string { data := #[97] }, .string { data := #[] }] 9)) fun e w' => e = .returned (.bool true) ∧ Below w1.heap.size w1 w') := ⟨fun w1 p c hv => by
    have h := SameD (w := w1.alloc (.cells #[.string { data := #[97] }, .string { data := #[] }] 9)) (hv.under ((Below.refl _ w1).alloc (Nat.le_refl _) _)) (lit8 w1) two8_bytes two8_bytes (by decide)
    rw [decide_eq_true rfl] at h
    refine h.mono ?_
    rintro e w' ⟨rfl, hb⟩
    exact ⟨rfl, ((Below.refl _ w1).alloc (Nat.le_refl _) _).trans (hb.mono (by simp))⟩⟩
  have C8 : Kept (∀ w1, Calls Try.prog 20 #[.int .u64 0] w1 fun e w' => e = .returned (.string (strOf [])) ∧ Below w1.heap.size w1 w') := ⟨fun w1 => NumD (n := 0) (by decide)⟩
  have YS : Kept _ := ⟨s8_bytes⟩
  obtain ⟨S, hS⟩ : ∃ S, S = s8 := ⟨_, rfl⟩
  rw [← hS] at C1 C2 C3 YS
  have K1 : Kept (true = decide (S = [1, 7, 2, 0, 1, 97, 0, 0])) := ⟨by rw [hS]; rfl⟩
  have YC : Kept (Bytes [1, 7, 2, 0, 1, 97, 0, 0]) := ⟨s8_bytes⟩
  have K2 : Kept (true = decide (([] : List Nat) = [])) := ⟨rfl⟩
  clear hS
  go_enter Try.func10, Try.ntmps10
  go_wp2_with fail
  refine (C1.out _).mono ?_
  rintro e w1 ⟨rfl, q1⟩
  go_wp2_with fail
  refine (C2.out _).mono ?_
  rintro e w2 ⟨p, c, rfl, hv, q2⟩
  replace q2 := q1.trans (q2.mono q1.size)
  go_wp2_with fail
  refine (C3.out _).mono ?_
  rintro e w3 ⟨V3, rfl, q3⟩
  have hv3 := hv.under q3
  replace q3 := q2.trans (q3.mono q2.size)
  go_wp2_with fail
  refine (C4.out _).mono ?_
  rintro e w4 ⟨rfl, q4⟩
  have hv4 := hv3.under q4
  replace q4 := q3.trans (q4.mono q3.size)
  go_wp2_with fail
  refine (C5.out _).mono ?_
  rintro e w5 ⟨rfl, hw5⟩
  obtain rfl := hw5.symm
  go_wp2_with fail
  refine (C6.out _).mono ?_
  rintro e w6 ⟨rfl, hw6⟩
  obtain rfl := hw6.symm
  go_wp2_with (first | ((with_reducible refine wv_val (d := 38) ?hd ?hw (.bool true) ?hr ?_); (case hd => rfl); (case hw => kernel_rfl); (case hr => intro w; exact run_seq (m := [1, 7, 2, 0, 1, 97, 0, 0]) rfl (by kernel_rfl) rfl YS.out YC.out K1.out w); simp only [Act.put, List.setIfInBounds_toArray, List.set_cons_succ, List.set_cons_zero]))
  refine (C7.out _ p c hv4).mono ?_
  rintro e w7 ⟨rfl, q7⟩
  replace q7 := q4.trans (q7.mono q4.size)
  go_wp2_with fail
  refine (C8.out _).mono ?_
  rintro e w8 ⟨rfl, q8⟩
  replace q8 := q7.trans (q8.mono q7.size)
  go_wp2_with (first | ((with_reducible refine wv_val (d := 74) ?hd ?hw (.bool true) ?hr ?_); (case hd => rfl); (case hw => kernel_rfl); (case hr => intro w; exact run_seq (l := []) (m := []) rfl (by kernel_rfl) rfl nil_bytes nil_bytes K2.out w); simp only [Act.put, List.setIfInBounds_toArray, List.set_cons_succ, List.set_cons_zero]))
  go_ret
  exact ⟨rfl, q8⟩
end Go.Proofs.Ytfkpbmkhkhnehaa.sh
