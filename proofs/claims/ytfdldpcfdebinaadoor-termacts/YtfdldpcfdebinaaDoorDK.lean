/-
  TermNobody.
-/
import Derived.Test.YtfdldpcfdebinaaDoorDJ
namespace Go.Proofs.YtfdldpcfdebinaaDoor.sh
open Go Go.RowKit
set_option linter.unusedVariables false
set_option linter.unusedSimpArgs false

/-- The i-th of the two. -/
def nobAt (b : Nat) : Nat → Option Addr
  | 0 => none
  | _ => some ⟨b, 0, none⟩
theorem nob_cell {w : World} {g b i : Nat} (h : Blk w g 24 #[.pointer none, .pointer (some ⟨b, 0, none⟩)]) (hi : i < 2) : w.cell? ⟨g, i, none⟩ = some (.pointer (nobAt b i)) := by
  refine h.cell ?_
  match i, hi with
  | 0, _ => rfl
  | 1, _ => rfl
theorem nob_at {w : World} {b : Nat} (h : Blk w b 53 #[.map none, .slice none 0 0]) : ∀ i, Nobody (nobAt b i) w
  | 0 => .inl rfl
  | _ + 1 => .inr ⟨b, rfl, h⟩
set_option maxRecDepth 100000 in
set_option maxHeartbeats 4000000 in
theorem nobody9 (s : List Nat) (n0 : Int) (w : World) (hs : Bytes s) (hl : s.length ≤ maxLen) (hn0 : (Lit.int .u64 n0).wf = true) :
    Calls Tryd.prog 7 #[.string (strOf s), .int .u64 n0] w fun e w' => e = .returned (.bool true) ∧ Below w.heap.size w w' := by
  obtain ⟨n, rfl, hn⟩ := nat_of_u64 hn0
  have KAl : Kept _ := ⟨alive9 w⟩
  obtain ⟨z, hz⟩ : ∃ z, z = s.length := ⟨_, rfl⟩
  have KZ : Kept _ := ⟨hz⟩
  have KS : Kept _ := ⟨hs⟩
  have KL : Kept _ := ⟨hl⟩
  clear hz hs hl hn0
  go_enter Tryd.func7, Tryd.ntmps7
  go_wp2_with fail
  refine KAl.out.mono ?_
  rintro e w1 ⟨rfl, q1⟩
  clear KAl
  by_cases h1000 : 1000 < z
  · have h' : (1000 : Int) < (z : Int) := by omega
    go_wp2_with (first | ((with_reducible refine wv_val (d := 15) ?hd ?hw (.int .i64 (z : Int)) ?hr ?_); (case hd => rfl); (case hw => kernel_rfl); (case hr => intro w; exact run_slen rfl (by kernel_rfl) KZ.out w); simp only [Act.put, List.setIfInBounds_toArray, List.set_cons_succ, List.set_cons_zero]))
    go_ret
    exact ⟨rfl, q1⟩
  · have h' : ¬ (1000 : Int) < (z : Int) := by omega
    go_wp2_with (first | ((with_reducible refine wv_val (d := 15) ?hd ?hw (.int .i64 (z : Int)) ?hr ?_); (case hd => rfl); (case hw => kernel_rfl); (case hr => intro w; exact run_slen rfl (by kernel_rfl) KZ.out w); simp only [Act.put, List.setIfInBounds_toArray, List.set_cons_succ, List.set_cons_zero]))
    obtain ⟨b, hb⟩ : ∃ b, b = w1.heap.size := ⟨_, rfl⟩
    have Kb : Kept _ := ⟨hb⟩
    have KE : Kept (false = !decide (([] : List Nat) = [])) := ⟨rfl⟩
    rw [← hb]
    obtain ⟨W, hW⟩ : ∃ W, W = (w1.alloc (.cells #[.map none, .slice none 0 0] 53)).alloc (.cells #[.pointer none, .pointer (some ⟨b, 0, none⟩)] 24) := ⟨_, rfl⟩
    have hs1 : (w1.alloc (.cells #[.map none, .slice none 0 0] 53)).heap.size = b + 1 := by rw [hb]; simp
    have KB1 : Kept (Blk W b 53 #[.map none, .slice none 0 0]) := ⟨by rw [hW, hb]; exact (blk_new _ _ _).alloc _⟩
    have KB2 : Kept (Blk W (b + 1) 24 #[.pointer none, .pointer (some ⟨b, 0, none⟩)]) := ⟨by rw [hW, ← hs1]; exact blk_new _ _ _⟩
    have KQ : Kept (Below w.heap.size w W) := ⟨by
      rw [hW]
      exact (q1.alloc q1.size _).alloc (by rw [hs1, hb]; have := q1.size; omega) _⟩
    refine (show Code.wp Tryd.prog _ _ _ W from ?_) |> (fun h => by rw [hW] at h; exact h)
    clear hs1 q1 hb hW
    go_loopg [21] 2 (fun g s21 wr => ∃ i : Nat, i + g = 2 ∧ s21 = .int .i64 (i : Int) ∧ Below W.heap.size W wr)
    case atStart => exact ⟨0, by omega, rfl, Below.refl _ _⟩
    case round =>
      rename World => wz
      obtain ⟨i, hik, rfl, hq⟩ := hrel
      by_cases hk0 : gk = 0
      · obtain rfl : i = 2 := by omega
        go_wp2_with fail
        go_ret
        exact ⟨rfl, KQ.out.trans (hq.mono KQ.out.size)⟩
      · have hi2 : i < 2 := by omega
        have hi2' : (i : Int) < 2 := by omega
        have hNb := nob_at KB1.out i
        have hNc := nob_cell (KB2.out.under hq) hi2
        generalize nobAt b i = P at hNb hNc
        have KN : Kept _ := ⟨hNb.under hq⟩
        have KC : Kept _ := ⟨hNc⟩
        clear hNb hNc
        go_wp2_with (first | ((with_reducible refine wv_val (d := 23) ?hd ?hw (.pointer (some ⟨b + 1, i, none⟩)) ?hr ?_); (case hd => rfl); (case hw => kernel_rfl); (case hr => intro w; exact run_idxS0 rfl (by kernel_rfl) (by kernel_rfl) Tryd.underlying54 hi2 Tryd.sizeOf24 w); simp only [Act.put, List.setIfInBounds_toArray, List.set_cons_succ, List.set_cons_zero]) | ((with_reducible refine wv_elem (d := 24) ?hd ?hw 24 Tryd.isAgg24 (.tmp 23) ?ho (⟨b + 1, i, none⟩) ?hx (.pointer P) ?hc ?_); (case hd => rfl); (case hw => kernel_rfl); (case ho => rfl); (case hx => kernel_rfl); (case hc => exact KC.out); simp only [Act.put, List.setIfInBounds_toArray, List.set_cons_succ, List.set_cons_zero]))
        refine (DhN KN.out KS.out KL.out).mono ?_
        rintro e w2 ⟨rfl, hw⟩
        obtain rfl := hw.symm
        go_wp2_with fail
        refine (PartsN KN.out KS.out KL.out).mono ?_
        rintro e w2 ⟨rfl, hw⟩
        obtain rfl := hw.symm
        go_wp2_with fail
        refine (AtomN KN.out).mono ?_
        rintro e w3 ⟨rfl, b3⟩
        have N3 := KN.out.under b3
        go_wp2_with (first | ((with_reducible refine wv_val (d := 42) ?hd ?hw (.bool false) ?hr ?_); (case hd => rfl); (case hw => kernel_rfl); (case hr => intro w; exact run_sneq (l := []) (m := []) rfl (by kernel_rfl) rfl nil_bytes nil_bytes KE.out w); simp only [Act.put, List.setIfInBounds_toArray, List.set_cons_succ, List.set_cons_zero]))
        refine (PubN N3).mono ?_
        rintro e w4 ⟨rfl, b4⟩
        have N4 := N3.under b4
        have q4 := b3.trans (b4.mono b3.size)
        clear b3 b4 N3
        go_wp2_with (first | ((with_reducible refine wv_val (d := 47) ?hd ?hw (.bool false) ?hr ?_); (case hd => rfl); (case hw => kernel_rfl); (case hr => intro w; exact run_sneq (l := []) (m := []) rfl (by kernel_rfl) rfl nil_bytes nil_bytes KE.out w); simp only [Act.put, List.setIfInBounds_toArray, List.set_cons_succ, List.set_cons_zero]) | ((with_reducible refine wv_val (d := 51) ?hd ?hw (.bool false) ?hr ?_); (case hd => rfl); (case hw => kernel_rfl); (case hr => intro w; exact run_sneq (l := []) (m := []) rfl (by kernel_rfl) rfl nil_bytes nil_bytes KE.out w); simp only [Act.put, List.setIfInBounds_toArray, List.set_cons_succ, List.set_cons_zero]) | (refine wl_bs1 (by kernel_rfl) (.tmp 58) rfl (s) (by kernel_rfl) ?_; simp only [Act.put, List.setIfInBounds_toArray, List.set_cons_succ, List.set_cons_zero]))
        have b5 := (Below.refl w4.heap.size w4).alloc (Nat.le_refl _) (.cells #[.string (strOf s)] 9)
        have N5 := N4.under b5
        have q5 := q4.trans (b5.mono q4.size)
        refine (HashN N5).mono ?_
        rintro e w6 ⟨rfl, hw⟩
        obtain rfl := hw.symm
        clear N4 q4 b5
        go_wp2_with (first | ((with_reducible refine wv_val (d := 61) ?hd ?hw (.bool false) ?hr ?_); (case hd => rfl); (case hw => kernel_rfl); (case hr => intro w; exact run_sneq (l := []) (m := []) rfl (by kernel_rfl) rfl nil_bytes nil_bytes KE.out w); simp only [Act.put, List.setIfInBounds_toArray, List.set_cons_succ, List.set_cons_zero]))
        refine (SealN N5 hn).mono ?_
        rintro e w7 ⟨rfl, b7⟩
        have N7 := N5.under b7
        have q7 := q5.trans (b7.mono q5.size)
        clear N5 q5 b7
        go_wp2_with (first | ((with_reducible refine wv_val (d := 70) ?hd ?hw (.bool false) ?hr ?_); (case hd => rfl); (case hw => kernel_rfl); (case hr => intro w; exact run_sneq (l := []) (m := []) rfl (by kernel_rfl) rfl nil_bytes nil_bytes KE.out w); simp only [Act.put, List.setIfInBounds_toArray, List.set_cons_succ, List.set_cons_zero]))
        refine (AllN N7).mono ?_
        rintro e w8 ⟨rfl, hw⟩
        obtain rfl := hw.symm
        go_wp2_with fail
        go_roundg (gk - 1)
        case measure => omega
        case rel => exact ⟨i + 1, by omega, by simp, hq.trans (q7.mono hq.size)⟩
end Go.Proofs.YtfdldpcfdebinaaDoor.sh
