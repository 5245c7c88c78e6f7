/-
  The reference of layer 10: makes.
-/
import Derived.Test.YtniogaimhkcedaaDoorLC
namespace Go.Proofs.YtniogaimhkcedaaDoor.sh
open Go Go.RowKit
set_option linter.unusedVariables false
set_option linter.unusedSimpArgs false

/-- A bool that says so. -/
def Tells (g : Bool) (P : Prop) : Prop := g = true ↔ P
theorem ex_bool (P : Prop) : ∃ g : Bool, g = true ↔ P := by
  classical
  exact ⟨decide P, by simp⟩
set_option maxRecDepth 100000 in
set_option maxHeartbeats 8000000 in
theorem makesD {D : Nat → Prop} {ts : List TermL} {b : List Bool} {k : Nat} {ll : List (List Nat)} {f : Bool} {v vb V : Value} {w : World} (hv : TsV D v w ts) (hT : Terms ts) (hts : ts.length < 1000000) (hb : ValsV vb w (b.map Value.bool)) (hbl : b.length = ts.length) (hF : Formed (k, ll)) (hC : Fits ll) (hbox : k = 5 → ∃ x n a z, ll = [x, n, a, z]) (hV : ValsV V w (strs ll)) (hf : f = true ↔ MakesK ts (hadP b) (k, ll)) :
    Calls Tryd.prog 35 #[v, vb, .agg #[.int .u8 (k : Int), V]] w fun e w' => e = .returned (.bool f) ∧ Below w.heap.size w w' := by
  obtain ⟨N, hN⟩ : ∃ N, N = ts.length := ⟨_, rfl⟩
  obtain ⟨p, c, rfl, _⟩ := ts_form hv hN.symm
  obtain ⟨ph, ch, rfl, _⟩ := vals_form hb (show (b.map Value.bool).length = N by rw [List.length_map, hbl, hN])
  have KKn : Kept _ := ⟨fun (g : Bool) (s : List Nat) (hs : Bytes s) (hl : s.length ≤ 40000) (hg : g = true ↔ KnownS ts (hadP b) s) (wz : World) (q : Below w.heap.size w wz) => KnownD (hv.under q) hts (hb.under q) hbl hs hl hg⟩
  have KPu : Kept _ := ⟨fun (g : Bool) (s : List Nat) (hs : Bytes s) (hl : s.length ≤ 40000) (hg : g = true ↔ PubK ts (hadP b) s) (wz : World) (q : Below w.heap.size w wz) => publicD (hv.under q) hT hts (hb.under q) hbl hs hl hg⟩
  clear hv hb hbl hT hts hN
  rcases hF.2 with ⟨hkk, x, rfl⟩ | ⟨hkk, x, rfl⟩ | ⟨hkk, x, y, rfl⟩ | hkk | hkk
  · -- an atom
    replace hkk : k = 1 := hkk
    have KE : Kept (f = false) := ⟨by
      cases f with
      | false => rfl
      | true => exact absurd (hf.1 rfl) (by rw [hkk]; exact makes_atom)⟩
    clear hf
    obtain ⟨m2, hm2⟩ : ∃ m, m = 1 := ⟨_, rfl⟩
    obtain ⟨pV, cV, rfl, _⟩ := vals_form hV (show (strs [x]).length = m2 by rw [hm2]; rfl)
    obtain ⟨A2, rfl, hA2, _⟩ := vals_at hV (show (strs [x])[0]? = some (.string (strOf x)) from rfl)
    have c1 : Kept ((w.alloc (.cells #[.int .u8 (k : Int), .slice (some A2) m2 cV] 41)).cell? ⟨w.heap.size, 1, none⟩ = some (.slice (some A2) m2 cV)) := ⟨(blk_new w 41 _).cell rfl⟩
    have c0 : Kept ((w.alloc (.cells #[.int .u8 (k : Int), .slice (some A2) m2 cV] 41)).cell? ⟨w.heap.size, 0, none⟩ = some (.int .u8 (k : Int))) := ⟨(blk_new w 41 _).cell rfl⟩
    have qz : Below w.heap.size w (w.alloc (.cells #[.int .u8 (k : Int), .slice (some A2) m2 cV] 41)) := (Below.refl _ _).alloc (Nat.le_refl _) _
    have hl0 : 0 < m2 := by rw [hm2]; decide
    have KCu0 : Kept (∀ w1, Below w.heap.size w w1 → w1.cell? (A2.add 0) = some (.string (strOf x))) := ⟨fun w1 q => (q.cell (by rw [add_block]; exact hA2)).trans (vals_cell hV (show (strs [x])[0]? = some (.string (strOf x)) from rfl))⟩
    have Kxy : Kept (Bytes x) := ⟨hF.1 x (by simp)⟩
    have Kxl : Kept (x.length ≤ 40000) := ⟨Nat.le_trans (hC.2.1 x (by simp)) (by decide)⟩
    clear hF hC hV hm2 hA2 hbox
    have B2 : Kept (false = decide (k = 2)) := ⟨by rw [hkk]; rfl⟩
    have B3 : Kept (false = decide (k = 3)) := ⟨by rw [hkk]; rfl⟩
    have B4 : Kept (false = decide (k = 4)) := ⟨by rw [hkk]; rfl⟩
    have B5 : Kept (false = decide (k = 5)) := ⟨by rw [hkk]; rfl⟩
    clear hkk
    go_enter Tryd.func35, Tryd.ntmps35
    go_wp2_with (first | ((with_reducible refine wv_elem (d := 10) ?hd ?hw 29 ag_strs (.tmp 9) ?ho (⟨w.heap.size, 1, none⟩) ?hx (.slice (some A2) m2 cV) ?hc ?_); (case hd => rfl); (case hw => kernel_rfl); (case ho => rfl); (case hx => kernel_rfl); (case hc => exact c1.out); simp only [Act.put, List.setIfInBounds_toArray, List.set_cons_succ, List.set_cons_zero]) | ((with_reducible refine wv_elem (d := 12) ?hd ?hw 5 Tryd.isAgg5 (.tmp 11) ?ho (⟨w.heap.size, 0, none⟩) ?hx (.int .u8 (k : Int)) ?hc ?_); (case hd => rfl); (case hw => kernel_rfl); (case ho => rfl); (case hx => kernel_rfl); (case hc => exact c0.out); simp only [Act.put, List.setIfInBounds_toArray, List.set_cons_succ, List.set_cons_zero]) | ((with_reducible refine wv_val (d := 14) ?hd ?hw (.bool false) ?hr ?_); (case hd => rfl); (case hw => kernel_rfl); (case hr => intro w; exact run_eqU8 2 rfl (by kernel_rfl) B2.out w); simp only [Act.put, List.setIfInBounds_toArray, List.set_cons_succ, List.set_cons_zero]) | ((with_reducible refine wv_val (d := 22) ?hd ?hw (.bool false) ?hr ?_); (case hd => rfl); (case hw => kernel_rfl); (case hr => intro w; exact run_eqU8 3 rfl (by kernel_rfl) B3.out w); simp only [Act.put, List.setIfInBounds_toArray, List.set_cons_succ, List.set_cons_zero]) | ((with_reducible refine wv_val (d := 54) ?hd ?hw (.bool false) ?hr ?_); (case hd => rfl); (case hw => kernel_rfl); (case hr => intro w; exact run_eqU8 4 rfl (by kernel_rfl) B4.out w); simp only [Act.put, List.setIfInBounds_toArray, List.set_cons_succ, List.set_cons_zero]) | ((with_reducible refine wv_val (d := 70) ?hd ?hw (.bool false) ?hr ?_); (case hd => rfl); (case hw => kernel_rfl); (case hr => intro w; exact run_eqU8 5 rfl (by kernel_rfl) B5.out w); simp only [Act.put, List.setIfInBounds_toArray, List.set_cons_succ, List.set_cons_zero]))
    go_ret
    exact ⟨by rw [KE.out]; rfl, qz⟩
  · -- a public key
    replace hkk : k = 2 := hkk
    rw [hkk, makes_pub] at hf
    have Kf : Kept (f = true ↔ KnownS ts (hadP b) x) := ⟨hf⟩
    clear hf
    have KE : Kept (f = f) := ⟨rfl⟩
    obtain ⟨m2, hm2⟩ : ∃ m, m = 1 := ⟨_, rfl⟩
    obtain ⟨pV, cV, rfl, _⟩ := vals_form hV (show (strs [x]).length = m2 by rw [hm2]; rfl)
    obtain ⟨A2, rfl, hA2, _⟩ := vals_at hV (show (strs [x])[0]? = some (.string (strOf x)) from rfl)
    have c1 : Kept ((w.alloc (.cells #[.int .u8 (k : Int), .slice (some A2) m2 cV] 41)).cell? ⟨w.heap.size, 1, none⟩ = some (.slice (some A2) m2 cV)) := ⟨(blk_new w 41 _).cell rfl⟩
    have c0 : Kept ((w.alloc (.cells #[.int .u8 (k : Int), .slice (some A2) m2 cV] 41)).cell? ⟨w.heap.size, 0, none⟩ = some (.int .u8 (k : Int))) := ⟨(blk_new w 41 _).cell rfl⟩
    have qz : Below w.heap.size w (w.alloc (.cells #[.int .u8 (k : Int), .slice (some A2) m2 cV] 41)) := (Below.refl _ _).alloc (Nat.le_refl _) _
    have hl0 : 0 < m2 := by rw [hm2]; decide
    have KCu0 : Kept (∀ w1, Below w.heap.size w w1 → w1.cell? (A2.add 0) = some (.string (strOf x))) := ⟨fun w1 q => (q.cell (by rw [add_block]; exact hA2)).trans (vals_cell hV (show (strs [x])[0]? = some (.string (strOf x)) from rfl))⟩
    have Kxy : Kept (Bytes x) := ⟨hF.1 x (by simp)⟩
    have Kxl : Kept (x.length ≤ 40000) := ⟨Nat.le_trans (hC.2.1 x (by simp)) (by decide)⟩
    clear hF hC hV hm2 hA2 hbox
    have B2 : Kept (true = decide (k = 2)) := ⟨by rw [hkk]; rfl⟩
    have B3 : Kept (false = decide (k = 3)) := ⟨by rw [hkk]; rfl⟩
    have B4 : Kept (false = decide (k = 4)) := ⟨by rw [hkk]; rfl⟩
    have B5 : Kept (false = decide (k = 5)) := ⟨by rw [hkk]; rfl⟩
    clear hkk
    go_enter Tryd.func35, Tryd.ntmps35
    go_wp2_with (first | ((with_reducible refine wv_elem (d := 10) ?hd ?hw 29 ag_strs (.tmp 9) ?ho (⟨w.heap.size, 1, none⟩) ?hx (.slice (some A2) m2 cV) ?hc ?_); (case hd => rfl); (case hw => kernel_rfl); (case ho => rfl); (case hx => kernel_rfl); (case hc => exact c1.out); simp only [Act.put, List.setIfInBounds_toArray, List.set_cons_succ, List.set_cons_zero]) | ((with_reducible refine wv_elem (d := 12) ?hd ?hw 5 Tryd.isAgg5 (.tmp 11) ?ho (⟨w.heap.size, 0, none⟩) ?hx (.int .u8 (k : Int)) ?hc ?_); (case hd => rfl); (case hw => kernel_rfl); (case ho => rfl); (case hx => kernel_rfl); (case hc => exact c0.out); simp only [Act.put, List.setIfInBounds_toArray, List.set_cons_succ, List.set_cons_zero]) | ((with_reducible refine wv_val (d := 14) ?hd ?hw (.bool true) ?hr ?_); (case hd => rfl); (case hw => kernel_rfl); (case hr => intro w; exact run_eqU8 2 rfl (by kernel_rfl) B2.out w); simp only [Act.put, List.setIfInBounds_toArray, List.set_cons_succ, List.set_cons_zero]) | ((with_reducible refine wv_val (d := 18) ?hd ?hw (.pointer (some (A2.add 0))) ?hr ?_); (case hd => rfl); (case hw => kernel_rfl); (case hr => intro w; exact run_idxS (i := 0) (l := m2) (c := cV) rfl (by kernel_rfl) rfl Tryd.underlying29 hl0 Tryd.sizeOf9 w); simp only [Act.put, List.setIfInBounds_toArray, List.set_cons_succ, List.set_cons_zero]) | ((with_reducible refine wv_elem (d := 19) ?hd ?hw 9 ag_str (.tmp 18) ?ho (A2.add 0) ?hx (.string (strOf x)) ?hc ?_); (case hd => rfl); (case hw => kernel_rfl); (case ho => rfl); (case hx => kernel_rfl); (case hc => exact (KCu0.out _ qz)); simp only [Act.put, List.setIfInBounds_toArray, List.set_cons_succ, List.set_cons_zero]))
    refine (KKn.out f x Kxy.out Kxl.out Kf.out _ qz).mono ?_
    rintro e w2 ⟨rfl, q2⟩
    replace qz := qz.trans (q2.mono qz.size)
    clear q2
    go_wp2_with fail
    go_ret
    exact ⟨rfl, qz⟩
  · -- a shared key
    replace hkk : k = 3 := hkk
    obtain ⟨g1, hg1⟩ := ex_bool (KnownS ts (hadP b) x)
    have Kg1 : Kept (Tells g1 (KnownS ts (hadP b) x)) := ⟨hg1⟩
    obtain ⟨g2, hg2⟩ := ex_bool (PubK ts (hadP b) y)
    have Kg2 : Kept (Tells g2 (PubK ts (hadP b) y)) := ⟨hg2⟩
    obtain ⟨g3, hg3⟩ := ex_bool (KnownS ts (hadP b) y)
    have Kg3 : Kept (Tells g3 (KnownS ts (hadP b) y)) := ⟨hg3⟩
    obtain ⟨g4, hg4⟩ := ex_bool (PubK ts (hadP b) x)
    have Kg4 : Kept (Tells g4 (PubK ts (hadP b) x)) := ⟨hg4⟩
    have hfb : f = (g1 && g2 || g3 && g4) := Bool.eq_iff_iff.2 (by rw [hf, hkk, makes_dh, ← hg1, ← hg2, ← hg3, ← hg4]; simp)
    clear hg1 hg2 hg3 hg4 hf
    obtain ⟨m2, hm2⟩ : ∃ m, m = 2 := ⟨_, rfl⟩
    obtain ⟨pV, cV, rfl, _⟩ := vals_form hV (show (strs [x, y]).length = m2 by rw [hm2]; rfl)
    obtain ⟨A2, rfl, hA2, _⟩ := vals_at hV (show (strs [x, y])[0]? = some (.string (strOf x)) from rfl)
    have c1 : Kept ((w.alloc (.cells #[.int .u8 (k : Int), .slice (some A2) m2 cV] 41)).cell? ⟨w.heap.size, 1, none⟩ = some (.slice (some A2) m2 cV)) := ⟨(blk_new w 41 _).cell rfl⟩
    have c0 : Kept ((w.alloc (.cells #[.int .u8 (k : Int), .slice (some A2) m2 cV] 41)).cell? ⟨w.heap.size, 0, none⟩ = some (.int .u8 (k : Int))) := ⟨(blk_new w 41 _).cell rfl⟩
    have qz : Below w.heap.size w (w.alloc (.cells #[.int .u8 (k : Int), .slice (some A2) m2 cV] 41)) := (Below.refl _ _).alloc (Nat.le_refl _) _
    have hl0 : 0 < m2 := by rw [hm2]; decide
    have KCu0 : Kept (∀ w1, Below w.heap.size w w1 → w1.cell? (A2.add 0) = some (.string (strOf x))) := ⟨fun w1 q => (q.cell (by rw [add_block]; exact hA2)).trans (vals_cell hV (show (strs [x, y])[0]? = some (.string (strOf x)) from rfl))⟩
    have Kxy : Kept (Bytes x) := ⟨hF.1 x (by simp)⟩
    have Kxl : Kept (x.length ≤ 40000) := ⟨Nat.le_trans (hC.2.1 x (by simp)) (by decide)⟩
    have hl1 : 1 < m2 := by rw [hm2]; decide
    have KCu1 : Kept (∀ w1, Below w.heap.size w w1 → w1.cell? (A2.add 1) = some (.string (strOf y))) := ⟨fun w1 q => (q.cell (by rw [add_block]; exact hA2)).trans (vals_cell hV (show (strs [x, y])[1]? = some (.string (strOf y)) from rfl))⟩
    have Kyy : Kept (Bytes y) := ⟨hF.1 y (by simp)⟩
    have Kyl : Kept (y.length ≤ 40000) := ⟨Nat.le_trans (hC.2.1 y (by simp)) (by decide)⟩
    clear hF hC hV hm2 hA2 hbox
    cases g1 with
    | true =>
     cases g2 with
     | true =>
      have KE : Kept (f = true) := ⟨by rw [hfb]; simp⟩
      clear hfb
      have B2 : Kept (false = decide (k = 2)) := ⟨by rw [hkk]; rfl⟩
      have B3 : Kept (true = decide (k = 3)) := ⟨by rw [hkk]; rfl⟩
      have B4 : Kept (false = decide (k = 4)) := ⟨by rw [hkk]; rfl⟩
      have B5 : Kept (false = decide (k = 5)) := ⟨by rw [hkk]; rfl⟩
      clear hkk
      go_enter Tryd.func35, Tryd.ntmps35
      go_wp2_with (first | ((with_reducible refine wv_elem (d := 10) ?hd ?hw 29 ag_strs (.tmp 9) ?ho (⟨w.heap.size, 1, none⟩) ?hx (.slice (some A2) m2 cV) ?hc ?_); (case hd => rfl); (case hw => kernel_rfl); (case ho => rfl); (case hx => kernel_rfl); (case hc => exact c1.out); simp only [Act.put, List.setIfInBounds_toArray, List.set_cons_succ, List.set_cons_zero]) | ((with_reducible refine wv_elem (d := 12) ?hd ?hw 5 Tryd.isAgg5 (.tmp 11) ?ho (⟨w.heap.size, 0, none⟩) ?hx (.int .u8 (k : Int)) ?hc ?_); (case hd => rfl); (case hw => kernel_rfl); (case ho => rfl); (case hx => kernel_rfl); (case hc => exact c0.out); simp only [Act.put, List.setIfInBounds_toArray, List.set_cons_succ, List.set_cons_zero]) | ((with_reducible refine wv_val (d := 14) ?hd ?hw (.bool false) ?hr ?_); (case hd => rfl); (case hw => kernel_rfl); (case hr => intro w; exact run_eqU8 2 rfl (by kernel_rfl) B2.out w); simp only [Act.put, List.setIfInBounds_toArray, List.set_cons_succ, List.set_cons_zero]) | ((with_reducible refine wv_val (d := 22) ?hd ?hw (.bool true) ?hr ?_); (case hd => rfl); (case hw => kernel_rfl); (case hr => intro w; exact run_eqU8 3 rfl (by kernel_rfl) B3.out w); simp only [Act.put, List.setIfInBounds_toArray, List.set_cons_succ, List.set_cons_zero]) | ((with_reducible refine wv_val (d := 26) ?hd ?hw (.pointer (some (A2.add 0))) ?hr ?_); (case hd => rfl); (case hw => kernel_rfl); (case hr => intro w; exact run_idxS (i := 0) (l := m2) (c := cV) rfl (by kernel_rfl) rfl Tryd.underlying29 hl0 Tryd.sizeOf9 w); simp only [Act.put, List.setIfInBounds_toArray, List.set_cons_succ, List.set_cons_zero]) | ((with_reducible refine wv_elem (d := 27) ?hd ?hw 9 ag_str (.tmp 26) ?ho (A2.add 0) ?hx (.string (strOf x)) ?hc ?_); (case hd => rfl); (case hw => kernel_rfl); (case ho => rfl); (case hx => kernel_rfl); (case hc => exact (KCu0.out _ qz)); simp only [Act.put, List.setIfInBounds_toArray, List.set_cons_succ, List.set_cons_zero]))
      refine (KKn.out true x Kxy.out Kxl.out Kg1.out _ qz).mono ?_
      rintro e w2 ⟨rfl, q2⟩
      replace qz := qz.trans (q2.mono qz.size)
      clear q2
      go_wp2_with (first | ((with_reducible refine wv_val (d := 33) ?hd ?hw (.pointer (some (A2.add 1))) ?hr ?_); (case hd => rfl); (case hw => kernel_rfl); (case hr => intro w; exact run_idxS (i := 1) (l := m2) (c := cV) rfl (by kernel_rfl) rfl Tryd.underlying29 hl1 Tryd.sizeOf9 w); simp only [Act.put, List.setIfInBounds_toArray, List.set_cons_succ, List.set_cons_zero]) | ((with_reducible refine wv_elem (d := 34) ?hd ?hw 9 ag_str (.tmp 33) ?ho (A2.add 1) ?hx (.string (strOf y)) ?hc ?_); (case hd => rfl); (case hw => kernel_rfl); (case ho => rfl); (case hx => kernel_rfl); (case hc => exact (KCu1.out _ qz)); simp only [Act.put, List.setIfInBounds_toArray, List.set_cons_succ, List.set_cons_zero]))
      refine (KPu.out true y Kyy.out Kyl.out Kg2.out _ qz).mono ?_
      rintro e w2 ⟨rfl, q2⟩
      replace qz := qz.trans (q2.mono qz.size)
      clear q2
      go_wp2_with fail
      go_ret
      exact ⟨by rw [KE.out]; rfl, qz⟩
     | false =>
      cases g3 with
      | true =>
       have KE : Kept (f = g4) := ⟨by rw [hfb]; simp⟩
       clear hfb
       have B2 : Kept (false = decide (k = 2)) := ⟨by rw [hkk]; rfl⟩
       have B3 : Kept (true = decide (k = 3)) := ⟨by rw [hkk]; rfl⟩
       have B4 : Kept (false = decide (k = 4)) := ⟨by rw [hkk]; rfl⟩
       have B5 : Kept (false = decide (k = 5)) := ⟨by rw [hkk]; rfl⟩
       clear hkk
       go_enter Tryd.func35, Tryd.ntmps35
       go_wp2_with (first | ((with_reducible refine wv_elem (d := 10) ?hd ?hw 29 ag_strs (.tmp 9) ?ho (⟨w.heap.size, 1, none⟩) ?hx (.slice (some A2) m2 cV) ?hc ?_); (case hd => rfl); (case hw => kernel_rfl); (case ho => rfl); (case hx => kernel_rfl); (case hc => exact c1.out); simp only [Act.put, List.setIfInBounds_toArray, List.set_cons_succ, List.set_cons_zero]) | ((with_reducible refine wv_elem (d := 12) ?hd ?hw 5 Tryd.isAgg5 (.tmp 11) ?ho (⟨w.heap.size, 0, none⟩) ?hx (.int .u8 (k : Int)) ?hc ?_); (case hd => rfl); (case hw => kernel_rfl); (case ho => rfl); (case hx => kernel_rfl); (case hc => exact c0.out); simp only [Act.put, List.setIfInBounds_toArray, List.set_cons_succ, List.set_cons_zero]) | ((with_reducible refine wv_val (d := 14) ?hd ?hw (.bool false) ?hr ?_); (case hd => rfl); (case hw => kernel_rfl); (case hr => intro w; exact run_eqU8 2 rfl (by kernel_rfl) B2.out w); simp only [Act.put, List.setIfInBounds_toArray, List.set_cons_succ, List.set_cons_zero]) | ((with_reducible refine wv_val (d := 22) ?hd ?hw (.bool true) ?hr ?_); (case hd => rfl); (case hw => kernel_rfl); (case hr => intro w; exact run_eqU8 3 rfl (by kernel_rfl) B3.out w); simp only [Act.put, List.setIfInBounds_toArray, List.set_cons_succ, List.set_cons_zero]) | ((with_reducible refine wv_val (d := 26) ?hd ?hw (.pointer (some (A2.add 0))) ?hr ?_); (case hd => rfl); (case hw => kernel_rfl); (case hr => intro w; exact run_idxS (i := 0) (l := m2) (c := cV) rfl (by kernel_rfl) rfl Tryd.underlying29 hl0 Tryd.sizeOf9 w); simp only [Act.put, List.setIfInBounds_toArray, List.set_cons_succ, List.set_cons_zero]) | ((with_reducible refine wv_elem (d := 27) ?hd ?hw 9 ag_str (.tmp 26) ?ho (A2.add 0) ?hx (.string (strOf x)) ?hc ?_); (case hd => rfl); (case hw => kernel_rfl); (case ho => rfl); (case hx => kernel_rfl); (case hc => exact (KCu0.out _ qz)); simp only [Act.put, List.setIfInBounds_toArray, List.set_cons_succ, List.set_cons_zero]))
       refine (KKn.out true x Kxy.out Kxl.out Kg1.out _ qz).mono ?_
       rintro e w2 ⟨rfl, q2⟩
       replace qz := qz.trans (q2.mono qz.size)
       clear q2
       go_wp2_with (first | ((with_reducible refine wv_val (d := 33) ?hd ?hw (.pointer (some (A2.add 1))) ?hr ?_); (case hd => rfl); (case hw => kernel_rfl); (case hr => intro w; exact run_idxS (i := 1) (l := m2) (c := cV) rfl (by kernel_rfl) rfl Tryd.underlying29 hl1 Tryd.sizeOf9 w); simp only [Act.put, List.setIfInBounds_toArray, List.set_cons_succ, List.set_cons_zero]) | ((with_reducible refine wv_elem (d := 34) ?hd ?hw 9 ag_str (.tmp 33) ?ho (A2.add 1) ?hx (.string (strOf y)) ?hc ?_); (case hd => rfl); (case hw => kernel_rfl); (case ho => rfl); (case hx => kernel_rfl); (case hc => exact (KCu1.out _ qz)); simp only [Act.put, List.setIfInBounds_toArray, List.set_cons_succ, List.set_cons_zero]))
       refine (KPu.out false y Kyy.out Kyl.out Kg2.out _ qz).mono ?_
       rintro e w2 ⟨rfl, q2⟩
       replace qz := qz.trans (q2.mono qz.size)
       clear q2
       go_wp2_with (first | ((with_reducible refine wv_val (d := 41) ?hd ?hw (.pointer (some (A2.add 1))) ?hr ?_); (case hd => rfl); (case hw => kernel_rfl); (case hr => intro w; exact run_idxS (i := 1) (l := m2) (c := cV) rfl (by kernel_rfl) rfl Tryd.underlying29 hl1 Tryd.sizeOf9 w); simp only [Act.put, List.setIfInBounds_toArray, List.set_cons_succ, List.set_cons_zero]) | ((with_reducible refine wv_elem (d := 42) ?hd ?hw 9 ag_str (.tmp 41) ?ho (A2.add 1) ?hx (.string (strOf y)) ?hc ?_); (case hd => rfl); (case hw => kernel_rfl); (case ho => rfl); (case hx => kernel_rfl); (case hc => exact (KCu1.out _ qz)); simp only [Act.put, List.setIfInBounds_toArray, List.set_cons_succ, List.set_cons_zero]))
       refine (KKn.out true y Kyy.out Kyl.out Kg3.out _ qz).mono ?_
       rintro e w2 ⟨rfl, q2⟩
       replace qz := qz.trans (q2.mono qz.size)
       clear q2
       go_wp2_with (first | ((with_reducible refine wv_val (d := 48) ?hd ?hw (.pointer (some (A2.add 0))) ?hr ?_); (case hd => rfl); (case hw => kernel_rfl); (case hr => intro w; exact run_idxS (i := 0) (l := m2) (c := cV) rfl (by kernel_rfl) rfl Tryd.underlying29 hl0 Tryd.sizeOf9 w); simp only [Act.put, List.setIfInBounds_toArray, List.set_cons_succ, List.set_cons_zero]) | ((with_reducible refine wv_elem (d := 49) ?hd ?hw 9 ag_str (.tmp 48) ?ho (A2.add 0) ?hx (.string (strOf x)) ?hc ?_); (case hd => rfl); (case hw => kernel_rfl); (case ho => rfl); (case hx => kernel_rfl); (case hc => exact (KCu0.out _ qz)); simp only [Act.put, List.setIfInBounds_toArray, List.set_cons_succ, List.set_cons_zero]))
       refine (KPu.out g4 x Kxy.out Kxl.out Kg4.out _ qz).mono ?_
       rintro e w2 ⟨rfl, q2⟩
       replace qz := qz.trans (q2.mono qz.size)
       clear q2
       go_wp2_with fail
       go_ret
       exact ⟨by rw [KE.out]; rfl, qz⟩
      | false =>
       have KE : Kept (f = false) := ⟨by rw [hfb]; simp⟩
       clear hfb
       have B2 : Kept (false = decide (k = 2)) := ⟨by rw [hkk]; rfl⟩
       have B3 : Kept (true = decide (k = 3)) := ⟨by rw [hkk]; rfl⟩
       have B4 : Kept (false = decide (k = 4)) := ⟨by rw [hkk]; rfl⟩
       have B5 : Kept (false = decide (k = 5)) := ⟨by rw [hkk]; rfl⟩
       clear hkk
       go_enter Tryd.func35, Tryd.ntmps35
       go_wp2_with (first | ((with_reducible refine wv_elem (d := 10) ?hd ?hw 29 ag_strs (.tmp 9) ?ho (⟨w.heap.size, 1, none⟩) ?hx (.slice (some A2) m2 cV) ?hc ?_); (case hd => rfl); (case hw => kernel_rfl); (case ho => rfl); (case hx => kernel_rfl); (case hc => exact c1.out); simp only [Act.put, List.setIfInBounds_toArray, List.set_cons_succ, List.set_cons_zero]) | ((with_reducible refine wv_elem (d := 12) ?hd ?hw 5 Tryd.isAgg5 (.tmp 11) ?ho (⟨w.heap.size, 0, none⟩) ?hx (.int .u8 (k : Int)) ?hc ?_); (case hd => rfl); (case hw => kernel_rfl); (case ho => rfl); (case hx => kernel_rfl); (case hc => exact c0.out); simp only [Act.put, List.setIfInBounds_toArray, List.set_cons_succ, List.set_cons_zero]) | ((with_reducible refine wv_val (d := 14) ?hd ?hw (.bool false) ?hr ?_); (case hd => rfl); (case hw => kernel_rfl); (case hr => intro w; exact run_eqU8 2 rfl (by kernel_rfl) B2.out w); simp only [Act.put, List.setIfInBounds_toArray, List.set_cons_succ, List.set_cons_zero]) | ((with_reducible refine wv_val (d := 22) ?hd ?hw (.bool true) ?hr ?_); (case hd => rfl); (case hw => kernel_rfl); (case hr => intro w; exact run_eqU8 3 rfl (by kernel_rfl) B3.out w); simp only [Act.put, List.setIfInBounds_toArray, List.set_cons_succ, List.set_cons_zero]) | ((with_reducible refine wv_val (d := 26) ?hd ?hw (.pointer (some (A2.add 0))) ?hr ?_); (case hd => rfl); (case hw => kernel_rfl); (case hr => intro w; exact run_idxS (i := 0) (l := m2) (c := cV) rfl (by kernel_rfl) rfl Tryd.underlying29 hl0 Tryd.sizeOf9 w); simp only [Act.put, List.setIfInBounds_toArray, List.set_cons_succ, List.set_cons_zero]) | ((with_reducible refine wv_elem (d := 27) ?hd ?hw 9 ag_str (.tmp 26) ?ho (A2.add 0) ?hx (.string (strOf x)) ?hc ?_); (case hd => rfl); (case hw => kernel_rfl); (case ho => rfl); (case hx => kernel_rfl); (case hc => exact (KCu0.out _ qz)); simp only [Act.put, List.setIfInBounds_toArray, List.set_cons_succ, List.set_cons_zero]))
       refine (KKn.out true x Kxy.out Kxl.out Kg1.out _ qz).mono ?_
       rintro e w2 ⟨rfl, q2⟩
       replace qz := qz.trans (q2.mono qz.size)
       clear q2
       go_wp2_with (first | ((with_reducible refine wv_val (d := 33) ?hd ?hw (.pointer (some (A2.add 1))) ?hr ?_); (case hd => rfl); (case hw => kernel_rfl); (case hr => intro w; exact run_idxS (i := 1) (l := m2) (c := cV) rfl (by kernel_rfl) rfl Tryd.underlying29 hl1 Tryd.sizeOf9 w); simp only [Act.put, List.setIfInBounds_toArray, List.set_cons_succ, List.set_cons_zero]) | ((with_reducible refine wv_elem (d := 34) ?hd ?hw 9 ag_str (.tmp 33) ?ho (A2.add 1) ?hx (.string (strOf y)) ?hc ?_); (case hd => rfl); (case hw => kernel_rfl); (case ho => rfl); (case hx => kernel_rfl); (case hc => exact (KCu1.out _ qz)); simp only [Act.put, List.setIfInBounds_toArray, List.set_cons_succ, List.set_cons_zero]))
       refine (KPu.out false y Kyy.out Kyl.out Kg2.out _ qz).mono ?_
       rintro e w2 ⟨rfl, q2⟩
       replace qz := qz.trans (q2.mono qz.size)
       clear q2
       go_wp2_with (first | ((with_reducible refine wv_val (d := 41) ?hd ?hw (.pointer (some (A2.add 1))) ?hr ?_); (case hd => rfl); (case hw => kernel_rfl); (case hr => intro w; exact run_idxS (i := 1) (l := m2) (c := cV) rfl (by kernel_rfl) rfl Tryd.underlying29 hl1 Tryd.sizeOf9 w); simp only [Act.put, List.setIfInBounds_toArray, List.set_cons_succ, List.set_cons_zero]) | ((with_reducible refine wv_elem (d := 42) ?hd ?hw 9 ag_str (.tmp 41) ?ho (A2.add 1) ?hx (.string (strOf y)) ?hc ?_); (case hd => rfl); (case hw => kernel_rfl); (case ho => rfl); (case hx => kernel_rfl); (case hc => exact (KCu1.out _ qz)); simp only [Act.put, List.setIfInBounds_toArray, List.set_cons_succ, List.set_cons_zero]))
       refine (KKn.out false y Kyy.out Kyl.out Kg3.out _ qz).mono ?_
       rintro e w2 ⟨rfl, q2⟩
       replace qz := qz.trans (q2.mono qz.size)
       clear q2
       go_wp2_with fail
       go_ret
       exact ⟨by rw [KE.out]; rfl, qz⟩
    | false =>
     cases g3 with
     | true =>
      have KE : Kept (f = g4) := ⟨by rw [hfb]; simp⟩
      clear hfb
      have B2 : Kept (false = decide (k = 2)) := ⟨by rw [hkk]; rfl⟩
      have B3 : Kept (true = decide (k = 3)) := ⟨by rw [hkk]; rfl⟩
      have B4 : Kept (false = decide (k = 4)) := ⟨by rw [hkk]; rfl⟩
      have B5 : Kept (false = decide (k = 5)) := ⟨by rw [hkk]; rfl⟩
      clear hkk
      go_enter Tryd.func35, Tryd.ntmps35
      go_wp2_with (first | ((with_reducible refine wv_elem (d := 10) ?hd ?hw 29 ag_strs (.tmp 9) ?ho (⟨w.heap.size, 1, none⟩) ?hx (.slice (some A2) m2 cV) ?hc ?_); (case hd => rfl); (case hw => kernel_rfl); (case ho => rfl); (case hx => kernel_rfl); (case hc => exact c1.out); simp only [Act.put, List.setIfInBounds_toArray, List.set_cons_succ, List.set_cons_zero]) | ((with_reducible refine wv_elem (d := 12) ?hd ?hw 5 Tryd.isAgg5 (.tmp 11) ?ho (⟨w.heap.size, 0, none⟩) ?hx (.int .u8 (k : Int)) ?hc ?_); (case hd => rfl); (case hw => kernel_rfl); (case ho => rfl); (case hx => kernel_rfl); (case hc => exact c0.out); simp only [Act.put, List.setIfInBounds_toArray, List.set_cons_succ, List.set_cons_zero]) | ((with_reducible refine wv_val (d := 14) ?hd ?hw (.bool false) ?hr ?_); (case hd => rfl); (case hw => kernel_rfl); (case hr => intro w; exact run_eqU8 2 rfl (by kernel_rfl) B2.out w); simp only [Act.put, List.setIfInBounds_toArray, List.set_cons_succ, List.set_cons_zero]) | ((with_reducible refine wv_val (d := 22) ?hd ?hw (.bool true) ?hr ?_); (case hd => rfl); (case hw => kernel_rfl); (case hr => intro w; exact run_eqU8 3 rfl (by kernel_rfl) B3.out w); simp only [Act.put, List.setIfInBounds_toArray, List.set_cons_succ, List.set_cons_zero]) | ((with_reducible refine wv_val (d := 26) ?hd ?hw (.pointer (some (A2.add 0))) ?hr ?_); (case hd => rfl); (case hw => kernel_rfl); (case hr => intro w; exact run_idxS (i := 0) (l := m2) (c := cV) rfl (by kernel_rfl) rfl Tryd.underlying29 hl0 Tryd.sizeOf9 w); simp only [Act.put, List.setIfInBounds_toArray, List.set_cons_succ, List.set_cons_zero]) | ((with_reducible refine wv_elem (d := 27) ?hd ?hw 9 ag_str (.tmp 26) ?ho (A2.add 0) ?hx (.string (strOf x)) ?hc ?_); (case hd => rfl); (case hw => kernel_rfl); (case ho => rfl); (case hx => kernel_rfl); (case hc => exact (KCu0.out _ qz)); simp only [Act.put, List.setIfInBounds_toArray, List.set_cons_succ, List.set_cons_zero]))
      refine (KKn.out false x Kxy.out Kxl.out Kg1.out _ qz).mono ?_
      rintro e w2 ⟨rfl, q2⟩
      replace qz := qz.trans (q2.mono qz.size)
      clear q2
      go_wp2_with (first | ((with_reducible refine wv_val (d := 41) ?hd ?hw (.pointer (some (A2.add 1))) ?hr ?_); (case hd => rfl); (case hw => kernel_rfl); (case hr => intro w; exact run_idxS (i := 1) (l := m2) (c := cV) rfl (by kernel_rfl) rfl Tryd.underlying29 hl1 Tryd.sizeOf9 w); simp only [Act.put, List.setIfInBounds_toArray, List.set_cons_succ, List.set_cons_zero]) | ((with_reducible refine wv_elem (d := 42) ?hd ?hw 9 ag_str (.tmp 41) ?ho (A2.add 1) ?hx (.string (strOf y)) ?hc ?_); (case hd => rfl); (case hw => kernel_rfl); (case ho => rfl); (case hx => kernel_rfl); (case hc => exact (KCu1.out _ qz)); simp only [Act.put, List.setIfInBounds_toArray, List.set_cons_succ, List.set_cons_zero]))
      refine (KKn.out true y Kyy.out Kyl.out Kg3.out _ qz).mono ?_
      rintro e w2 ⟨rfl, q2⟩
      replace qz := qz.trans (q2.mono qz.size)
      clear q2
      go_wp2_with (first | ((with_reducible refine wv_val (d := 48) ?hd ?hw (.pointer (some (A2.add 0))) ?hr ?_); (case hd => rfl); (case hw => kernel_rfl); (case hr => intro w; exact run_idxS (i := 0) (l := m2) (c := cV) rfl (by kernel_rfl) rfl Tryd.underlying29 hl0 Tryd.sizeOf9 w); simp only [Act.put, List.setIfInBounds_toArray, List.set_cons_succ, List.set_cons_zero]) | ((with_reducible refine wv_elem (d := 49) ?hd ?hw 9 ag_str (.tmp 48) ?ho (A2.add 0) ?hx (.string (strOf x)) ?hc ?_); (case hd => rfl); (case hw => kernel_rfl); (case ho => rfl); (case hx => kernel_rfl); (case hc => exact (KCu0.out _ qz)); simp only [Act.put, List.setIfInBounds_toArray, List.set_cons_succ, List.set_cons_zero]))
      refine (KPu.out g4 x Kxy.out Kxl.out Kg4.out _ qz).mono ?_
      rintro e w2 ⟨rfl, q2⟩
      replace qz := qz.trans (q2.mono qz.size)
      clear q2
      go_wp2_with fail
      go_ret
      exact ⟨by rw [KE.out]; rfl, qz⟩
     | false =>
      have KE : Kept (f = false) := ⟨by rw [hfb]; simp⟩
      clear hfb
      have B2 : Kept (false = decide (k = 2)) := ⟨by rw [hkk]; rfl⟩
      have B3 : Kept (true = decide (k = 3)) := ⟨by rw [hkk]; rfl⟩
      have B4 : Kept (false = decide (k = 4)) := ⟨by rw [hkk]; rfl⟩
      have B5 : Kept (false = decide (k = 5)) := ⟨by rw [hkk]; rfl⟩
      clear hkk
      go_enter Tryd.func35, Tryd.ntmps35
      go_wp2_with (first | ((with_reducible refine wv_elem (d := 10) ?hd ?hw 29 ag_strs (.tmp 9) ?ho (⟨w.heap.size, 1, none⟩) ?hx (.slice (some A2) m2 cV) ?hc ?_); (case hd => rfl); (case hw => kernel_rfl); (case ho => rfl); (case hx => kernel_rfl); (case hc => exact c1.out); simp only [Act.put, List.setIfInBounds_toArray, List.set_cons_succ, List.set_cons_zero]) | ((with_reducible refine wv_elem (d := 12) ?hd ?hw 5 Tryd.isAgg5 (.tmp 11) ?ho (⟨w.heap.size, 0, none⟩) ?hx (.int .u8 (k : Int)) ?hc ?_); (case hd => rfl); (case hw => kernel_rfl); (case ho => rfl); (case hx => kernel_rfl); (case hc => exact c0.out); simp only [Act.put, List.setIfInBounds_toArray, List.set_cons_succ, List.set_cons_zero]) | ((with_reducible refine wv_val (d := 14) ?hd ?hw (.bool false) ?hr ?_); (case hd => rfl); (case hw => kernel_rfl); (case hr => intro w; exact run_eqU8 2 rfl (by kernel_rfl) B2.out w); simp only [Act.put, List.setIfInBounds_toArray, List.set_cons_succ, List.set_cons_zero]) | ((with_reducible refine wv_val (d := 22) ?hd ?hw (.bool true) ?hr ?_); (case hd => rfl); (case hw => kernel_rfl); (case hr => intro w; exact run_eqU8 3 rfl (by kernel_rfl) B3.out w); simp only [Act.put, List.setIfInBounds_toArray, List.set_cons_succ, List.set_cons_zero]) | ((with_reducible refine wv_val (d := 26) ?hd ?hw (.pointer (some (A2.add 0))) ?hr ?_); (case hd => rfl); (case hw => kernel_rfl); (case hr => intro w; exact run_idxS (i := 0) (l := m2) (c := cV) rfl (by kernel_rfl) rfl Tryd.underlying29 hl0 Tryd.sizeOf9 w); simp only [Act.put, List.setIfInBounds_toArray, List.set_cons_succ, List.set_cons_zero]) | ((with_reducible refine wv_elem (d := 27) ?hd ?hw 9 ag_str (.tmp 26) ?ho (A2.add 0) ?hx (.string (strOf x)) ?hc ?_); (case hd => rfl); (case hw => kernel_rfl); (case ho => rfl); (case hx => kernel_rfl); (case hc => exact (KCu0.out _ qz)); simp only [Act.put, List.setIfInBounds_toArray, List.set_cons_succ, List.set_cons_zero]))
      refine (KKn.out false x Kxy.out Kxl.out Kg1.out _ qz).mono ?_
      rintro e w2 ⟨rfl, q2⟩
      replace qz := qz.trans (q2.mono qz.size)
      clear q2
      go_wp2_with (first | ((with_reducible refine wv_val (d := 41) ?hd ?hw (.pointer (some (A2.add 1))) ?hr ?_); (case hd => rfl); (case hw => kernel_rfl); (case hr => intro w; exact run_idxS (i := 1) (l := m2) (c := cV) rfl (by kernel_rfl) rfl Tryd.underlying29 hl1 Tryd.sizeOf9 w); simp only [Act.put, List.setIfInBounds_toArray, List.set_cons_succ, List.set_cons_zero]) | ((with_reducible refine wv_elem (d := 42) ?hd ?hw 9 ag_str (.tmp 41) ?ho (A2.add 1) ?hx (.string (strOf y)) ?hc ?_); (case hd => rfl); (case hw => kernel_rfl); (case ho => rfl); (case hx => kernel_rfl); (case hc => exact (KCu1.out _ qz)); simp only [Act.put, List.setIfInBounds_toArray, List.set_cons_succ, List.set_cons_zero]))
      refine (KKn.out false y Kyy.out Kyl.out Kg3.out _ qz).mono ?_
      rintro e w2 ⟨rfl, q2⟩
      replace qz := qz.trans (q2.mono qz.size)
      clear q2
      go_wp2_with fail
      go_ret
      exact ⟨by rw [KE.out]; rfl, qz⟩
  · -- a digest
    replace hkk : k = 4 := hkk
    rw [hkk, makes_hash] at hf
    have Kf : Kept (f = true ↔ ∀ p ∈ ll, KnownS ts (hadP b) p) := ⟨hf⟩
    obtain ⟨m2, hm2⟩ : ∃ m, m = ll.length := ⟨_, rfl⟩
    obtain ⟨pV, cV, rfl, _⟩ := vals_form hV (show (strs ll).length = m2 by rw [strs_len, hm2])
    have c1 : Kept ((w.alloc (.cells #[.int .u8 (k : Int), .slice pV m2 cV] 41)).cell? ⟨w.heap.size, 1, none⟩ = some (.slice pV m2 cV)) := ⟨(blk_new w 41 _).cell rfl⟩
    have c0 : Kept ((w.alloc (.cells #[.int .u8 (k : Int), .slice pV m2 cV] 41)).cell? ⟨w.heap.size, 0, none⟩ = some (.int .u8 (k : Int))) := ⟨(blk_new w 41 _).cell rfl⟩
    have qz : Below w.heap.size w (w.alloc (.cells #[.int .u8 (k : Int), .slice pV m2 cV] 41)) := (Below.refl _ _).alloc (Nat.le_refl _) _
    have KV : Kept _ := ⟨hV⟩
    have Km2 : Kept _ := ⟨hm2⟩
    have Kby : Kept (∀ l ∈ ll, Bytes l ∧ l.length ≤ 40000) := ⟨fun l hl => ⟨hF.1 l hl, Nat.le_trans (hC.2.1 l hl) (by decide)⟩⟩
    have hm255 : m2 ≤ 255 := by rw [hm2]; exact hC.1
    have Kq1 : Kept _ := ⟨qz⟩
    have KB1 : Kept (∀ w1, Below w.heap.size w w1 → True) := ⟨fun _ _ => trivial⟩
    clear hf hF hC hV hm2 hbox qz
    have B2 : Kept (false = decide (k = 2)) := ⟨by rw [hkk]; rfl⟩
    have B3 : Kept (false = decide (k = 3)) := ⟨by rw [hkk]; rfl⟩
    have B4 : Kept (true = decide (k = 4)) := ⟨by rw [hkk]; rfl⟩
    have B5 : Kept (false = decide (k = 5)) := ⟨by rw [hkk]; rfl⟩
    clear hkk
    go_enter Tryd.func35, Tryd.ntmps35
    go_wp2_with (first | ((with_reducible refine wv_elem (d := 10) ?hd ?hw 29 ag_strs (.tmp 9) ?ho (⟨w.heap.size, 1, none⟩) ?hx (.slice pV m2 cV) ?hc ?_); (case hd => rfl); (case hw => kernel_rfl); (case ho => rfl); (case hx => kernel_rfl); (case hc => exact c1.out); simp only [Act.put, List.setIfInBounds_toArray, List.set_cons_succ, List.set_cons_zero]) | ((with_reducible refine wv_elem (d := 12) ?hd ?hw 5 Tryd.isAgg5 (.tmp 11) ?ho (⟨w.heap.size, 0, none⟩) ?hx (.int .u8 (k : Int)) ?hc ?_); (case hd => rfl); (case hw => kernel_rfl); (case ho => rfl); (case hx => kernel_rfl); (case hc => exact c0.out); simp only [Act.put, List.setIfInBounds_toArray, List.set_cons_succ, List.set_cons_zero]) | ((with_reducible refine wv_val (d := 14) ?hd ?hw (.bool false) ?hr ?_); (case hd => rfl); (case hw => kernel_rfl); (case hr => intro w; exact run_eqU8 2 rfl (by kernel_rfl) B2.out w); simp only [Act.put, List.setIfInBounds_toArray, List.set_cons_succ, List.set_cons_zero]) | ((with_reducible refine wv_val (d := 22) ?hd ?hw (.bool false) ?hr ?_); (case hd => rfl); (case hw => kernel_rfl); (case hr => intro w; exact run_eqU8 3 rfl (by kernel_rfl) B3.out w); simp only [Act.put, List.setIfInBounds_toArray, List.set_cons_succ, List.set_cons_zero]) | ((with_reducible refine wv_val (d := 54) ?hd ?hw (.bool true) ?hr ?_); (case hd => rfl); (case hw => kernel_rfl); (case hr => intro w; exact run_eqU8 4 rfl (by kernel_rfl) B4.out w); simp only [Act.put, List.setIfInBounds_toArray, List.set_cons_succ, List.set_cons_zero]))
    go_loopg [8] m2 (fun g s8 wr => ∃ i : Nat, i + g = m2 ∧ s8 = .int .i64 (i : Int) ∧ Below w.heap.size w wr ∧ Kept (∀ (j : Nat) (l : List Nat), j < i → ll[j]? = some l → KnownS ts (hadP b) l))
    case atStart => exact ⟨0, by omega, rfl, Kq1.out, ⟨fun j l h => by omega⟩⟩
    case round =>
      rename World => wz
      obtain ⟨i, hik, rfl, qz, KJ⟩ := hrel
      by_cases hk0 : gk = 0
      case pos =>
        obtain rfl : m2 = i := by omega
        have KE : Kept (f = true) := ⟨Kf.out.2 fun l hl => by
          obtain ⟨j, hj⟩ := List.mem_iff_getElem?.1 hl
          exact KJ.out j l (by rw [Km2.out]; exact (List.getElem?_eq_some_iff.1 hj).1) hj⟩
        go_wp2_with fail
        go_ret
        exact ⟨by rw [KE.out]; rfl, qz⟩
      case neg =>
        have hin : i < m2 := by omega
        have hin' : (i : Int) < (m2 : Int) := by omega
        have hi1 : (i : Int) + 1 ≤ 9223372036854775807 := by omega
        obtain ⟨l, hl⟩ : ∃ l, ll[i]? = some l := ⟨_, List.getElem?_eq_getElem (by rw [← Km2.out]; exact hin)⟩
        obtain ⟨A, rfl, hA, hcell⟩ := vals_at (KV.out.under qz) (strs_get hl)
        have hby := Kby.out l (List.mem_of_getElem? hl)
        obtain ⟨g, hg⟩ := ex_bool (KnownS ts (hadP b) l)
        have Kg : Kept (Tells g (KnownS ts (hadP b) l)) := ⟨hg⟩
        have KC : Kept _ := ⟨hcell⟩
        have Kly : Kept _ := ⟨hby.1⟩
        have Kll : Kept _ := ⟨hby.2⟩
        have Khl : Kept _ := ⟨hl⟩
        clear hl hcell hby hg
        cases g with
        | true =>
          go_wp2_with (first | ((with_reducible refine wv_val (d := 65) ?hd ?hw (.pointer (some (A.add i))) ?hr ?_); (case hd => rfl); (case hw => kernel_rfl); (case hr => intro w; exact run_idxS (c := cV) rfl (by kernel_rfl) (by kernel_rfl) Tryd.underlying29 hin Tryd.sizeOf9 w); simp only [Act.put, List.setIfInBounds_toArray, List.set_cons_succ, List.set_cons_zero]) | ((with_reducible refine wv_elem (d := 66) ?hd ?hw 9 ag_str (.tmp 65) ?ho (A.add i) ?hx (.string (strOf l)) ?hc ?_); (case hd => rfl); (case hw => kernel_rfl); (case ho => rfl); (case hx => kernel_rfl); (case hc => exact KC.out); simp only [Act.put, List.setIfInBounds_toArray, List.set_cons_succ, List.set_cons_zero]))
          refine (KKn.out true l Kly.out Kll.out Kg.out _ qz).mono ?_
          rintro e w2 ⟨rfl, q2⟩
          go_wp2_with fail
          go_roundg (gk - 1)
          case measure => omega
          case rel =>
            refine ⟨i + 1, by omega, by simp, qz.trans (q2.mono qz.size), ⟨fun j l' h hj => ?_⟩⟩
            by_cases e : j = i
            · subst e
              rw [Khl.out] at hj
              cases hj
              exact Kg.out.1 rfl
            · exact KJ.out j l' (by omega) hj
        | false =>
          have KE : Kept (f = false) := ⟨by
            cases hff : f with
            | false => rfl
            | true =>
              have := Kg.out.2 (Kf.out.1 hff l (List.mem_of_getElem? Khl.out))
              cases this⟩
          go_wp2_with (first | ((with_reducible refine wv_val (d := 65) ?hd ?hw (.pointer (some (A.add i))) ?hr ?_); (case hd => rfl); (case hw => kernel_rfl); (case hr => intro w; exact run_idxS (c := cV) rfl (by kernel_rfl) (by kernel_rfl) Tryd.underlying29 hin Tryd.sizeOf9 w); simp only [Act.put, List.setIfInBounds_toArray, List.set_cons_succ, List.set_cons_zero]) | ((with_reducible refine wv_elem (d := 66) ?hd ?hw 9 ag_str (.tmp 65) ?ho (A.add i) ?hx (.string (strOf l)) ?hc ?_); (case hd => rfl); (case hw => kernel_rfl); (case ho => rfl); (case hx => kernel_rfl); (case hc => exact KC.out); simp only [Act.put, List.setIfInBounds_toArray, List.set_cons_succ, List.set_cons_zero]))
          refine (KKn.out false l Kly.out Kll.out Kg.out _ qz).mono ?_
          rintro e w2 ⟨rfl, q2⟩
          go_wp2_with fail
          go_ret
          exact ⟨by rw [KE.out]; rfl, qz.trans (q2.mono qz.size)⟩
  · -- a box
    replace hkk : k = 5 := hkk
    obtain ⟨x, nn, a, z, rfl⟩ := hbox hkk
    obtain ⟨g1, hg1⟩ := ex_bool (KnownS ts (hadP b) x)
    have Kg1 : Kept (Tells g1 (KnownS ts (hadP b) x)) := ⟨hg1⟩
    obtain ⟨g2, hg2⟩ := ex_bool (KnownS ts (hadP b) a)
    have Kg2 : Kept (Tells g2 (KnownS ts (hadP b) a)) := ⟨hg2⟩
    obtain ⟨g3, hg3⟩ := ex_bool (KnownS ts (hadP b) z)
    have Kg3 : Kept (Tells g3 (KnownS ts (hadP b) z)) := ⟨hg3⟩
    have hfb : f = (g1 && (g2 && g3)) := Bool.eq_iff_iff.2 (by rw [hf, hkk, makes_box, ← hg1, ← hg2, ← hg3]; simp)
    clear hg1 hg2 hg3 hf
    obtain ⟨m2, hm2⟩ : ∃ m, m = 4 := ⟨_, rfl⟩
    obtain ⟨pV, cV, rfl, _⟩ := vals_form hV (show (strs [x, nn, a, z]).length = m2 by rw [hm2]; rfl)
    obtain ⟨A2, rfl, hA2, _⟩ := vals_at hV (show (strs [x, nn, a, z])[0]? = some (.string (strOf x)) from rfl)
    have c1 : Kept ((w.alloc (.cells #[.int .u8 (k : Int), .slice (some A2) m2 cV] 41)).cell? ⟨w.heap.size, 1, none⟩ = some (.slice (some A2) m2 cV)) := ⟨(blk_new w 41 _).cell rfl⟩
    have c0 : Kept ((w.alloc (.cells #[.int .u8 (k : Int), .slice (some A2) m2 cV] 41)).cell? ⟨w.heap.size, 0, none⟩ = some (.int .u8 (k : Int))) := ⟨(blk_new w 41 _).cell rfl⟩
    have qz : Below w.heap.size w (w.alloc (.cells #[.int .u8 (k : Int), .slice (some A2) m2 cV] 41)) := (Below.refl _ _).alloc (Nat.le_refl _) _
    have hl0 : 0 < m2 := by rw [hm2]; decide
    have KCu0 : Kept (∀ w1, Below w.heap.size w w1 → w1.cell? (A2.add 0) = some (.string (strOf x))) := ⟨fun w1 q => (q.cell (by rw [add_block]; exact hA2)).trans (vals_cell hV (show (strs [x, nn, a, z])[0]? = some (.string (strOf x)) from rfl))⟩
    have Kxy : Kept (Bytes x) := ⟨hF.1 x (by simp)⟩
    have Kxl : Kept (x.length ≤ 40000) := ⟨Nat.le_trans (hC.2.1 x (by simp)) (by decide)⟩
    have hl2 : 2 < m2 := by rw [hm2]; decide
    have KCu2 : Kept (∀ w1, Below w.heap.size w w1 → w1.cell? (A2.add 2) = some (.string (strOf a))) := ⟨fun w1 q => (q.cell (by rw [add_block]; exact hA2)).trans (vals_cell hV (show (strs [x, nn, a, z])[2]? = some (.string (strOf a)) from rfl))⟩
    have Kay : Kept (Bytes a) := ⟨hF.1 a (by simp)⟩
    have Kal : Kept (a.length ≤ 40000) := ⟨Nat.le_trans (hC.2.1 a (by simp)) (by decide)⟩
    have hl3 : 3 < m2 := by rw [hm2]; decide
    have KCu3 : Kept (∀ w1, Below w.heap.size w w1 → w1.cell? (A2.add 3) = some (.string (strOf z))) := ⟨fun w1 q => (q.cell (by rw [add_block]; exact hA2)).trans (vals_cell hV (show (strs [x, nn, a, z])[3]? = some (.string (strOf z)) from rfl))⟩
    have Kzy : Kept (Bytes z) := ⟨hF.1 z (by simp)⟩
    have Kzl : Kept (z.length ≤ 40000) := ⟨Nat.le_trans (hC.2.1 z (by simp)) (by decide)⟩
    clear hF hC hV hm2 hA2 hbox
    cases g1 with
    | false =>
     have KE : Kept (f = false) := ⟨by rw [hfb]; simp⟩
     clear hfb
     have B2 : Kept (false = decide (k = 2)) := ⟨by rw [hkk]; rfl⟩
     have B3 : Kept (false = decide (k = 3)) := ⟨by rw [hkk]; rfl⟩
     have B4 : Kept (false = decide (k = 4)) := ⟨by rw [hkk]; rfl⟩
     have B5 : Kept (true = decide (k = 5)) := ⟨by rw [hkk]; rfl⟩
     clear hkk
     go_enter Tryd.func35, Tryd.ntmps35
     go_wp2_with (first | ((with_reducible refine wv_elem (d := 10) ?hd ?hw 29 ag_strs (.tmp 9) ?ho (⟨w.heap.size, 1, none⟩) ?hx (.slice (some A2) m2 cV) ?hc ?_); (case hd => rfl); (case hw => kernel_rfl); (case ho => rfl); (case hx => kernel_rfl); (case hc => exact c1.out); simp only [Act.put, List.setIfInBounds_toArray, List.set_cons_succ, List.set_cons_zero]) | ((with_reducible refine wv_elem (d := 12) ?hd ?hw 5 Tryd.isAgg5 (.tmp 11) ?ho (⟨w.heap.size, 0, none⟩) ?hx (.int .u8 (k : Int)) ?hc ?_); (case hd => rfl); (case hw => kernel_rfl); (case ho => rfl); (case hx => kernel_rfl); (case hc => exact c0.out); simp only [Act.put, List.setIfInBounds_toArray, List.set_cons_succ, List.set_cons_zero]) | ((with_reducible refine wv_val (d := 14) ?hd ?hw (.bool false) ?hr ?_); (case hd => rfl); (case hw => kernel_rfl); (case hr => intro w; exact run_eqU8 2 rfl (by kernel_rfl) B2.out w); simp only [Act.put, List.setIfInBounds_toArray, List.set_cons_succ, List.set_cons_zero]) | ((with_reducible refine wv_val (d := 22) ?hd ?hw (.bool false) ?hr ?_); (case hd => rfl); (case hw => kernel_rfl); (case hr => intro w; exact run_eqU8 3 rfl (by kernel_rfl) B3.out w); simp only [Act.put, List.setIfInBounds_toArray, List.set_cons_succ, List.set_cons_zero]) | ((with_reducible refine wv_val (d := 54) ?hd ?hw (.bool false) ?hr ?_); (case hd => rfl); (case hw => kernel_rfl); (case hr => intro w; exact run_eqU8 4 rfl (by kernel_rfl) B4.out w); simp only [Act.put, List.setIfInBounds_toArray, List.set_cons_succ, List.set_cons_zero]) | ((with_reducible refine wv_val (d := 70) ?hd ?hw (.bool true) ?hr ?_); (case hd => rfl); (case hw => kernel_rfl); (case hr => intro w; exact run_eqU8 5 rfl (by kernel_rfl) B5.out w); simp only [Act.put, List.setIfInBounds_toArray, List.set_cons_succ, List.set_cons_zero]) | ((with_reducible refine wv_val (d := 74) ?hd ?hw (.pointer (some (A2.add 0))) ?hr ?_); (case hd => rfl); (case hw => kernel_rfl); (case hr => intro w; exact run_idxS (i := 0) (l := m2) (c := cV) rfl (by kernel_rfl) rfl Tryd.underlying29 hl0 Tryd.sizeOf9 w); simp only [Act.put, List.setIfInBounds_toArray, List.set_cons_succ, List.set_cons_zero]) | ((with_reducible refine wv_elem (d := 75) ?hd ?hw 9 ag_str (.tmp 74) ?ho (A2.add 0) ?hx (.string (strOf x)) ?hc ?_); (case hd => rfl); (case hw => kernel_rfl); (case ho => rfl); (case hx => kernel_rfl); (case hc => exact (KCu0.out _ qz)); simp only [Act.put, List.setIfInBounds_toArray, List.set_cons_succ, List.set_cons_zero]))
     refine (KKn.out false x Kxy.out Kxl.out Kg1.out _ qz).mono ?_
     rintro e w2 ⟨rfl, q2⟩
     replace qz := qz.trans (q2.mono qz.size)
     clear q2
     go_wp2_with fail
     go_ret
     exact ⟨by rw [KE.out]; rfl, qz⟩
    | true =>
     cases g2 with
     | false =>
      have KE : Kept (f = false) := ⟨by rw [hfb]; simp⟩
      clear hfb
      have B2 : Kept (false = decide (k = 2)) := ⟨by rw [hkk]; rfl⟩
      have B3 : Kept (false = decide (k = 3)) := ⟨by rw [hkk]; rfl⟩
      have B4 : Kept (false = decide (k = 4)) := ⟨by rw [hkk]; rfl⟩
      have B5 : Kept (true = decide (k = 5)) := ⟨by rw [hkk]; rfl⟩
      clear hkk
      go_enter Tryd.func35, Tryd.ntmps35
      go_wp2_with (first | ((with_reducible refine wv_elem (d := 10) ?hd ?hw 29 ag_strs (.tmp 9) ?ho (⟨w.heap.size, 1, none⟩) ?hx (.slice (some A2) m2 cV) ?hc ?_); (case hd => rfl); (case hw => kernel_rfl); (case ho => rfl); (case hx => kernel_rfl); (case hc => exact c1.out); simp only [Act.put, List.setIfInBounds_toArray, List.set_cons_succ, List.set_cons_zero]) | ((with_reducible refine wv_elem (d := 12) ?hd ?hw 5 Tryd.isAgg5 (.tmp 11) ?ho (⟨w.heap.size, 0, none⟩) ?hx (.int .u8 (k : Int)) ?hc ?_); (case hd => rfl); (case hw => kernel_rfl); (case ho => rfl); (case hx => kernel_rfl); (case hc => exact c0.out); simp only [Act.put, List.setIfInBounds_toArray, List.set_cons_succ, List.set_cons_zero]) | ((with_reducible refine wv_val (d := 14) ?hd ?hw (.bool false) ?hr ?_); (case hd => rfl); (case hw => kernel_rfl); (case hr => intro w; exact run_eqU8 2 rfl (by kernel_rfl) B2.out w); simp only [Act.put, List.setIfInBounds_toArray, List.set_cons_succ, List.set_cons_zero]) | ((with_reducible refine wv_val (d := 22) ?hd ?hw (.bool false) ?hr ?_); (case hd => rfl); (case hw => kernel_rfl); (case hr => intro w; exact run_eqU8 3 rfl (by kernel_rfl) B3.out w); simp only [Act.put, List.setIfInBounds_toArray, List.set_cons_succ, List.set_cons_zero]) | ((with_reducible refine wv_val (d := 54) ?hd ?hw (.bool false) ?hr ?_); (case hd => rfl); (case hw => kernel_rfl); (case hr => intro w; exact run_eqU8 4 rfl (by kernel_rfl) B4.out w); simp only [Act.put, List.setIfInBounds_toArray, List.set_cons_succ, List.set_cons_zero]) | ((with_reducible refine wv_val (d := 70) ?hd ?hw (.bool true) ?hr ?_); (case hd => rfl); (case hw => kernel_rfl); (case hr => intro w; exact run_eqU8 5 rfl (by kernel_rfl) B5.out w); simp only [Act.put, List.setIfInBounds_toArray, List.set_cons_succ, List.set_cons_zero]) | ((with_reducible refine wv_val (d := 74) ?hd ?hw (.pointer (some (A2.add 0))) ?hr ?_); (case hd => rfl); (case hw => kernel_rfl); (case hr => intro w; exact run_idxS (i := 0) (l := m2) (c := cV) rfl (by kernel_rfl) rfl Tryd.underlying29 hl0 Tryd.sizeOf9 w); simp only [Act.put, List.setIfInBounds_toArray, List.set_cons_succ, List.set_cons_zero]) | ((with_reducible refine wv_elem (d := 75) ?hd ?hw 9 ag_str (.tmp 74) ?ho (A2.add 0) ?hx (.string (strOf x)) ?hc ?_); (case hd => rfl); (case hw => kernel_rfl); (case ho => rfl); (case hx => kernel_rfl); (case hc => exact (KCu0.out _ qz)); simp only [Act.put, List.setIfInBounds_toArray, List.set_cons_succ, List.set_cons_zero]))
      refine (KKn.out true x Kxy.out Kxl.out Kg1.out _ qz).mono ?_
      rintro e w2 ⟨rfl, q2⟩
      replace qz := qz.trans (q2.mono qz.size)
      clear q2
      go_wp2_with (first | ((with_reducible refine wv_val (d := 81) ?hd ?hw (.pointer (some (A2.add 2))) ?hr ?_); (case hd => rfl); (case hw => kernel_rfl); (case hr => intro w; exact run_idxS (i := 2) (l := m2) (c := cV) rfl (by kernel_rfl) rfl Tryd.underlying29 hl2 Tryd.sizeOf9 w); simp only [Act.put, List.setIfInBounds_toArray, List.set_cons_succ, List.set_cons_zero]) | ((with_reducible refine wv_elem (d := 82) ?hd ?hw 9 ag_str (.tmp 81) ?ho (A2.add 2) ?hx (.string (strOf a)) ?hc ?_); (case hd => rfl); (case hw => kernel_rfl); (case ho => rfl); (case hx => kernel_rfl); (case hc => exact (KCu2.out _ qz)); simp only [Act.put, List.setIfInBounds_toArray, List.set_cons_succ, List.set_cons_zero]))
      refine (KKn.out false a Kay.out Kal.out Kg2.out _ qz).mono ?_
      rintro e w2 ⟨rfl, q2⟩
      replace qz := qz.trans (q2.mono qz.size)
      clear q2
      go_wp2_with fail
      go_ret
      exact ⟨by rw [KE.out]; rfl, qz⟩
     | true =>
      have KE : Kept (f = g3) := ⟨by rw [hfb]; simp⟩
      clear hfb
      have B2 : Kept (false = decide (k = 2)) := ⟨by rw [hkk]; rfl⟩
      have B3 : Kept (false = decide (k = 3)) := ⟨by rw [hkk]; rfl⟩
      have B4 : Kept (false = decide (k = 4)) := ⟨by rw [hkk]; rfl⟩
      have B5 : Kept (true = decide (k = 5)) := ⟨by rw [hkk]; rfl⟩
      clear hkk
      go_enter Tryd.func35, Tryd.ntmps35
      go_wp2_with (first | ((with_reducible refine wv_elem (d := 10) ?hd ?hw 29 ag_strs (.tmp 9) ?ho (⟨w.heap.size, 1, none⟩) ?hx (.slice (some A2) m2 cV) ?hc ?_); (case hd => rfl); (case hw => kernel_rfl); (case ho => rfl); (case hx => kernel_rfl); (case hc => exact c1.out); simp only [Act.put, List.setIfInBounds_toArray, List.set_cons_succ, List.set_cons_zero]) | ((with_reducible refine wv_elem (d := 12) ?hd ?hw 5 Tryd.isAgg5 (.tmp 11) ?ho (⟨w.heap.size, 0, none⟩) ?hx (.int .u8 (k : Int)) ?hc ?_); (case hd => rfl); (case hw => kernel_rfl); (case ho => rfl); (case hx => kernel_rfl); (case hc => exact c0.out); simp only [Act.put, List.setIfInBounds_toArray, List.set_cons_succ, List.set_cons_zero]) | ((with_reducible refine wv_val (d := 14) ?hd ?hw (.bool false) ?hr ?_); (case hd => rfl); (case hw => kernel_rfl); (case hr => intro w; exact run_eqU8 2 rfl (by kernel_rfl) B2.out w); simp only [Act.put, List.setIfInBounds_toArray, List.set_cons_succ, List.set_cons_zero]) | ((with_reducible refine wv_val (d := 22) ?hd ?hw (.bool false) ?hr ?_); (case hd => rfl); (case hw => kernel_rfl); (case hr => intro w; exact run_eqU8 3 rfl (by kernel_rfl) B3.out w); simp only [Act.put, List.setIfInBounds_toArray, List.set_cons_succ, List.set_cons_zero]) | ((with_reducible refine wv_val (d := 54) ?hd ?hw (.bool false) ?hr ?_); (case hd => rfl); (case hw => kernel_rfl); (case hr => intro w; exact run_eqU8 4 rfl (by kernel_rfl) B4.out w); simp only [Act.put, List.setIfInBounds_toArray, List.set_cons_succ, List.set_cons_zero]) | ((with_reducible refine wv_val (d := 70) ?hd ?hw (.bool true) ?hr ?_); (case hd => rfl); (case hw => kernel_rfl); (case hr => intro w; exact run_eqU8 5 rfl (by kernel_rfl) B5.out w); simp only [Act.put, List.setIfInBounds_toArray, List.set_cons_succ, List.set_cons_zero]) | ((with_reducible refine wv_val (d := 74) ?hd ?hw (.pointer (some (A2.add 0))) ?hr ?_); (case hd => rfl); (case hw => kernel_rfl); (case hr => intro w; exact run_idxS (i := 0) (l := m2) (c := cV) rfl (by kernel_rfl) rfl Tryd.underlying29 hl0 Tryd.sizeOf9 w); simp only [Act.put, List.setIfInBounds_toArray, List.set_cons_succ, List.set_cons_zero]) | ((with_reducible refine wv_elem (d := 75) ?hd ?hw 9 ag_str (.tmp 74) ?ho (A2.add 0) ?hx (.string (strOf x)) ?hc ?_); (case hd => rfl); (case hw => kernel_rfl); (case ho => rfl); (case hx => kernel_rfl); (case hc => exact (KCu0.out _ qz)); simp only [Act.put, List.setIfInBounds_toArray, List.set_cons_succ, List.set_cons_zero]))
      refine (KKn.out true x Kxy.out Kxl.out Kg1.out _ qz).mono ?_
      rintro e w2 ⟨rfl, q2⟩
      replace qz := qz.trans (q2.mono qz.size)
      clear q2
      go_wp2_with (first | ((with_reducible refine wv_val (d := 81) ?hd ?hw (.pointer (some (A2.add 2))) ?hr ?_); (case hd => rfl); (case hw => kernel_rfl); (case hr => intro w; exact run_idxS (i := 2) (l := m2) (c := cV) rfl (by kernel_rfl) rfl Tryd.underlying29 hl2 Tryd.sizeOf9 w); simp only [Act.put, List.setIfInBounds_toArray, List.set_cons_succ, List.set_cons_zero]) | ((with_reducible refine wv_elem (d := 82) ?hd ?hw 9 ag_str (.tmp 81) ?ho (A2.add 2) ?hx (.string (strOf a)) ?hc ?_); (case hd => rfl); (case hw => kernel_rfl); (case ho => rfl); (case hx => kernel_rfl); (case hc => exact (KCu2.out _ qz)); simp only [Act.put, List.setIfInBounds_toArray, List.set_cons_succ, List.set_cons_zero]))
      refine (KKn.out true a Kay.out Kal.out Kg2.out _ qz).mono ?_
      rintro e w2 ⟨rfl, q2⟩
      replace qz := qz.trans (q2.mono qz.size)
      clear q2
      go_wp2_with (first | ((with_reducible refine wv_val (d := 89) ?hd ?hw (.pointer (some (A2.add 3))) ?hr ?_); (case hd => rfl); (case hw => kernel_rfl); (case hr => intro w; exact run_idxS (i := 3) (l := m2) (c := cV) rfl (by kernel_rfl) rfl Tryd.underlying29 hl3 Tryd.sizeOf9 w); simp only [Act.put, List.setIfInBounds_toArray, List.set_cons_succ, List.set_cons_zero]) | ((with_reducible refine wv_elem (d := 90) ?hd ?hw 9 ag_str (.tmp 89) ?ho (A2.add 3) ?hx (.string (strOf z)) ?hc ?_); (case hd => rfl); (case hw => kernel_rfl); (case ho => rfl); (case hx => kernel_rfl); (case hc => exact (KCu3.out _ qz)); simp only [Act.put, List.setIfInBounds_toArray, List.set_cons_succ, List.set_cons_zero]))
      refine (KKn.out g3 z Kzy.out Kzl.out Kg3.out _ qz).mono ?_
      rintro e w2 ⟨rfl, q2⟩
      replace qz := qz.trans (q2.mono qz.size)
      clear q2
      go_wp2_with fail
      go_ret
      exact ⟨by rw [KE.out]; rfl, qz⟩
end Go.Proofs.YtniogaimhkcedaaDoor.sh
