/-
  (*rules).addDh, (*rules).addSealed, walked.
-/
import Derived.Test.YtniogaimhkcedaaDoorKO
namespace Go.Proofs.YtniogaimhkcedaaDoor.sh
open Go Go.RowKit Go.Maps
set_option linter.unusedVariables false
set_option linter.unusedSimpArgs false

set_option maxRecDepth 100000 in
set_option maxHeartbeats 8000000 in
theorem addDhD {ts : List TermL} {rb B mb pb k i : Nat} {Φ : (Nat → Prop) → Prop} {M0 M : Nat → Prop} {w0 w : World} {x y : List Nat} (hT : Terms ts) (hts : ts.length < 1000000) (hG : Reg ts rb B mb pb k Φ M0 w0 M w) (hk : k + 3 ≤ 900000) (hx : Bytes x) (hy : Bytes y) (hxl : x.length ≤ 40000) (hyl : y.length ≤ 40000) (hi : i < ts.length) :
    Calls Tryd.prog 53 #[.pointer (some ⟨rb, 0, none⟩), .string (strOf x), .string (strOf y), .int .i64 (i : Int), .map (some mb), .map (some pb)] w fun e w' => e = .returned (.tuple #[]) ∧ ∃ M', Reg ts rb B mb pb (k + 3) (fun H => Φ H ∧ (MakesK ts H (3, [x, y]) → H i)) M0 w0 M' w' := by
  have b1 : Below w.heap.size w (w.alloc (.cells #[.string (strOf x), .string (strOf y)] 9)) := (Below.refl _ _).alloc (Nat.le_refl _) _
  have KW0 : Kept _ := ⟨withinD hts (ll := [x, y]) (weight_two hxl hyl) (fun l hl => by simp at hl; rcases hl with rfl | rfl <;> assumption) (new2 x y w) (hG.under b1).pl⟩
  have KG : Kept _ := ⟨hG⟩
  have Kb1 : Kept _ := ⟨b1⟩
  have Kts : Kept _ := ⟨hts⟩
  have Kx : Kept _ := ⟨hx⟩
  have Ky : Kept _ := ⟨hy⟩
  have Kxl : Kept _ := ⟨hxl⟩
  have Kyl : Kept _ := ⟨hyl⟩
  have Kxm : Kept (x.length ≤ maxLen) := ⟨by unfold maxLen; omega⟩
  have Kym : Kept (y.length ≤ maxLen) := ⟨by unfold maxLen; omega⟩
  have Ki : Kept _ := ⟨hi⟩
  have Kt : Kept _ := ⟨hT⟩
  have Kk0 : Kept (k ≤ 900000) := ⟨by omega⟩
  have Kk1 : Kept (k + 1 ≤ 900000) := ⟨by omega⟩
  have Kk2 : Kept (k + 1 + 1 ≤ 900000) := ⟨by omega⟩
  clear b1
  cases hly : (pubR ts ts.length).lookup y with
  | none =>
   cases hlx : (pubR ts ts.length).lookup x with
   | none =>
    have Kly : Kept _ := ⟨pub_hasnt hT hy hly⟩
    have Klx : Kept _ := ⟨pub_hasnt hT hx hlx⟩
    have Kjly : Kept _ := ⟨hly⟩
    have Kjlx : Kept _ := ⟨hlx⟩
    clear hly hlx hT hx hy hG hts hxl hyl hi hk
    go_enter Tryd.func53, Tryd.ntmps53
    go_wp2_with (first | (refine wl_bs2 (by kernel_rfl) (.tmp 18) (.tmp 19) rfl (x) (y) (by kernel_rfl) (by kernel_rfl) ?_; simp only [Act.put, List.setIfInBounds_toArray, List.set_cons_succ, List.set_cons_zero]))
    refine KW0.out.mono ?_
    rintro e w2 ⟨⟨V2, ns, rfl, hr, hm, hl⟩, q2⟩
    obtain ⟨m2, hm2⟩ : ∃ m, m = ns.length := ⟨_, rfl⟩
    obtain ⟨p2, c2, rfl, _⟩ := ints_form (row_cells hr) hm2.symm
    have hl' : ns.length ≤ 1000000 := by have := Kxl.out; have := Kyl.out; rw [weight_cons, weight_cons, weight_nil] at hl; omega
    have KA : Kept _ := ⟨KG.out.addW Kts.out Kk0.out Kb1.out q2 hr (todo_lt hm) Ki.out hl'⟩
    have Kmm : Kept _ := ⟨hm⟩
    clear hr hm hl hl' q2 hm2
    go_wp2_with (first | (refine wl_bsI rfl (.tmp 22) rfl i (by kernel_rfl) ?_; simp only [Act.put, List.setIfInBounds_toArray, List.set_cons_succ, List.set_cons_zero]))
    refine KA.out.mono ?_
    rintro e w4 ⟨rfl, M4, hG4⟩
    have KG4 : Kept (Reg ts rb B mb pb (k + 1) (fun H => Φ H ∧ (KnownS ts H x ∧ KnownS ts H y → H i)) M0 w0 M4 w4) := ⟨hG4.mono (Nat.le_refl _) (fun H => by rw [with_known Kmm.out H]; simp)⟩
    clear hG4
    go_wp2_with (first | (at_lookup; refine wl_lookI rfl (.tmp 26) (.tmp 27) rfl pb _ _ (by kernel_rfl) KG4.out.pu y (by kernel_rfl) Kym.out 0 false Kly.out.1 Kly.out.2 ?_; simp only [Act.put, List.setIfInBounds_toArray, List.set_cons_succ, List.set_cons_zero]) | (at_lookup; refine wl_lookI rfl (.tmp 44) (.tmp 45) rfl pb _ _ (by kernel_rfl) KG4.out.pu x (by kernel_rfl) Kxm.out 0 false Klx.out.1 Klx.out.2 ?_; simp only [Act.put, List.setIfInBounds_toArray, List.set_cons_succ, List.set_cons_zero]))
    refine ⟨rfl, .tuple #[], (by simp [results, Tryd.results53, go_sem]), ?_⟩
    exact ⟨rfl, _, KG4.out.mono (by omega) fun H => by
      rw [dh_rule Kt.out]
      simp only [Kjly.out, Kjlx.out]
      simp [and_assoc]⟩
   | some jx =>
    have Kly : Kept _ := ⟨pub_hasnt hT hy hly⟩
    have Klx : Kept _ := ⟨pub_has hT hx hlx⟩
    have Kjx : Kept _ := ⟨pubR_some _ _ _ hlx⟩
    have Kjly : Kept _ := ⟨hly⟩
    have Kjlx : Kept _ := ⟨hlx⟩
    clear hly hlx hT hx hy hG hts hxl hyl hi hk
    go_enter Tryd.func53, Tryd.ntmps53
    go_wp2_with (first | (refine wl_bs2 (by kernel_rfl) (.tmp 18) (.tmp 19) rfl (x) (y) (by kernel_rfl) (by kernel_rfl) ?_; simp only [Act.put, List.setIfInBounds_toArray, List.set_cons_succ, List.set_cons_zero]))
    refine KW0.out.mono ?_
    rintro e w2 ⟨⟨V2, ns, rfl, hr, hm, hl⟩, q2⟩
    obtain ⟨m2, hm2⟩ : ∃ m, m = ns.length := ⟨_, rfl⟩
    obtain ⟨p2, c2, rfl, _⟩ := ints_form (row_cells hr) hm2.symm
    have hl' : ns.length ≤ 1000000 := by have := Kxl.out; have := Kyl.out; rw [weight_cons, weight_cons, weight_nil] at hl; omega
    have KA : Kept _ := ⟨KG.out.addW Kts.out Kk0.out Kb1.out q2 hr (todo_lt hm) Ki.out hl'⟩
    have Kmm : Kept _ := ⟨hm⟩
    clear hr hm hl hl' q2 hm2
    go_wp2_with (first | (refine wl_bsI rfl (.tmp 22) rfl i (by kernel_rfl) ?_; simp only [Act.put, List.setIfInBounds_toArray, List.set_cons_succ, List.set_cons_zero]))
    refine KA.out.mono ?_
    rintro e w4 ⟨rfl, M4, hG4⟩
    have KG4 : Kept (Reg ts rb B mb pb (k + 1) (fun H => Φ H ∧ (KnownS ts H x ∧ KnownS ts H y → H i)) M0 w0 M4 w4) := ⟨hG4.mono (Nat.le_refl _) (fun H => by rw [with_known Kmm.out H]; simp)⟩
    clear hG4
    have bb : Below w4.heap.size w4 (w4.alloc (.cells #[.string (strOf y)] 9)) := (Below.refl _ _).alloc (Nat.le_refl _) _
    have KWb : Kept _ := ⟨withinD Kts.out (ll := [y]) (weight_one Kyl.out) (fun l hl => by rw [List.mem_singleton] at hl; subst hl; exact Ky.out) (new1 y w4) (KG4.out.under bb).pl⟩
    go_wp2_with (first | (at_lookup; refine wl_lookI rfl (.tmp 26) (.tmp 27) rfl pb _ _ (by kernel_rfl) KG4.out.pu y (by kernel_rfl) Kym.out 0 false Kly.out.1 Kly.out.2 ?_; simp only [Act.put, List.setIfInBounds_toArray, List.set_cons_succ, List.set_cons_zero]) | (at_lookup; refine wl_lookI rfl (.tmp 44) (.tmp 45) rfl pb _ _ (by kernel_rfl) KG4.out.pu x (by kernel_rfl) Kxm.out jx true Klx.out.1 Klx.out.2 ?_; simp only [Act.put, List.setIfInBounds_toArray, List.set_cons_succ, List.set_cons_zero]) | (refine wl_bs1 (by kernel_rfl) (.tmp 52) rfl (y) (by kernel_rfl) ?_; simp only [Act.put, List.setIfInBounds_toArray, List.set_cons_succ, List.set_cons_zero]))
    refine KWb.out.mono ?_
    rintro e wab ⟨⟨Vab, nab, rfl, hrb, hmb, hlb⟩, qab⟩
    obtain ⟨mab, hmab⟩ : ∃ m, m = nab.length := ⟨_, rfl⟩
    obtain ⟨pab, cab, rfl, _⟩ := ints_form (row_cells hrb) hmab.symm
    have bjb : Below wab.heap.size wab (wab.alloc (.cells #[.int .i64 (jx : Int)] 3)) := (Below.refl _ _).alloc (Nat.le_refl _) _
    have Krb : Kept _ := ⟨hrb.under bjb⟩
    have K1b : Kept _ := ⟨one_int jx wab⟩
    have Khb : Kept _ := ⟨hrb⟩
    have Kqb : Kept _ := ⟨qab⟩
    have Kmb : Kept _ := ⟨hmb⟩
    have Kwb : Kept (nab.length ≤ 40001) := ⟨by have := Kyl.out; rw [weight_cons, weight_nil] at hlb; omega⟩
    have Kapb : Kept (nab.length + [jx].length ≤ 8796093022208) := ⟨by have := Kwb.out; simp; omega⟩
    have Klb : Kept ((nab ++ [jx]).length = mab + 1) := ⟨by rw [List.length_append, ← hmab]; rfl⟩
    have KBb : Kept ((w4.alloc (.cells #[.string (strOf y)] 9)).heap.size ≤ (wab.alloc (.cells #[.int .i64 (jx : Int)] 3)).heap.size) := ⟨by rw [alloc_size wab]; have := qab.size; omega⟩
    clear hrb qab bjb hmb hlb hmab
    go_wp2_with (first | (refine wl_bsI rfl (.tmp 55) rfl jx (by kernel_rfl) ?_; simp only [Act.put, List.setIfInBounds_toArray, List.set_cons_succ, List.set_cons_zero]) | ((refine wl_app (by kernel_rfl) (.tmp 54) (.tmp 56) 65 3 .i64 8 rfl Tryd.underlying65 inf_int (by decide) _ nab [jx] _ _ (by kernel_rfl) (by kernel_rfl) Krb.out K1b.out Kapb.out KBb.out ?_); intro vb wbb hrb' hgb' hneb'; obtain ⟨ppb, ccb, rfl, _⟩ := row_slice hrb' Klb.out; simp only [Act.put, List.setIfInBounds_toArray, List.set_cons_succ, List.set_cons_zero]) | (refine wl_bsI rfl (.tmp 58) rfl i (by kernel_rfl) ?_; simp only [Act.put, List.setIfInBounds_toArray, List.set_cons_succ, List.set_cons_zero]))
    refine (KG4.out.addW Kts.out Kk1.out bb (app_row Kqb.out Khb.out hgb') hrb' (fun z hz => by
      rcases List.mem_append.1 hz with hz | hz
      · exact todo_lt Kmb.out z hz
      · rw [List.mem_singleton] at hz; rw [hz]; exact Kjx.out.2) Ki.out (by rw [List.length_append]; have := Kwb.out; simp; omega)).mono ?_
    rintro e wdb ⟨rfl, Mdb, hGb⟩
    have KGb : Kept (Reg ts rb B mb pb _ (fun H => _ ∧ (KnownS ts H y ∧ H jx → H i)) M0 w0 Mdb wdb) := ⟨hGb.mono (Nat.le_refl _) (fun H => by
      have := with_known Kmb.out H
      simp only [List.mem_append, List.mem_singleton, or_imp, forall_and, forall_eq] at this ⊢
      rw [this])⟩
    clear hGb hrb' hgb' hneb' bb
    go_wp2_with fail
    refine ⟨rfl, .tuple #[], (by simp [results, Tryd.results53, go_sem]), ?_⟩
    exact ⟨rfl, _, KGb.out.mono (by omega) fun H => by
      rw [dh_rule Kt.out]
      simp only [Kjly.out, Kjlx.out]
      simp [and_assoc]⟩
  | some jy =>
   cases hlx : (pubR ts ts.length).lookup x with
   | none =>
    have Kly : Kept _ := ⟨pub_has hT hy hly⟩
    have Kjy : Kept _ := ⟨pubR_some _ _ _ hly⟩
    have Klx : Kept _ := ⟨pub_hasnt hT hx hlx⟩
    have Kjly : Kept _ := ⟨hly⟩
    have Kjlx : Kept _ := ⟨hlx⟩
    clear hly hlx hT hx hy hG hts hxl hyl hi hk
    go_enter Tryd.func53, Tryd.ntmps53
    go_wp2_with (first | (refine wl_bs2 (by kernel_rfl) (.tmp 18) (.tmp 19) rfl (x) (y) (by kernel_rfl) (by kernel_rfl) ?_; simp only [Act.put, List.setIfInBounds_toArray, List.set_cons_succ, List.set_cons_zero]))
    refine KW0.out.mono ?_
    rintro e w2 ⟨⟨V2, ns, rfl, hr, hm, hl⟩, q2⟩
    obtain ⟨m2, hm2⟩ : ∃ m, m = ns.length := ⟨_, rfl⟩
    obtain ⟨p2, c2, rfl, _⟩ := ints_form (row_cells hr) hm2.symm
    have hl' : ns.length ≤ 1000000 := by have := Kxl.out; have := Kyl.out; rw [weight_cons, weight_cons, weight_nil] at hl; omega
    have KA : Kept _ := ⟨KG.out.addW Kts.out Kk0.out Kb1.out q2 hr (todo_lt hm) Ki.out hl'⟩
    have Kmm : Kept _ := ⟨hm⟩
    clear hr hm hl hl' q2 hm2
    go_wp2_with (first | (refine wl_bsI rfl (.tmp 22) rfl i (by kernel_rfl) ?_; simp only [Act.put, List.setIfInBounds_toArray, List.set_cons_succ, List.set_cons_zero]))
    refine KA.out.mono ?_
    rintro e w4 ⟨rfl, M4, hG4⟩
    have KG4 : Kept (Reg ts rb B mb pb (k + 1) (fun H => Φ H ∧ (KnownS ts H x ∧ KnownS ts H y → H i)) M0 w0 M4 w4) := ⟨hG4.mono (Nat.le_refl _) (fun H => by rw [with_known Kmm.out H]; simp)⟩
    clear hG4
    have ba : Below w4.heap.size w4 (w4.alloc (.cells #[.string (strOf x)] 9)) := (Below.refl _ _).alloc (Nat.le_refl _) _
    have KWa : Kept _ := ⟨withinD Kts.out (ll := [x]) (weight_one Kxl.out) (fun l hl => by rw [List.mem_singleton] at hl; subst hl; exact Kx.out) (new1 x w4) (KG4.out.under ba).pl⟩
    go_wp2_with (first | (at_lookup; refine wl_lookI rfl (.tmp 26) (.tmp 27) rfl pb _ _ (by kernel_rfl) KG4.out.pu y (by kernel_rfl) Kym.out jy true Kly.out.1 Kly.out.2 ?_; simp only [Act.put, List.setIfInBounds_toArray, List.set_cons_succ, List.set_cons_zero]) | (refine wl_bs1 (by kernel_rfl) (.tmp 34) rfl (x) (by kernel_rfl) ?_; simp only [Act.put, List.setIfInBounds_toArray, List.set_cons_succ, List.set_cons_zero]))
    refine KWa.out.mono ?_
    rintro e waa ⟨⟨Vaa, naa, rfl, hra, hma, hla⟩, qaa⟩
    obtain ⟨maa, hmaa⟩ : ∃ m, m = naa.length := ⟨_, rfl⟩
    obtain ⟨paa, caa, rfl, _⟩ := ints_form (row_cells hra) hmaa.symm
    have bja : Below waa.heap.size waa (waa.alloc (.cells #[.int .i64 (jy : Int)] 3)) := (Below.refl _ _).alloc (Nat.le_refl _) _
    have Kra : Kept _ := ⟨hra.under bja⟩
    have K1a : Kept _ := ⟨one_int jy waa⟩
    have Kha : Kept _ := ⟨hra⟩
    have Kqa : Kept _ := ⟨qaa⟩
    have Kma : Kept _ := ⟨hma⟩
    have Kwa : Kept (naa.length ≤ 40001) := ⟨by have := Kxl.out; rw [weight_cons, weight_nil] at hla; omega⟩
    have Kapa : Kept (naa.length + [jy].length ≤ 8796093022208) := ⟨by have := Kwa.out; simp; omega⟩
    have Kla : Kept ((naa ++ [jy]).length = maa + 1) := ⟨by rw [List.length_append, ← hmaa]; rfl⟩
    have KBa : Kept ((w4.alloc (.cells #[.string (strOf x)] 9)).heap.size ≤ (waa.alloc (.cells #[.int .i64 (jy : Int)] 3)).heap.size) := ⟨by rw [alloc_size waa]; have := qaa.size; omega⟩
    clear hra qaa bja hma hla hmaa
    go_wp2_with (first | (refine wl_bsI rfl (.tmp 37) rfl jy (by kernel_rfl) ?_; simp only [Act.put, List.setIfInBounds_toArray, List.set_cons_succ, List.set_cons_zero]) | ((refine wl_app (by kernel_rfl) (.tmp 36) (.tmp 38) 65 3 .i64 8 rfl Tryd.underlying65 inf_int (by decide) _ naa [jy] _ _ (by kernel_rfl) (by kernel_rfl) Kra.out K1a.out Kapa.out KBa.out ?_); intro va wba hra' hga' hnea'; obtain ⟨ppa, cca, rfl, _⟩ := row_slice hra' Kla.out; simp only [Act.put, List.setIfInBounds_toArray, List.set_cons_succ, List.set_cons_zero]) | (refine wl_bsI rfl (.tmp 40) rfl i (by kernel_rfl) ?_; simp only [Act.put, List.setIfInBounds_toArray, List.set_cons_succ, List.set_cons_zero]))
    refine (KG4.out.addW Kts.out Kk1.out ba (app_row Kqa.out Kha.out hga') hra' (fun z hz => by
      rcases List.mem_append.1 hz with hz | hz
      · exact todo_lt Kma.out z hz
      · rw [List.mem_singleton] at hz; rw [hz]; exact Kjy.out.2) Ki.out (by rw [List.length_append]; have := Kwa.out; simp; omega)).mono ?_
    rintro e wda ⟨rfl, Mda, hGa⟩
    have KGa : Kept (Reg ts rb B mb pb _ (fun H => _ ∧ (KnownS ts H x ∧ H jy → H i)) M0 w0 Mda wda) := ⟨hGa.mono (Nat.le_refl _) (fun H => by
      have := with_known Kma.out H
      simp only [List.mem_append, List.mem_singleton, or_imp, forall_and, forall_eq] at this ⊢
      rw [this])⟩
    clear hGa hra' hga' hnea' ba
    go_wp2_with (first | (at_lookup; refine wl_lookI rfl (.tmp 44) (.tmp 45) rfl pb _ _ (by kernel_rfl) KGa.out.pu x (by kernel_rfl) Kxm.out 0 false Klx.out.1 Klx.out.2 ?_; simp only [Act.put, List.setIfInBounds_toArray, List.set_cons_succ, List.set_cons_zero]))
    refine ⟨rfl, .tuple #[], (by simp [results, Tryd.results53, go_sem]), ?_⟩
    exact ⟨rfl, _, KGa.out.mono (by omega) fun H => by
      rw [dh_rule Kt.out]
      simp only [Kjly.out, Kjlx.out]
      simp [and_assoc]⟩
   | some jx =>
    have Kly : Kept _ := ⟨pub_has hT hy hly⟩
    have Kjy : Kept _ := ⟨pubR_some _ _ _ hly⟩
    have Klx : Kept _ := ⟨pub_has hT hx hlx⟩
    have Kjx : Kept _ := ⟨pubR_some _ _ _ hlx⟩
    have Kjly : Kept _ := ⟨hly⟩
    have Kjlx : Kept _ := ⟨hlx⟩
    clear hly hlx hT hx hy hG hts hxl hyl hi hk
    go_enter Tryd.func53, Tryd.ntmps53
    go_wp2_with (first | (refine wl_bs2 (by kernel_rfl) (.tmp 18) (.tmp 19) rfl (x) (y) (by kernel_rfl) (by kernel_rfl) ?_; simp only [Act.put, List.setIfInBounds_toArray, List.set_cons_succ, List.set_cons_zero]))
    refine KW0.out.mono ?_
    rintro e w2 ⟨⟨V2, ns, rfl, hr, hm, hl⟩, q2⟩
    obtain ⟨m2, hm2⟩ : ∃ m, m = ns.length := ⟨_, rfl⟩
    obtain ⟨p2, c2, rfl, _⟩ := ints_form (row_cells hr) hm2.symm
    have hl' : ns.length ≤ 1000000 := by have := Kxl.out; have := Kyl.out; rw [weight_cons, weight_cons, weight_nil] at hl; omega
    have KA : Kept _ := ⟨KG.out.addW Kts.out Kk0.out Kb1.out q2 hr (todo_lt hm) Ki.out hl'⟩
    have Kmm : Kept _ := ⟨hm⟩
    clear hr hm hl hl' q2 hm2
    go_wp2_with (first | (refine wl_bsI rfl (.tmp 22) rfl i (by kernel_rfl) ?_; simp only [Act.put, List.setIfInBounds_toArray, List.set_cons_succ, List.set_cons_zero]))
    refine KA.out.mono ?_
    rintro e w4 ⟨rfl, M4, hG4⟩
    have KG4 : Kept (Reg ts rb B mb pb (k + 1) (fun H => Φ H ∧ (KnownS ts H x ∧ KnownS ts H y → H i)) M0 w0 M4 w4) := ⟨hG4.mono (Nat.le_refl _) (fun H => by rw [with_known Kmm.out H]; simp)⟩
    clear hG4
    have ba : Below w4.heap.size w4 (w4.alloc (.cells #[.string (strOf x)] 9)) := (Below.refl _ _).alloc (Nat.le_refl _) _
    have KWa : Kept _ := ⟨withinD Kts.out (ll := [x]) (weight_one Kxl.out) (fun l hl => by rw [List.mem_singleton] at hl; subst hl; exact Kx.out) (new1 x w4) (KG4.out.under ba).pl⟩
    go_wp2_with (first | (at_lookup; refine wl_lookI rfl (.tmp 26) (.tmp 27) rfl pb _ _ (by kernel_rfl) KG4.out.pu y (by kernel_rfl) Kym.out jy true Kly.out.1 Kly.out.2 ?_; simp only [Act.put, List.setIfInBounds_toArray, List.set_cons_succ, List.set_cons_zero]) | (refine wl_bs1 (by kernel_rfl) (.tmp 34) rfl (x) (by kernel_rfl) ?_; simp only [Act.put, List.setIfInBounds_toArray, List.set_cons_succ, List.set_cons_zero]))
    refine KWa.out.mono ?_
    rintro e waa ⟨⟨Vaa, naa, rfl, hra, hma, hla⟩, qaa⟩
    obtain ⟨maa, hmaa⟩ : ∃ m, m = naa.length := ⟨_, rfl⟩
    obtain ⟨paa, caa, rfl, _⟩ := ints_form (row_cells hra) hmaa.symm
    have bja : Below waa.heap.size waa (waa.alloc (.cells #[.int .i64 (jy : Int)] 3)) := (Below.refl _ _).alloc (Nat.le_refl _) _
    have Kra : Kept _ := ⟨hra.under bja⟩
    have K1a : Kept _ := ⟨one_int jy waa⟩
    have Kha : Kept _ := ⟨hra⟩
    have Kqa : Kept _ := ⟨qaa⟩
    have Kma : Kept _ := ⟨hma⟩
    have Kwa : Kept (naa.length ≤ 40001) := ⟨by have := Kxl.out; rw [weight_cons, weight_nil] at hla; omega⟩
    have Kapa : Kept (naa.length + [jy].length ≤ 8796093022208) := ⟨by have := Kwa.out; simp; omega⟩
    have Kla : Kept ((naa ++ [jy]).length = maa + 1) := ⟨by rw [List.length_append, ← hmaa]; rfl⟩
    have KBa : Kept ((w4.alloc (.cells #[.string (strOf x)] 9)).heap.size ≤ (waa.alloc (.cells #[.int .i64 (jy : Int)] 3)).heap.size) := ⟨by rw [alloc_size waa]; have := qaa.size; omega⟩
    clear hra qaa bja hma hla hmaa
    go_wp2_with (first | (refine wl_bsI rfl (.tmp 37) rfl jy (by kernel_rfl) ?_; simp only [Act.put, List.setIfInBounds_toArray, List.set_cons_succ, List.set_cons_zero]) | ((refine wl_app (by kernel_rfl) (.tmp 36) (.tmp 38) 65 3 .i64 8 rfl Tryd.underlying65 inf_int (by decide) _ naa [jy] _ _ (by kernel_rfl) (by kernel_rfl) Kra.out K1a.out Kapa.out KBa.out ?_); intro va wba hra' hga' hnea'; obtain ⟨ppa, cca, rfl, _⟩ := row_slice hra' Kla.out; simp only [Act.put, List.setIfInBounds_toArray, List.set_cons_succ, List.set_cons_zero]) | (refine wl_bsI rfl (.tmp 40) rfl i (by kernel_rfl) ?_; simp only [Act.put, List.setIfInBounds_toArray, List.set_cons_succ, List.set_cons_zero]))
    refine (KG4.out.addW Kts.out Kk1.out ba (app_row Kqa.out Kha.out hga') hra' (fun z hz => by
      rcases List.mem_append.1 hz with hz | hz
      · exact todo_lt Kma.out z hz
      · rw [List.mem_singleton] at hz; rw [hz]; exact Kjy.out.2) Ki.out (by rw [List.length_append]; have := Kwa.out; simp; omega)).mono ?_
    rintro e wda ⟨rfl, Mda, hGa⟩
    have KGa : Kept (Reg ts rb B mb pb _ (fun H => _ ∧ (KnownS ts H x ∧ H jy → H i)) M0 w0 Mda wda) := ⟨hGa.mono (Nat.le_refl _) (fun H => by
      have := with_known Kma.out H
      simp only [List.mem_append, List.mem_singleton, or_imp, forall_and, forall_eq] at this ⊢
      rw [this])⟩
    clear hGa hra' hga' hnea' ba
    have bb : Below wda.heap.size wda (wda.alloc (.cells #[.string (strOf y)] 9)) := (Below.refl _ _).alloc (Nat.le_refl _) _
    have KWb : Kept _ := ⟨withinD Kts.out (ll := [y]) (weight_one Kyl.out) (fun l hl => by rw [List.mem_singleton] at hl; subst hl; exact Ky.out) (new1 y wda) (KGa.out.under bb).pl⟩
    go_wp2_with (first | (at_lookup; refine wl_lookI rfl (.tmp 44) (.tmp 45) rfl pb _ _ (by kernel_rfl) KGa.out.pu x (by kernel_rfl) Kxm.out jx true Klx.out.1 Klx.out.2 ?_; simp only [Act.put, List.setIfInBounds_toArray, List.set_cons_succ, List.set_cons_zero]) | (refine wl_bs1 (by kernel_rfl) (.tmp 52) rfl (y) (by kernel_rfl) ?_; simp only [Act.put, List.setIfInBounds_toArray, List.set_cons_succ, List.set_cons_zero]))
    refine KWb.out.mono ?_
    rintro e wab ⟨⟨Vab, nab, rfl, hrb, hmb, hlb⟩, qab⟩
    obtain ⟨mab, hmab⟩ : ∃ m, m = nab.length := ⟨_, rfl⟩
    obtain ⟨pab, cab, rfl, _⟩ := ints_form (row_cells hrb) hmab.symm
    have bjb : Below wab.heap.size wab (wab.alloc (.cells #[.int .i64 (jx : Int)] 3)) := (Below.refl _ _).alloc (Nat.le_refl _) _
    have Krb : Kept _ := ⟨hrb.under bjb⟩
    have K1b : Kept _ := ⟨one_int jx wab⟩
    have Khb : Kept _ := ⟨hrb⟩
    have Kqb : Kept _ := ⟨qab⟩
    have Kmb : Kept _ := ⟨hmb⟩
    have Kwb : Kept (nab.length ≤ 40001) := ⟨by have := Kyl.out; rw [weight_cons, weight_nil] at hlb; omega⟩
    have Kapb : Kept (nab.length + [jx].length ≤ 8796093022208) := ⟨by have := Kwb.out; simp; omega⟩
    have Klb : Kept ((nab ++ [jx]).length = mab + 1) := ⟨by rw [List.length_append, ← hmab]; rfl⟩
    have KBb : Kept ((wda.alloc (.cells #[.string (strOf y)] 9)).heap.size ≤ (wab.alloc (.cells #[.int .i64 (jx : Int)] 3)).heap.size) := ⟨by rw [alloc_size wab]; have := qab.size; omega⟩
    clear hrb qab bjb hmb hlb hmab
    go_wp2_with (first | (refine wl_bsI rfl (.tmp 55) rfl jx (by kernel_rfl) ?_; simp only [Act.put, List.setIfInBounds_toArray, List.set_cons_succ, List.set_cons_zero]) | ((refine wl_app (by kernel_rfl) (.tmp 54) (.tmp 56) 65 3 .i64 8 rfl Tryd.underlying65 inf_int (by decide) _ nab [jx] _ _ (by kernel_rfl) (by kernel_rfl) Krb.out K1b.out Kapb.out KBb.out ?_); intro vb wbb hrb' hgb' hneb'; obtain ⟨ppb, ccb, rfl, _⟩ := row_slice hrb' Klb.out; simp only [Act.put, List.setIfInBounds_toArray, List.set_cons_succ, List.set_cons_zero]) | (refine wl_bsI rfl (.tmp 58) rfl i (by kernel_rfl) ?_; simp only [Act.put, List.setIfInBounds_toArray, List.set_cons_succ, List.set_cons_zero]))
    refine (KGa.out.addW Kts.out Kk2.out bb (app_row Kqb.out Khb.out hgb') hrb' (fun z hz => by
      rcases List.mem_append.1 hz with hz | hz
      · exact todo_lt Kmb.out z hz
      · rw [List.mem_singleton] at hz; rw [hz]; exact Kjx.out.2) Ki.out (by rw [List.length_append]; have := Kwb.out; simp; omega)).mono ?_
    rintro e wdb ⟨rfl, Mdb, hGb⟩
    have KGb : Kept (Reg ts rb B mb pb _ (fun H => _ ∧ (KnownS ts H y ∧ H jx → H i)) M0 w0 Mdb wdb) := ⟨hGb.mono (Nat.le_refl _) (fun H => by
      have := with_known Kmb.out H
      simp only [List.mem_append, List.mem_singleton, or_imp, forall_and, forall_eq] at this ⊢
      rw [this])⟩
    clear hGb hrb' hgb' hneb' bb
    go_wp2_with fail
    refine ⟨rfl, .tuple #[], (by simp [results, Tryd.results53, go_sem]), ?_⟩
    exact ⟨rfl, _, KGb.out.mono (by omega) fun H => by
      rw [dh_rule Kt.out]
      simp only [Kjly.out, Kjlx.out]
      simp [and_assoc]⟩
set_option maxRecDepth 100000 in
set_option maxHeartbeats 8000000 in
theorem addSealedD {ts : List TermL} {rb B mb pb k i : Nat} {Φ : (Nat → Prop) → Prop} {M0 M : Nat → Prop} {w0 w : World} {x a z : List Nat} (hts : ts.length < 1000000) (hG : Reg ts rb B mb pb k Φ M0 w0 M w) (hk : k + 2 ≤ 900000) (hx : Bytes x) (ha : Bytes a) (hz : Bytes z) (hxl : x.length ≤ 40000) (hal : a.length ≤ 40000) (hzl : z.length ≤ 40000) (hi : i < ts.length) :
    Calls Tryd.prog 54 #[.pointer (some ⟨rb, 0, none⟩), .string (strOf x), .string (strOf a), .string (strOf z), .int .i64 (i : Int), .map (some mb)] w fun e w' => e = .returned (.tuple #[]) ∧ ∃ M', Reg ts rb B mb pb (k + 1 + 1) (fun H => Φ H ∧ (KnownS ts H x ∧ KnownS ts H a ∧ KnownS ts H z → H i) ∧ (H i → KnownS ts H x → ∀ j, Leaf ts z j → H j)) M0 w0 M' w' := by
  have b1 : Below w.heap.size w (w.alloc (.cells #[.string (strOf x), .string (strOf a), .string (strOf z)] 9)) := (Below.refl _ _).alloc (Nat.le_refl _) _
  have KW0 : Kept _ := ⟨withinD hts (ll := [x, a, z]) (weight_three hxl hal hzl) (fun l hl => by simp at hl; rcases hl with rfl | rfl | rfl <;> assumption) (new3 x a z w) (hG.under b1).pl⟩
  have KG : Kept _ := ⟨hG⟩
  have Kb1 : Kept _ := ⟨b1⟩
  have Kts : Kept _ := ⟨hts⟩
  have Kx : Kept _ := ⟨hx⟩
  have Kz : Kept _ := ⟨hz⟩
  have Kxl : Kept _ := ⟨hxl⟩
  have Kal : Kept _ := ⟨hal⟩
  have Kzl : Kept _ := ⟨hzl⟩
  have Ki : Kept _ := ⟨hi⟩
  have Kk0 : Kept (k ≤ 900000) := ⟨by omega⟩
  have Kk1 : Kept (k + 1 ≤ 900000) := ⟨by omega⟩
  clear b1
  clear hx hz hG hts hxl hal hzl hi hk ha
  go_enter Tryd.func54, Tryd.ntmps54
  go_wp2_with (first | (refine wl_bs3 (by kernel_rfl) (.tmp 14) (.tmp 15) (.tmp 16) rfl (x) (a) (z) (by kernel_rfl) (by kernel_rfl) (by kernel_rfl) ?_; simp only [Act.put, List.setIfInBounds_toArray, List.set_cons_succ, List.set_cons_zero]))
  refine KW0.out.mono ?_
  rintro e w2 ⟨⟨V2, ns, rfl, hr, hm, hl⟩, q2⟩
  obtain ⟨m2, hm2⟩ : ∃ m, m = ns.length := ⟨_, rfl⟩
  obtain ⟨p2, c2, rfl, _⟩ := ints_form (row_cells hr) hm2.symm
  have hl' : ns.length ≤ 1000000 := by have := Kxl.out; have := Kal.out; have := Kzl.out; rw [weight_cons, weight_cons, weight_cons, weight_nil] at hl; omega
  have KA : Kept _ := ⟨KG.out.addW Kts.out Kk0.out Kb1.out q2 hr (todo_lt hm) Ki.out hl'⟩
  have Kmm : Kept _ := ⟨hm⟩
  clear hr hm hl hl' q2 hm2
  go_wp2_with (first | (refine wl_bsI rfl (.tmp 19) rfl i (by kernel_rfl) ?_; simp only [Act.put, List.setIfInBounds_toArray, List.set_cons_succ, List.set_cons_zero]))
  refine KA.out.mono ?_
  rintro e w4 ⟨rfl, M4, hG4⟩
  have KG4 : Kept (Reg ts rb B mb pb (k + 1) (fun H => Φ H ∧ (KnownS ts H x ∧ KnownS ts H a ∧ KnownS ts H z → H i)) M0 w0 M4 w4) := ⟨hG4.mono (Nat.le_refl _) (fun H => by rw [with_known Kmm.out H]; simp)⟩
  clear hG4
  have bs : Below w4.heap.size w4 (w4.alloc (.cells #[.string (strOf x)] 9)) := (Below.refl _ _).alloc (Nat.le_refl _) _
  have KWs : Kept _ := ⟨withinD Kts.out (ll := [x]) (weight_one Kxl.out) (fun l hl => by rw [List.mem_singleton] at hl; subst hl; exact Kx.out) (new1 x w4) (KG4.out.under bs).pl⟩
  go_wp2_with (first | (refine wl_bs1 (by kernel_rfl) (.tmp 24) rfl (x) (by kernel_rfl) ?_; simp only [Act.put, List.setIfInBounds_toArray, List.set_cons_succ, List.set_cons_zero]))
  refine KWs.out.mono ?_
  rintro e was ⟨⟨Vas, nas, rfl, hrs, hms, hls⟩, qas⟩
  obtain ⟨mas, hmas⟩ : ∃ m, m = nas.length := ⟨_, rfl⟩
  obtain ⟨pas, cas, rfl, _⟩ := ints_form (row_cells hrs) hmas.symm
  have bjs : Below was.heap.size was (was.alloc (.cells #[.int .i64 (i : Int)] 3)) := (Below.refl _ _).alloc (Nat.le_refl _) _
  have Krs : Kept _ := ⟨hrs.under bjs⟩
  have K1s : Kept _ := ⟨one_int i was⟩
  have Khs : Kept _ := ⟨hrs⟩
  have Kqs : Kept _ := ⟨qas⟩
  have Kms : Kept _ := ⟨hms⟩
  have Kws : Kept (nas.length ≤ 40001) := ⟨by have := Kxl.out; rw [weight_cons, weight_nil] at hls; omega⟩
  have Kaps : Kept (nas.length + [i].length ≤ 8796093022208) := ⟨by have := Kws.out; simp; omega⟩
  have Kls : Kept ((nas ++ [i]).length = mas + 1) := ⟨by rw [List.length_append, ← hmas]; rfl⟩
  have KBs : Kept ((w4.alloc (.cells #[.string (strOf x)] 9)).heap.size ≤ (was.alloc (.cells #[.int .i64 (i : Int)] 3)).heap.size) := ⟨by rw [alloc_size was]; have := qas.size; omega⟩
  clear hrs qas bjs hms hls hmas
  go_wp2_with (first | (refine wl_bsI rfl (.tmp 27) rfl i (by kernel_rfl) ?_; simp only [Act.put, List.setIfInBounds_toArray, List.set_cons_succ, List.set_cons_zero]) | ((refine wl_app (by kernel_rfl) (.tmp 26) (.tmp 28) 65 3 .i64 8 rfl Tryd.underlying65 inf_int (by decide) _ nas [i] _ _ (by kernel_rfl) (by kernel_rfl) Krs.out K1s.out Kaps.out KBs.out ?_); intro vs wbs hrs' hgs' hnes'; obtain ⟨pps, ccs, rfl, _⟩ := row_slice hrs' Kls.out;  have qs := app_row Kqs.out Khs.out hgs'; have bz : Below wbs.heap.size wbs (wbs.alloc (.cells #[.string (strOf z)] 9)) := (Below.refl _ _).alloc (Nat.le_refl _) _; have q4 : Below w4.heap.size w4 wbs := bs.trans (qs.mono bs.size); have KWz : Kept _ := ⟨withinD Kts.out (ll := [z]) (weight_one Kzl.out) (fun l hl => by rw [List.mem_singleton] at hl; subst hl; exact Kz.out) (new1 z wbs) ((KG4.out.under q4).under bz).pl⟩; simp only [Act.put, List.setIfInBounds_toArray, List.set_cons_succ, List.set_cons_zero]) | (refine wl_bs1 (by kernel_rfl) (.tmp 31) rfl (z) (by kernel_rfl) ?_; simp only [Act.put, List.setIfInBounds_toArray, List.set_cons_succ, List.set_cons_zero]))
  refine KWz.out.mono ?_
  rintro e w6 ⟨⟨V6, nz, rfl, hrz, hmz, hlz⟩, q6⟩
  obtain ⟨m6, hm6⟩ : ∃ m, m = nz.length := ⟨_, rfl⟩
  obtain ⟨p6, c6, rfl, _⟩ := ints_form (row_cells hrz) hm6.symm
  have hlz' : nz.length ≤ 1000000 := by have := Kzl.out; rw [weight_cons, weight_nil] at hlz; omega
  have qz6 : Below wbs.heap.size wbs w6 := bz.trans (q6.mono bz.size)
  have qw6 : Below w4.heap.size w4 w6 := q4.trans (qz6.mono q4.size)
  have KC : Kept _ := ⟨KG4.out.addG Kts.out Kk1.out qw6 ((row_cells hrs').under qz6) (row_cells hrz) (fun b hb => ⟨by have := (hrs'.range b hb).1; have := bs.size; omega, Nat.lt_of_lt_of_le (hrs'.range b hb).2 qz6.size⟩) (fun b hb => ⟨by have := (hrz.range b hb).1; have := bz.size; have := q4.size; omega, (hrz.range b hb).2⟩) (fun y hy => by
      rcases List.mem_append.1 hy with hy | hy
      · exact todo_lt Kms.out y hy
      · rw [List.mem_singleton] at hy; rw [hy]; exact Ki.out) (todo_lt hmz) (by rw [List.length_append]; have := Kws.out; simp; omega) hlz'⟩
  have Kmz : Kept _ := ⟨hmz⟩
  clear hrz hmz hlz hlz' qz6 qw6 q6 hrs' hgs' hnes' q4 bz qs bs hm6
  go_wp2_with fail
  refine KC.out.mono ?_
  rintro e w8 ⟨rfl, M8, hG8⟩
  go_wp2_with fail
  refine ⟨rfl, .tuple #[], (by simp [results, Tryd.results54, go_sem]), ?_⟩
  refine ⟨rfl, M8, hG8.mono (Nat.le_refl _) fun H => ?_⟩
  have e1 := with_known Kms.out H
  have e2 : (∀ y ∈ nz, H y) ↔ ∀ j, Leaf ts z j → H j := ⟨fun h j hj => h j ((Kmz.out j).2 (todo_one.2 hj)), fun h y hy => h y (todo_one.1 ((Kmz.out y).1 hy))⟩
  rw [e2]
  simp only [List.mem_append, List.mem_singleton, or_imp, forall_and, forall_eq] at e1 ⊢
  rw [e1, and_assoc]
  refine and_congr Iff.rfl (and_congr Iff.rfl ⟨fun h h1 h2 => h ⟨h2, h1⟩, fun h h1 => h h1.2 h1.1⟩)
end Go.Proofs.YtniogaimhkcedaaDoor.sh
