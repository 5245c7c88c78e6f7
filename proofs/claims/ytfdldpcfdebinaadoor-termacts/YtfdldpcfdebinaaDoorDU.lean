/-
  What an act makes of the reference's list.
-/
import Derived.Test.YtfdldpcfdebinaaDoorDT
namespace Go.Proofs.YtfdldpcfdebinaaDoor.sh
open Go Go.RowKit
set_option linter.unusedVariables false
set_option linter.unusedSimpArgs false

theorem pickR_all {x : ActL} {N g h : Nat} {p : Option Addr} {c : Nat} {w : World} (hx : Blk w g 30 (actA x)) (hh : Blk w h 27 #[.slice p N c]) (hN : N < 1000000) : ∀ w4, Below w.heap.size w w4 → ∀ n : Nat, n < 256 →
    Calls Tryd.prog 24 #[.int .u8 (n : Int), .pointer (some ⟨g, 0, none⟩), .pointer (some ⟨h, 0, none⟩)] w4 fun e w' => e = .returned (.string (strOf (pickN N x n))) ∧ Below w4.heap.size w4 w' := fun w4 q n hn => PickR (hx.under q) (hh.under q) hn (by omega)

set_option maxRecDepth 100000 in
set_option maxHeartbeats 4000000 in
theorem theirs0 {D : Nat → Prop} {ts us : List TermL} {N : List Nat} {F : Bool} {x : ActL} {v : Value} {w : World} (hv : TsV D v w ts) (hT : Terms ts) (hx : ActOk x) (hn : ts.length < 1000000) (hk : x.kind % 5 = 0) (hN : actL ts x = (us, N, F)) :
    Calls Tryd.prog 12 #[v, .agg (actA x)] w fun e w' => RDh D w us N F e w' ∧ Below w.heap.size w w' := by
  have hmf : ∀ (fn : Fn) (first cap : Array Value) (w : World), (Instr.makeFunc fn first cap).run Tryd.prog w = .ok (.func fn first cap) w := fun _ _ _ _ => rfl
  have e1 := actL_atom (ts := ts) hk
  rw [hN] at e1
  obtain ⟨p, c, rfl, hc⟩ := ts_form hv rfl
  obtain ⟨AA, hAA⟩ : ∃ AA, AA = actA x := ⟨_, rfl⟩
  have KAA : Kept _ := ⟨hAA⟩
  rw [← hAA]
  have KTs : Kept _ := ⟨hv⟩
  have KT : Kept _ := ⟨hT⟩
  have KOk : Kept _ := ⟨hx⟩
  have KR : Kept (0 = x.kind % 5) := ⟨hk.symm⟩
  have e2 : us = (putL ts (1, [x.s])).1 := congrArg (·.1) e1
  have e3 : N = (putL ts (1, [x.s])).2 := congrArg (·.2.1) e1
  have e4 : F = decide ((putL ts (1, [x.s])).2 ≠ []) := congrArg (·.2.2) e1
  have KP : Kept (putL ts (1, [x.s]) = (us, N)) := ⟨Prod.ext e2.symm e3.symm⟩
  have KNB : Kept (Bytes N) := ⟨by rw [e3]; exact putL_bytes _ _⟩
  have BF : Kept (F = !decide (N = [])) := ⟨by rw [e4, ← e3]; exact decide_not⟩
  have Kf : Kept (Formed (1, [x.s])) := ⟨⟨fun l h => by
        simp at h
        subst h
        exact KOk.out.s, .inl ⟨rfl, _, rfl⟩⟩⟩
  have Kl : Kept (∀ l ∈ [x.s], l.length ≤ maxLen) := ⟨fun l h => by
        simp at h
        subst h
        exact KOk.out.len⟩
  clear e2 e3 e4
  have Ke : Kept _ := ⟨e1⟩
  clear hv hT hx hAA hN hk e1
  go_enter Tryd.func12, Tryd.ntmps12
  go_wp2_with fail
  have q1 : Below w.heap.size w (w.alloc (.cells #[.slice p ts.length c] 27)) := (Below.refl _ _).alloc (Nat.le_refl _) _
  have q3 : Below w.heap.size w ((w.alloc (.cells #[.slice p ts.length c] 27)).alloc (.cells AA 30)) := q1.alloc q1.size _
  have h3 : Blk ((w.alloc (.cells #[.slice p ts.length c] 27)).alloc (.cells AA 30)) w.heap.size 27 #[.slice p ts.length c] := (blk_new w _ _).under ((Below.refl _ _).alloc (Nat.le_refl _) _)
  have g3 : Blk ((w.alloc (.cells #[.slice p ts.length c] 27)).alloc (.cells AA 30)) (w.heap.size + 1) 30 (actA x) := by
    rw [← KAA.out, ← alloc_size w (.cells #[.slice p ts.length c] 27)]
    exact blk_new _ _ _
  generalize (w.alloc (.cells #[.slice p ts.length c] 27)).alloc (.cells AA 30) = w3 at *
  have KX3 : Kept _ := ⟨g3⟩
  have KH3 : Kept _ := ⟨h3⟩
  have KPk : Kept _ := ⟨pickR_all g3 h3 hn⟩
  clear q1 h3 g3
  refine region_ownXL w3 8 [(15, .func (.func 24) #[] #[.pointer (some ⟨(w.heap.size + 1), 0, none⟩), .pointer (some ⟨w.heap.size, 0, none⟩)]), (16, .pointer (some ⟨(w.heap.size + 1), 1, none⟩)), (17, .int .u8 (x.a : Int)), (18, .string (strOf (pickN ts.length x x.a))), (19, .func (.func 24) #[] #[.pointer (some ⟨(w.heap.size + 1), 0, none⟩), .pointer (some ⟨w.heap.size, 0, none⟩)]), (20, .pointer (some ⟨(w.heap.size + 1), 2, none⟩)), (21, .int .u8 (x.b : Int)), (22, .string (strOf (pickN ts.length x x.b)))] [] [] [] rfl (by kernel_rfl) (by kernel_rfl) (by kernel_rfl) (by kernel_rfl) (by kernel_rfl) (by kernel_rfl) (by kernel_rfl) (by kernel_rfl) (by kernel_rfl) (by kernel_rfl) ?hst1 ?hst2 (Below.refl _ _) (fun hA => ⟨ow_val hA (wants_none rfl) 15 (.func (.func 24) #[] #[.pointer (some ⟨(w.heap.size + 1), 0, none⟩), .pointer (some ⟨w.heap.size, 0, none⟩)]) (by kernel_rfl) rfl rfl rfl rfl (by kernel_rfl) (fun w => by kernel_rfl), ow_val hA (wants_none rfl) 16 (.pointer (some ⟨(w.heap.size + 1), 1, none⟩)) (by kernel_rfl) rfl rfl rfl rfl (by kernel_rfl) (fun w => by kernel_rfl), ow_elem hA (wants_none rfl) 17 (.int .u8 (x.a : Int)) (by kernel_rfl) rfl rfl rfl rfl (by kernel_rfl) 5 Tryd.isAgg5 (.tmp 16) rfl (⟨(w.heap.size + 1), 1, none⟩) (by kernel_rfl) (fun w1 hb => ((KX3.out.under hb).cell rfl)), ow_callV hA (wants_none rfl) 18 (.string (strOf (pickN ts.length x x.a))) (by kernel_rfl) rfl rfl rfl rfl (by kernel_rfl) 24 Tryd.f24 _ (.tmp 15) [.tmp 17] _ #[.pointer (some ⟨(w.heap.size + 1), 0, none⟩), .pointer (some ⟨w.heap.size, 0, none⟩)] [.int .u8 (x.a : Int), .pointer (some ⟨(w.heap.size + 1), 0, none⟩), .pointer (some ⟨w.heap.size, 0, none⟩)] rfl (by kernel_rfl) (by kernel_rfl) Tryd.func24 (by kernel_rfl) rfl (fun w4 hb4 => KPk.out w4 hb4 _ KOk.out.a), ow_val hA (wants_none rfl) 19 (.func (.func 24) #[] #[.pointer (some ⟨(w.heap.size + 1), 0, none⟩), .pointer (some ⟨w.heap.size, 0, none⟩)]) (by kernel_rfl) rfl rfl rfl rfl (by kernel_rfl) (fun w => by kernel_rfl), ow_val hA (wants_none rfl) 20 (.pointer (some ⟨(w.heap.size + 1), 2, none⟩)) (by kernel_rfl) rfl rfl rfl rfl (by kernel_rfl) (fun w => by kernel_rfl), ow_elem hA (wants_none rfl) 21 (.int .u8 (x.b : Int)) (by kernel_rfl) rfl rfl rfl rfl (by kernel_rfl) 5 Tryd.isAgg5 (.tmp 20) rfl (⟨(w.heap.size + 1), 2, none⟩) (by kernel_rfl) (fun w1 hb => ((KX3.out.under hb).cell rfl)), ow_callV hA (wants_none rfl) 22 (.string (strOf (pickN ts.length x x.b))) (by kernel_rfl) rfl rfl rfl rfl (by kernel_rfl) 24 Tryd.f24 _ (.tmp 19) [.tmp 21] _ #[.pointer (some ⟨(w.heap.size + 1), 0, none⟩), .pointer (some ⟨w.heap.size, 0, none⟩)] [.int .u8 (x.b : Int), .pointer (some ⟨(w.heap.size + 1), 0, none⟩), .pointer (some ⟨w.heap.size, 0, none⟩)] rfl (by kernel_rfl) (by kernel_rfl) Tryd.func24 (by kernel_rfl) rfl (fun w4 hb4 => KPk.out w4 hb4 _ KOk.out.b), trivial⟩) ?_
  case hst1 => intro q hq; cases hq
  case hst2 => intro q hq; cases hq
  intro fv w4 hf hD b4
  simp only [putR, List.foldl_cons, List.foldl_nil, List.map_cons, List.map_nil, Act.put, List.setIfInBounds_toArray, List.set_cons_succ, List.set_cons_zero]
  clear hf hD
  have q4 := q3.trans (b4.mono q3.size)
  have KX4 : Kept _ := ⟨KX3.out.under b4⟩
  have KH4 : Kept _ := ⟨KH3.out.under b4⟩
  refine any1 (f := 1) (i := 8) rfl (by kernel_rfl) rfl ?_
  refine wv_valS (d := 8) rfl (by kernel_rfl) (.string (strOf (pickN ts.length x x.a))) (fun w => by kernel_rfl) ?_; simp only [Act.put, List.setIfInBounds_toArray, List.set_cons_succ, List.set_cons_zero]; refine wpList_nil ?_
  refine any1 (f := 0) (i := 9) rfl (by kernel_rfl) rfl ?_
  refine wv_valS (d := 9) rfl (by kernel_rfl) (.string (strOf (pickN ts.length x x.b))) (fun w => by kernel_rfl) ?_; simp only [Act.put, List.setIfInBounds_toArray, List.set_cons_succ, List.set_cons_zero]; refine wpList_nil ?_
  refine any0 (by kernel_rfl) ?_
  go_wp2_with (first | ((with_reducible refine wv_elem (d := 24) ?hd ?hw 9 ag_str (.tmp 23) ?ho (⟨(w.heap.size + 1), 4, none⟩) ?hx (.string (strOf x.s)) ?hc ?_); (case hd => rfl); (case hw => kernel_rfl); (case ho => rfl); (case hx => kernel_rfl); (case hc => exact (KX4.out.cell rfl)); simp only [Act.put, List.setIfInBounds_toArray, List.set_cons_succ, List.set_cons_zero]) | ((refine wl_bs1 (by kernel_rfl) (.tmp 24) rfl (x.s) (by kernel_rfl) ?_); have bwA : Below w4.heap.size w4 (w4.alloc (.cells #[.string (strOf x.s)] 9)) := (Below.refl _ _).alloc (Nat.le_refl _) _; have VA := new1 x.s w4; (generalize hwx : w4.alloc (.cells #[.string (strOf x.s)] 9) = wA at *); clear hwx; have KXA : Kept _ := ⟨KX4.out.under bwA⟩; have KHA : Kept _ := ⟨KH4.out.under bwA⟩; simp only [Act.put, List.setIfInBounds_toArray, List.set_cons_succ, List.set_cons_zero]) | ((with_reducible refine wv_elem (d := 27) ?hd ?hw 5 Tryd.isAgg5 (.tmp 26) ?ho (⟨(w.heap.size + 1), 0, none⟩) ?hx (.int .u8 (x.kind : Int)) ?hc ?_); (case hd => rfl); (case hw => kernel_rfl); (case ho => rfl); (case hx => kernel_rfl); (case hc => exact (KXA.out.cell rfl)); simp only [Act.put, List.setIfInBounds_toArray, List.set_cons_succ, List.set_cons_zero]) | ((with_reducible refine wv_val (d := 28) ?hd ?hw (.int .u8 ((0 : Nat) : Int)) ?hr ?_); (case hd => rfl); (case hw => kernel_rfl); (case hr => intro w; exact run_remU5 rfl (by kernel_rfl) KR.out w); simp only [Act.put, List.setIfInBounds_toArray, List.set_cons_succ, List.set_cons_zero]) | ((with_reducible refine wv_elem (d := 60) ?hd ?hw 27 Tryd.isAgg27 (.tmp 2) ?ho (⟨w.heap.size, 0, none⟩) ?hx (.slice p ts.length c) ?hc ?_); (case hd => rfl); (case hw => kernel_rfl); (case ho => rfl); (case hx => kernel_rfl); (case hc => exact (KHA.out.cell rfl)); simp only [Act.put, List.setIfInBounds_toArray, List.set_cons_succ, List.set_cons_zero]))
  have qA := q4.trans (bwA.mono q4.size)
  refine (rPut (KTs.out.under qA) KT.out Kf.out VA Kl.out hn KP.out).mono ?_
  rintro e w6 ⟨⟨v', rfl, hT'⟩, q6⟩
  have q06 := qA.trans (q6.mono qA.size)
  have KT' : Kept _ := ⟨hT'.news qA.size (Below.refl _ _)⟩
  clear hT'
  go_wp2_with (first | ((with_reducible refine wv_val (d := 69) ?hd ?hw (.bool F) ?hr ?_); (case hd => rfl); (case hw => kernel_rfl); (case hr => intro w; exact run_sneq (m := []) rfl (by kernel_rfl) rfl KNB.out nil_bytes BF.out w); simp only [Act.put, List.setIfInBounds_toArray, List.set_cons_succ, List.set_cons_zero]))
  refine bodyPost_ret (v := .tuple #[v', .string (strOf N), .bool F]) (by simp [results, Tryd.results12, go_sem]) rfl ?_
  exact ⟨⟨v', rfl, KT'.out⟩, q06⟩

set_option maxRecDepth 100000 in
set_option maxHeartbeats 4000000 in
theorem theirs1 {D : Nat → Prop} {ts us : List TermL} {N : List Nat} {F : Bool} {x : ActL} {v : Value} {w : World} (hv : TsV D v w ts) (hT : Terms ts) (hx : ActOk x) (hn : ts.length < 1000000) (hk : x.kind % 5 = 1) (hN : actL ts x = (us, N, F)) :
    Calls Tryd.prog 12 #[v, .agg (actA x)] w fun e w' => RDh D w us N F e w' ∧ Below w.heap.size w w' := by
  have hmf : ∀ (fn : Fn) (first cap : Array Value) (w : World), (Instr.makeFunc fn first cap).run Tryd.prog w = .ok (.func fn first cap) w := fun _ _ _ _ => rfl
  have e1 := actL_pub (ts := ts) hk
  rw [hN] at e1
  obtain ⟨p, c, rfl, hc⟩ := ts_form hv rfl
  obtain ⟨AA, hAA⟩ : ∃ AA, AA = actA x := ⟨_, rfl⟩
  have KAA : Kept _ := ⟨hAA⟩
  rw [← hAA]
  have KTs : Kept _ := ⟨hv⟩
  have KT : Kept _ := ⟨hT⟩
  have KOk : Kept _ := ⟨hx⟩
  have KR : Kept (1 = x.kind % 5) := ⟨hk.symm⟩
  have e2 : us = (putL ts (2, [(pickN ts.length x x.a)])).1 := congrArg (·.1) e1
  have e3 : N = (putL ts (2, [(pickN ts.length x x.a)])).2 := congrArg (·.2.1) e1
  have e4 : F = decide ((putL ts (2, [(pickN ts.length x x.a)])).2 ≠ []) := congrArg (·.2.2) e1
  have KP : Kept (putL ts (2, [(pickN ts.length x x.a)]) = (us, N)) := ⟨Prod.ext e2.symm e3.symm⟩
  have KNB : Kept (Bytes N) := ⟨by rw [e3]; exact putL_bytes _ _⟩
  have BF : Kept (F = !decide (N = [])) := ⟨by rw [e4, ← e3]; exact decide_not⟩
  have Kf : Kept (Formed (2, [(pickN ts.length x x.a)])) := ⟨⟨fun l h => by
        simp at h
        subst h
        exact (pick_bytes KOk.out _ _).1, .inr (.inl ⟨rfl, _, rfl⟩)⟩⟩
  have Kl : Kept (∀ l ∈ [(pickN ts.length x x.a)], l.length ≤ maxLen) := ⟨fun l h => by
        simp at h
        subst h
        exact (pick_bytes KOk.out _ _).2⟩
  clear e2 e3 e4
  have Ke : Kept _ := ⟨e1⟩
  clear hv hT hx hAA hN hk e1
  go_enter Tryd.func12, Tryd.ntmps12
  go_wp2_with fail
  have q1 : Below w.heap.size w (w.alloc (.cells #[.slice p ts.length c] 27)) := (Below.refl _ _).alloc (Nat.le_refl _) _
  have q3 : Below w.heap.size w ((w.alloc (.cells #[.slice p ts.length c] 27)).alloc (.cells AA 30)) := q1.alloc q1.size _
  have h3 : Blk ((w.alloc (.cells #[.slice p ts.length c] 27)).alloc (.cells AA 30)) w.heap.size 27 #[.slice p ts.length c] := (blk_new w _ _).under ((Below.refl _ _).alloc (Nat.le_refl _) _)
  have g3 : Blk ((w.alloc (.cells #[.slice p ts.length c] 27)).alloc (.cells AA 30)) (w.heap.size + 1) 30 (actA x) := by
    rw [← KAA.out, ← alloc_size w (.cells #[.slice p ts.length c] 27)]
    exact blk_new _ _ _
  generalize (w.alloc (.cells #[.slice p ts.length c] 27)).alloc (.cells AA 30) = w3 at *
  have KX3 : Kept _ := ⟨g3⟩
  have KH3 : Kept _ := ⟨h3⟩
  have KPk : Kept _ := ⟨pickR_all g3 h3 hn⟩
  clear q1 h3 g3
  refine region_ownXL w3 8 [(15, .func (.func 24) #[] #[.pointer (some ⟨(w.heap.size + 1), 0, none⟩), .pointer (some ⟨w.heap.size, 0, none⟩)]), (16, .pointer (some ⟨(w.heap.size + 1), 1, none⟩)), (17, .int .u8 (x.a : Int)), (18, .string (strOf (pickN ts.length x x.a))), (19, .func (.func 24) #[] #[.pointer (some ⟨(w.heap.size + 1), 0, none⟩), .pointer (some ⟨w.heap.size, 0, none⟩)]), (20, .pointer (some ⟨(w.heap.size + 1), 2, none⟩)), (21, .int .u8 (x.b : Int)), (22, .string (strOf (pickN ts.length x x.b)))] [] [] [] rfl (by kernel_rfl) (by kernel_rfl) (by kernel_rfl) (by kernel_rfl) (by kernel_rfl) (by kernel_rfl) (by kernel_rfl) (by kernel_rfl) (by kernel_rfl) (by kernel_rfl) ?hst1 ?hst2 (Below.refl _ _) (fun hA => ⟨ow_val hA (wants_none rfl) 15 (.func (.func 24) #[] #[.pointer (some ⟨(w.heap.size + 1), 0, none⟩), .pointer (some ⟨w.heap.size, 0, none⟩)]) (by kernel_rfl) rfl rfl rfl rfl (by kernel_rfl) (fun w => by kernel_rfl), ow_val hA (wants_none rfl) 16 (.pointer (some ⟨(w.heap.size + 1), 1, none⟩)) (by kernel_rfl) rfl rfl rfl rfl (by kernel_rfl) (fun w => by kernel_rfl), ow_elem hA (wants_none rfl) 17 (.int .u8 (x.a : Int)) (by kernel_rfl) rfl rfl rfl rfl (by kernel_rfl) 5 Tryd.isAgg5 (.tmp 16) rfl (⟨(w.heap.size + 1), 1, none⟩) (by kernel_rfl) (fun w1 hb => ((KX3.out.under hb).cell rfl)), ow_callV hA (wants_none rfl) 18 (.string (strOf (pickN ts.length x x.a))) (by kernel_rfl) rfl rfl rfl rfl (by kernel_rfl) 24 Tryd.f24 _ (.tmp 15) [.tmp 17] _ #[.pointer (some ⟨(w.heap.size + 1), 0, none⟩), .pointer (some ⟨w.heap.size, 0, none⟩)] [.int .u8 (x.a : Int), .pointer (some ⟨(w.heap.size + 1), 0, none⟩), .pointer (some ⟨w.heap.size, 0, none⟩)] rfl (by kernel_rfl) (by kernel_rfl) Tryd.func24 (by kernel_rfl) rfl (fun w4 hb4 => KPk.out w4 hb4 _ KOk.out.a), ow_val hA (wants_none rfl) 19 (.func (.func 24) #[] #[.pointer (some ⟨(w.heap.size + 1), 0, none⟩), .pointer (some ⟨w.heap.size, 0, none⟩)]) (by kernel_rfl) rfl rfl rfl rfl (by kernel_rfl) (fun w => by kernel_rfl), ow_val hA (wants_none rfl) 20 (.pointer (some ⟨(w.heap.size + 1), 2, none⟩)) (by kernel_rfl) rfl rfl rfl rfl (by kernel_rfl) (fun w => by kernel_rfl), ow_elem hA (wants_none rfl) 21 (.int .u8 (x.b : Int)) (by kernel_rfl) rfl rfl rfl rfl (by kernel_rfl) 5 Tryd.isAgg5 (.tmp 20) rfl (⟨(w.heap.size + 1), 2, none⟩) (by kernel_rfl) (fun w1 hb => ((KX3.out.under hb).cell rfl)), ow_callV hA (wants_none rfl) 22 (.string (strOf (pickN ts.length x x.b))) (by kernel_rfl) rfl rfl rfl rfl (by kernel_rfl) 24 Tryd.f24 _ (.tmp 19) [.tmp 21] _ #[.pointer (some ⟨(w.heap.size + 1), 0, none⟩), .pointer (some ⟨w.heap.size, 0, none⟩)] [.int .u8 (x.b : Int), .pointer (some ⟨(w.heap.size + 1), 0, none⟩), .pointer (some ⟨w.heap.size, 0, none⟩)] rfl (by kernel_rfl) (by kernel_rfl) Tryd.func24 (by kernel_rfl) rfl (fun w4 hb4 => KPk.out w4 hb4 _ KOk.out.b), trivial⟩) ?_
  case hst1 => intro q hq; cases hq
  case hst2 => intro q hq; cases hq
  intro fv w4 hf hD b4
  simp only [putR, List.foldl_cons, List.foldl_nil, List.map_cons, List.map_nil, Act.put, List.setIfInBounds_toArray, List.set_cons_succ, List.set_cons_zero]
  clear hf hD
  have q4 := q3.trans (b4.mono q3.size)
  have KX4 : Kept _ := ⟨KX3.out.under b4⟩
  have KH4 : Kept _ := ⟨KH3.out.under b4⟩
  refine any1 (f := 1) (i := 8) rfl (by kernel_rfl) rfl ?_
  refine wv_valS (d := 8) rfl (by kernel_rfl) (.string (strOf (pickN ts.length x x.a))) (fun w => by kernel_rfl) ?_; simp only [Act.put, List.setIfInBounds_toArray, List.set_cons_succ, List.set_cons_zero]; refine wpList_nil ?_
  refine any1 (f := 0) (i := 9) rfl (by kernel_rfl) rfl ?_
  refine wv_valS (d := 9) rfl (by kernel_rfl) (.string (strOf (pickN ts.length x x.b))) (fun w => by kernel_rfl) ?_; simp only [Act.put, List.setIfInBounds_toArray, List.set_cons_succ, List.set_cons_zero]; refine wpList_nil ?_
  refine any0 (by kernel_rfl) ?_
  go_wp2_with (first | ((with_reducible refine wv_elem (d := 24) ?hd ?hw 9 ag_str (.tmp 23) ?ho (⟨(w.heap.size + 1), 4, none⟩) ?hx (.string (strOf x.s)) ?hc ?_); (case hd => rfl); (case hw => kernel_rfl); (case ho => rfl); (case hx => kernel_rfl); (case hc => exact (KX4.out.cell rfl)); simp only [Act.put, List.setIfInBounds_toArray, List.set_cons_succ, List.set_cons_zero]) | ((refine wl_bs1 (by kernel_rfl) (.tmp 24) rfl (x.s) (by kernel_rfl) ?_); have bwA : Below w4.heap.size w4 (w4.alloc (.cells #[.string (strOf x.s)] 9)) := (Below.refl _ _).alloc (Nat.le_refl _) _; have VA := new1 x.s w4; (generalize hwx : w4.alloc (.cells #[.string (strOf x.s)] 9) = wA at *); clear hwx; have KXA : Kept _ := ⟨KX4.out.under bwA⟩; have KHA : Kept _ := ⟨KH4.out.under bwA⟩; simp only [Act.put, List.setIfInBounds_toArray, List.set_cons_succ, List.set_cons_zero]) | ((with_reducible refine wv_elem (d := 27) ?hd ?hw 5 Tryd.isAgg5 (.tmp 26) ?ho (⟨(w.heap.size + 1), 0, none⟩) ?hx (.int .u8 (x.kind : Int)) ?hc ?_); (case hd => rfl); (case hw => kernel_rfl); (case ho => rfl); (case hx => kernel_rfl); (case hc => exact (KXA.out.cell rfl)); simp only [Act.put, List.setIfInBounds_toArray, List.set_cons_succ, List.set_cons_zero]) | ((with_reducible refine wv_val (d := 28) ?hd ?hw (.int .u8 ((1 : Nat) : Int)) ?hr ?_); (case hd => rfl); (case hw => kernel_rfl); (case hr => intro w; exact run_remU5 rfl (by kernel_rfl) KR.out w); simp only [Act.put, List.setIfInBounds_toArray, List.set_cons_succ, List.set_cons_zero]) | ((refine wl_bs1 (by kernel_rfl) (.tmp 31) rfl ((pickN ts.length x x.a)) (by kernel_rfl) ?_); have bwB : Below wA.heap.size wA (wA.alloc (.cells #[.string (strOf (pickN ts.length x x.a))] 9)) := (Below.refl _ _).alloc (Nat.le_refl _) _; have VB := new1 (pickN ts.length x x.a) wA; (generalize hwx : wA.alloc (.cells #[.string (strOf (pickN ts.length x x.a))] 9) = wB at *); clear hwx; have KXB : Kept _ := ⟨KXA.out.under bwB⟩; have KHB : Kept _ := ⟨KHA.out.under bwB⟩; simp only [Act.put, List.setIfInBounds_toArray, List.set_cons_succ, List.set_cons_zero]) | ((with_reducible refine wv_elem (d := 60) ?hd ?hw 27 Tryd.isAgg27 (.tmp 2) ?ho (⟨w.heap.size, 0, none⟩) ?hx (.slice p ts.length c) ?hc ?_); (case hd => rfl); (case hw => kernel_rfl); (case ho => rfl); (case hx => kernel_rfl); (case hc => exact (KHB.out.cell rfl)); simp only [Act.put, List.setIfInBounds_toArray, List.set_cons_succ, List.set_cons_zero]))
  have qA := q4.trans (bwA.mono q4.size)
  have qB := qA.trans (bwB.mono qA.size)
  refine (rPut (KTs.out.under qB) KT.out Kf.out VB Kl.out hn KP.out).mono ?_
  rintro e w6 ⟨⟨v', rfl, hT'⟩, q6⟩
  have q06 := qB.trans (q6.mono qB.size)
  have KT' : Kept _ := ⟨hT'.news qB.size (Below.refl _ _)⟩
  clear hT'
  go_wp2_with (first | ((with_reducible refine wv_val (d := 69) ?hd ?hw (.bool F) ?hr ?_); (case hd => rfl); (case hw => kernel_rfl); (case hr => intro w; exact run_sneq (m := []) rfl (by kernel_rfl) rfl KNB.out nil_bytes BF.out w); simp only [Act.put, List.setIfInBounds_toArray, List.set_cons_succ, List.set_cons_zero]))
  refine bodyPost_ret (v := .tuple #[v', .string (strOf N), .bool F]) (by simp [results, Tryd.results12, go_sem]) rfl ?_
  exact ⟨⟨v', rfl, KT'.out⟩, q06⟩

set_option maxRecDepth 100000 in
set_option maxHeartbeats 4000000 in
theorem theirs2 {D : Nat → Prop} {ts us : List TermL} {N : List Nat} {F : Bool} {x : ActL} {v : Value} {w : World} (hv : TsV D v w ts) (hT : Terms ts) (hx : ActOk x) (hn : ts.length < 1000000) (hk : x.kind % 5 = 2) (hN : actL ts x = (us, N, F)) :
    Calls Tryd.prog 12 #[v, .agg (actA x)] w fun e w' => RDh D w us N F e w' ∧ Below w.heap.size w w' := by
  have hmf : ∀ (fn : Fn) (first cap : Array Value) (w : World), (Instr.makeFunc fn first cap).run Tryd.prog w = .ok (.func fn first cap) w := fun _ _ _ _ => rfl
  have e1 := actL_dh (ts := ts) hk
  rw [hN] at e1
  obtain ⟨p, c, rfl, hc⟩ := ts_form hv rfl
  obtain ⟨AA, hAA⟩ : ∃ AA, AA = actA x := ⟨_, rfl⟩
  have KAA : Kept _ := ⟨hAA⟩
  rw [← hAA]
  have KTs : Kept _ := ⟨hv⟩
  have KT : Kept _ := ⟨hT⟩
  have KOk : Kept _ := ⟨hx⟩
  have KR : Kept (2 = x.kind % 5) := ⟨hk.symm⟩
  have Ke : Kept _ := ⟨e1⟩
  clear hv hT hx hAA hN hk e1
  go_enter Tryd.func12, Tryd.ntmps12
  go_wp2_with fail
  have q1 : Below w.heap.size w (w.alloc (.cells #[.slice p ts.length c] 27)) := (Below.refl _ _).alloc (Nat.le_refl _) _
  have q3 : Below w.heap.size w ((w.alloc (.cells #[.slice p ts.length c] 27)).alloc (.cells AA 30)) := q1.alloc q1.size _
  have h3 : Blk ((w.alloc (.cells #[.slice p ts.length c] 27)).alloc (.cells AA 30)) w.heap.size 27 #[.slice p ts.length c] := (blk_new w _ _).under ((Below.refl _ _).alloc (Nat.le_refl _) _)
  have g3 : Blk ((w.alloc (.cells #[.slice p ts.length c] 27)).alloc (.cells AA 30)) (w.heap.size + 1) 30 (actA x) := by
    rw [← KAA.out, ← alloc_size w (.cells #[.slice p ts.length c] 27)]
    exact blk_new _ _ _
  generalize (w.alloc (.cells #[.slice p ts.length c] 27)).alloc (.cells AA 30) = w3 at *
  have KX3 : Kept _ := ⟨g3⟩
  have KH3 : Kept _ := ⟨h3⟩
  have KPk : Kept _ := ⟨pickR_all g3 h3 hn⟩
  clear q1 h3 g3
  refine region_ownXL w3 8 [(15, .func (.func 24) #[] #[.pointer (some ⟨(w.heap.size + 1), 0, none⟩), .pointer (some ⟨w.heap.size, 0, none⟩)]), (16, .pointer (some ⟨(w.heap.size + 1), 1, none⟩)), (17, .int .u8 (x.a : Int)), (18, .string (strOf (pickN ts.length x x.a))), (19, .func (.func 24) #[] #[.pointer (some ⟨(w.heap.size + 1), 0, none⟩), .pointer (some ⟨w.heap.size, 0, none⟩)]), (20, .pointer (some ⟨(w.heap.size + 1), 2, none⟩)), (21, .int .u8 (x.b : Int)), (22, .string (strOf (pickN ts.length x x.b)))] [] [] [] rfl (by kernel_rfl) (by kernel_rfl) (by kernel_rfl) (by kernel_rfl) (by kernel_rfl) (by kernel_rfl) (by kernel_rfl) (by kernel_rfl) (by kernel_rfl) (by kernel_rfl) ?hst1 ?hst2 (Below.refl _ _) (fun hA => ⟨ow_val hA (wants_none rfl) 15 (.func (.func 24) #[] #[.pointer (some ⟨(w.heap.size + 1), 0, none⟩), .pointer (some ⟨w.heap.size, 0, none⟩)]) (by kernel_rfl) rfl rfl rfl rfl (by kernel_rfl) (fun w => by kernel_rfl), ow_val hA (wants_none rfl) 16 (.pointer (some ⟨(w.heap.size + 1), 1, none⟩)) (by kernel_rfl) rfl rfl rfl rfl (by kernel_rfl) (fun w => by kernel_rfl), ow_elem hA (wants_none rfl) 17 (.int .u8 (x.a : Int)) (by kernel_rfl) rfl rfl rfl rfl (by kernel_rfl) 5 Tryd.isAgg5 (.tmp 16) rfl (⟨(w.heap.size + 1), 1, none⟩) (by kernel_rfl) (fun w1 hb => ((KX3.out.under hb).cell rfl)), ow_callV hA (wants_none rfl) 18 (.string (strOf (pickN ts.length x x.a))) (by kernel_rfl) rfl rfl rfl rfl (by kernel_rfl) 24 Tryd.f24 _ (.tmp 15) [.tmp 17] _ #[.pointer (some ⟨(w.heap.size + 1), 0, none⟩), .pointer (some ⟨w.heap.size, 0, none⟩)] [.int .u8 (x.a : Int), .pointer (some ⟨(w.heap.size + 1), 0, none⟩), .pointer (some ⟨w.heap.size, 0, none⟩)] rfl (by kernel_rfl) (by kernel_rfl) Tryd.func24 (by kernel_rfl) rfl (fun w4 hb4 => KPk.out w4 hb4 _ KOk.out.a), ow_val hA (wants_none rfl) 19 (.func (.func 24) #[] #[.pointer (some ⟨(w.heap.size + 1), 0, none⟩), .pointer (some ⟨w.heap.size, 0, none⟩)]) (by kernel_rfl) rfl rfl rfl rfl (by kernel_rfl) (fun w => by kernel_rfl), ow_val hA (wants_none rfl) 20 (.pointer (some ⟨(w.heap.size + 1), 2, none⟩)) (by kernel_rfl) rfl rfl rfl rfl (by kernel_rfl) (fun w => by kernel_rfl), ow_elem hA (wants_none rfl) 21 (.int .u8 (x.b : Int)) (by kernel_rfl) rfl rfl rfl rfl (by kernel_rfl) 5 Tryd.isAgg5 (.tmp 20) rfl (⟨(w.heap.size + 1), 2, none⟩) (by kernel_rfl) (fun w1 hb => ((KX3.out.under hb).cell rfl)), ow_callV hA (wants_none rfl) 22 (.string (strOf (pickN ts.length x x.b))) (by kernel_rfl) rfl rfl rfl rfl (by kernel_rfl) 24 Tryd.f24 _ (.tmp 19) [.tmp 21] _ #[.pointer (some ⟨(w.heap.size + 1), 0, none⟩), .pointer (some ⟨w.heap.size, 0, none⟩)] [.int .u8 (x.b : Int), .pointer (some ⟨(w.heap.size + 1), 0, none⟩), .pointer (some ⟨w.heap.size, 0, none⟩)] rfl (by kernel_rfl) (by kernel_rfl) Tryd.func24 (by kernel_rfl) rfl (fun w4 hb4 => KPk.out w4 hb4 _ KOk.out.b), trivial⟩) ?_
  case hst1 => intro q hq; cases hq
  case hst2 => intro q hq; cases hq
  intro fv w4 hf hD b4
  simp only [putR, List.foldl_cons, List.foldl_nil, List.map_cons, List.map_nil, Act.put, List.setIfInBounds_toArray, List.set_cons_succ, List.set_cons_zero]
  clear hf hD
  have q4 := q3.trans (b4.mono q3.size)
  have KX4 : Kept _ := ⟨KX3.out.under b4⟩
  have KH4 : Kept _ := ⟨KH3.out.under b4⟩
  refine any1 (f := 1) (i := 8) rfl (by kernel_rfl) rfl ?_
  refine wv_valS (d := 8) rfl (by kernel_rfl) (.string (strOf (pickN ts.length x x.a))) (fun w => by kernel_rfl) ?_; simp only [Act.put, List.setIfInBounds_toArray, List.set_cons_succ, List.set_cons_zero]; refine wpList_nil ?_
  refine any1 (f := 0) (i := 9) rfl (by kernel_rfl) rfl ?_
  refine wv_valS (d := 9) rfl (by kernel_rfl) (.string (strOf (pickN ts.length x x.b))) (fun w => by kernel_rfl) ?_; simp only [Act.put, List.setIfInBounds_toArray, List.set_cons_succ, List.set_cons_zero]; refine wpList_nil ?_
  refine any0 (by kernel_rfl) ?_
  go_wp2_with (first | ((with_reducible refine wv_elem (d := 24) ?hd ?hw 9 ag_str (.tmp 23) ?ho (⟨(w.heap.size + 1), 4, none⟩) ?hx (.string (strOf x.s)) ?hc ?_); (case hd => rfl); (case hw => kernel_rfl); (case ho => rfl); (case hx => kernel_rfl); (case hc => exact (KX4.out.cell rfl)); simp only [Act.put, List.setIfInBounds_toArray, List.set_cons_succ, List.set_cons_zero]) | ((refine wl_bs1 (by kernel_rfl) (.tmp 24) rfl (x.s) (by kernel_rfl) ?_); have bwA : Below w4.heap.size w4 (w4.alloc (.cells #[.string (strOf x.s)] 9)) := (Below.refl _ _).alloc (Nat.le_refl _) _; have VA := new1 x.s w4; (generalize hwx : w4.alloc (.cells #[.string (strOf x.s)] 9) = wA at *); clear hwx; have KXA : Kept _ := ⟨KX4.out.under bwA⟩; have KHA : Kept _ := ⟨KH4.out.under bwA⟩; simp only [Act.put, List.setIfInBounds_toArray, List.set_cons_succ, List.set_cons_zero]) | ((with_reducible refine wv_elem (d := 27) ?hd ?hw 5 Tryd.isAgg5 (.tmp 26) ?ho (⟨(w.heap.size + 1), 0, none⟩) ?hx (.int .u8 (x.kind : Int)) ?hc ?_); (case hd => rfl); (case hw => kernel_rfl); (case ho => rfl); (case hx => kernel_rfl); (case hc => exact (KXA.out.cell rfl)); simp only [Act.put, List.setIfInBounds_toArray, List.set_cons_succ, List.set_cons_zero]) | ((with_reducible refine wv_val (d := 28) ?hd ?hw (.int .u8 ((2 : Nat) : Int)) ?hr ?_); (case hd => rfl); (case hw => kernel_rfl); (case hr => intro w; exact run_remU5 rfl (by kernel_rfl) KR.out w); simp only [Act.put, List.setIfInBounds_toArray, List.set_cons_succ, List.set_cons_zero]) | ((with_reducible refine wv_elem (d := 35) ?hd ?hw 27 Tryd.isAgg27 (.tmp 2) ?ho (⟨w.heap.size, 0, none⟩) ?hx (.slice p ts.length c) ?hc ?_); (case hd => rfl); (case hw => kernel_rfl); (case ho => rfl); (case hx => kernel_rfl); (case hc => exact (KHA.out.cell rfl)); simp only [Act.put, List.setIfInBounds_toArray, List.set_cons_succ, List.set_cons_zero]))
  have qA := q4.trans (bwA.mono q4.size)
  refine (rDh (KTs.out.under qA) KT.out (pick_bytes KOk.out _ _).1 (pick_bytes KOk.out _ _).1 (pick_bytes KOk.out _ _).2 hn Ke.out.symm).mono ?_
  rintro e w6 ⟨⟨v', rfl, hT'⟩, q6⟩
  have q06 := qA.trans (q6.mono qA.size)
  have KT' : Kept _ := ⟨hT'.news qA.size (Below.refl _ _)⟩
  clear hT'
  go_wp2_with fail
  refine bodyPost_ret (v := .tuple #[v', .string (strOf N), .bool F]) (by simp [results, Tryd.results12, go_sem]) rfl ?_
  exact ⟨⟨v', rfl, KT'.out⟩, q06⟩

set_option maxRecDepth 100000 in
set_option maxHeartbeats 4000000 in
theorem theirs3 {D : Nat → Prop} {ts us : List TermL} {N : List Nat} {F : Bool} {x : ActL} {v : Value} {w : World} (hv : TsV D v w ts) (hT : Terms ts) (hx : ActOk x) (hn : ts.length < 1000000) (hk : x.kind % 5 = 3) (hN : actL ts x = (us, N, F)) :
    Calls Tryd.prog 12 #[v, .agg (actA x)] w fun e w' => RDh D w us N F e w' ∧ Below w.heap.size w w' := by
  have hmf : ∀ (fn : Fn) (first cap : Array Value) (w : World), (Instr.makeFunc fn first cap).run Tryd.prog w = .ok (.func fn first cap) w := fun _ _ _ _ => rfl
  have e1 := actL_hash (ts := ts) hk
  rw [hN] at e1
  obtain ⟨p, c, rfl, hc⟩ := ts_form hv rfl
  obtain ⟨AA, hAA⟩ : ∃ AA, AA = actA x := ⟨_, rfl⟩
  have KAA : Kept _ := ⟨hAA⟩
  rw [← hAA]
  have KTs : Kept _ := ⟨hv⟩
  have KT : Kept _ := ⟨hT⟩
  have KOk : Kept _ := ⟨hx⟩
  have KR : Kept (3 = x.kind % 5) := ⟨hk.symm⟩
  have e2 : us = (putL ts (4, [x.s, (pickN ts.length x x.a), (pickN ts.length x x.b)])).1 := congrArg (·.1) e1
  have e3 : N = (putL ts (4, [x.s, (pickN ts.length x x.a), (pickN ts.length x x.b)])).2 := congrArg (·.2.1) e1
  have e4 : F = decide ((putL ts (4, [x.s, (pickN ts.length x x.a), (pickN ts.length x x.b)])).2 ≠ []) := congrArg (·.2.2) e1
  have KP : Kept (putL ts (4, [x.s, (pickN ts.length x x.a), (pickN ts.length x x.b)]) = (us, N)) := ⟨Prod.ext e2.symm e3.symm⟩
  have KNB : Kept (Bytes N) := ⟨by rw [e3]; exact putL_bytes _ _⟩
  have BF : Kept (F = !decide (N = [])) := ⟨by rw [e4, ← e3]; exact decide_not⟩
  have Kf : Kept (Formed (4, [x.s, (pickN ts.length x x.a), (pickN ts.length x x.b)])) := ⟨⟨fun l h => by
        simp at h
        rcases h with rfl | rfl | rfl
        · exact KOk.out.s
        · exact (pick_bytes KOk.out _ _).1
        · exact (pick_bytes KOk.out _ _).1, .inr (.inr (.inr (.inl rfl)))⟩⟩
  have Kl : Kept (∀ l ∈ [x.s, (pickN ts.length x x.a), (pickN ts.length x x.b)], l.length ≤ maxLen) := ⟨fun l h => by
        simp at h
        rcases h with rfl | rfl | rfl
        · exact KOk.out.len
        · exact (pick_bytes KOk.out _ _).2
        · exact (pick_bytes KOk.out _ _).2⟩
  clear e2 e3 e4
  have Ke : Kept _ := ⟨e1⟩
  clear hv hT hx hAA hN hk e1
  go_enter Tryd.func12, Tryd.ntmps12
  go_wp2_with fail
  have q1 : Below w.heap.size w (w.alloc (.cells #[.slice p ts.length c] 27)) := (Below.refl _ _).alloc (Nat.le_refl _) _
  have q3 : Below w.heap.size w ((w.alloc (.cells #[.slice p ts.length c] 27)).alloc (.cells AA 30)) := q1.alloc q1.size _
  have h3 : Blk ((w.alloc (.cells #[.slice p ts.length c] 27)).alloc (.cells AA 30)) w.heap.size 27 #[.slice p ts.length c] := (blk_new w _ _).under ((Below.refl _ _).alloc (Nat.le_refl _) _)
  have g3 : Blk ((w.alloc (.cells #[.slice p ts.length c] 27)).alloc (.cells AA 30)) (w.heap.size + 1) 30 (actA x) := by
    rw [← KAA.out, ← alloc_size w (.cells #[.slice p ts.length c] 27)]
    exact blk_new _ _ _
  generalize (w.alloc (.cells #[.slice p ts.length c] 27)).alloc (.cells AA 30) = w3 at *
  have KX3 : Kept _ := ⟨g3⟩
  have KH3 : Kept _ := ⟨h3⟩
  have KPk : Kept _ := ⟨pickR_all g3 h3 hn⟩
  clear q1 h3 g3
  refine region_ownXL w3 8 [(15, .func (.func 24) #[] #[.pointer (some ⟨(w.heap.size + 1), 0, none⟩), .pointer (some ⟨w.heap.size, 0, none⟩)]), (16, .pointer (some ⟨(w.heap.size + 1), 1, none⟩)), (17, .int .u8 (x.a : Int)), (18, .string (strOf (pickN ts.length x x.a))), (19, .func (.func 24) #[] #[.pointer (some ⟨(w.heap.size + 1), 0, none⟩), .pointer (some ⟨w.heap.size, 0, none⟩)]), (20, .pointer (some ⟨(w.heap.size + 1), 2, none⟩)), (21, .int .u8 (x.b : Int)), (22, .string (strOf (pickN ts.length x x.b)))] [] [] [] rfl (by kernel_rfl) (by kernel_rfl) (by kernel_rfl) (by kernel_rfl) (by kernel_rfl) (by kernel_rfl) (by kernel_rfl) (by kernel_rfl) (by kernel_rfl) (by kernel_rfl) ?hst1 ?hst2 (Below.refl _ _) (fun hA => ⟨ow_val hA (wants_none rfl) 15 (.func (.func 24) #[] #[.pointer (some ⟨(w.heap.size + 1), 0, none⟩), .pointer (some ⟨w.heap.size, 0, none⟩)]) (by kernel_rfl) rfl rfl rfl rfl (by kernel_rfl) (fun w => by kernel_rfl), ow_val hA (wants_none rfl) 16 (.pointer (some ⟨(w.heap.size + 1), 1, none⟩)) (by kernel_rfl) rfl rfl rfl rfl (by kernel_rfl) (fun w => by kernel_rfl), ow_elem hA (wants_none rfl) 17 (.int .u8 (x.a : Int)) (by kernel_rfl) rfl rfl rfl rfl (by kernel_rfl) 5 Tryd.isAgg5 (.tmp 16) rfl (⟨(w.heap.size + 1), 1, none⟩) (by kernel_rfl) (fun w1 hb => ((KX3.out.under hb).cell rfl)), ow_callV hA (wants_none rfl) 18 (.string (strOf (pickN ts.length x x.a))) (by kernel_rfl) rfl rfl rfl rfl (by kernel_rfl) 24 Tryd.f24 _ (.tmp 15) [.tmp 17] _ #[.pointer (some ⟨(w.heap.size + 1), 0, none⟩), .pointer (some ⟨w.heap.size, 0, none⟩)] [.int .u8 (x.a : Int), .pointer (some ⟨(w.heap.size + 1), 0, none⟩), .pointer (some ⟨w.heap.size, 0, none⟩)] rfl (by kernel_rfl) (by kernel_rfl) Tryd.func24 (by kernel_rfl) rfl (fun w4 hb4 => KPk.out w4 hb4 _ KOk.out.a), ow_val hA (wants_none rfl) 19 (.func (.func 24) #[] #[.pointer (some ⟨(w.heap.size + 1), 0, none⟩), .pointer (some ⟨w.heap.size, 0, none⟩)]) (by kernel_rfl) rfl rfl rfl rfl (by kernel_rfl) (fun w => by kernel_rfl), ow_val hA (wants_none rfl) 20 (.pointer (some ⟨(w.heap.size + 1), 2, none⟩)) (by kernel_rfl) rfl rfl rfl rfl (by kernel_rfl) (fun w => by kernel_rfl), ow_elem hA (wants_none rfl) 21 (.int .u8 (x.b : Int)) (by kernel_rfl) rfl rfl rfl rfl (by kernel_rfl) 5 Tryd.isAgg5 (.tmp 20) rfl (⟨(w.heap.size + 1), 2, none⟩) (by kernel_rfl) (fun w1 hb => ((KX3.out.under hb).cell rfl)), ow_callV hA (wants_none rfl) 22 (.string (strOf (pickN ts.length x x.b))) (by kernel_rfl) rfl rfl rfl rfl (by kernel_rfl) 24 Tryd.f24 _ (.tmp 19) [.tmp 21] _ #[.pointer (some ⟨(w.heap.size + 1), 0, none⟩), .pointer (some ⟨w.heap.size, 0, none⟩)] [.int .u8 (x.b : Int), .pointer (some ⟨(w.heap.size + 1), 0, none⟩), .pointer (some ⟨w.heap.size, 0, none⟩)] rfl (by kernel_rfl) (by kernel_rfl) Tryd.func24 (by kernel_rfl) rfl (fun w4 hb4 => KPk.out w4 hb4 _ KOk.out.b), trivial⟩) ?_
  case hst1 => intro q hq; cases hq
  case hst2 => intro q hq; cases hq
  intro fv w4 hf hD b4
  simp only [putR, List.foldl_cons, List.foldl_nil, List.map_cons, List.map_nil, Act.put, List.setIfInBounds_toArray, List.set_cons_succ, List.set_cons_zero]
  clear hf hD
  have q4 := q3.trans (b4.mono q3.size)
  have KX4 : Kept _ := ⟨KX3.out.under b4⟩
  have KH4 : Kept _ := ⟨KH3.out.under b4⟩
  refine any1 (f := 1) (i := 8) rfl (by kernel_rfl) rfl ?_
  refine wv_valS (d := 8) rfl (by kernel_rfl) (.string (strOf (pickN ts.length x x.a))) (fun w => by kernel_rfl) ?_; simp only [Act.put, List.setIfInBounds_toArray, List.set_cons_succ, List.set_cons_zero]; refine wpList_nil ?_
  refine any1 (f := 0) (i := 9) rfl (by kernel_rfl) rfl ?_
  refine wv_valS (d := 9) rfl (by kernel_rfl) (.string (strOf (pickN ts.length x x.b))) (fun w => by kernel_rfl) ?_; simp only [Act.put, List.setIfInBounds_toArray, List.set_cons_succ, List.set_cons_zero]; refine wpList_nil ?_
  refine any0 (by kernel_rfl) ?_
  go_wp2_with (first | ((with_reducible refine wv_elem (d := 24) ?hd ?hw 9 ag_str (.tmp 23) ?ho (⟨(w.heap.size + 1), 4, none⟩) ?hx (.string (strOf x.s)) ?hc ?_); (case hd => rfl); (case hw => kernel_rfl); (case ho => rfl); (case hx => kernel_rfl); (case hc => exact (KX4.out.cell rfl)); simp only [Act.put, List.setIfInBounds_toArray, List.set_cons_succ, List.set_cons_zero]) | ((refine wl_bs1 (by kernel_rfl) (.tmp 24) rfl (x.s) (by kernel_rfl) ?_); have bwA : Below w4.heap.size w4 (w4.alloc (.cells #[.string (strOf x.s)] 9)) := (Below.refl _ _).alloc (Nat.le_refl _) _; have VA := new1 x.s w4; (generalize hwx : w4.alloc (.cells #[.string (strOf x.s)] 9) = wA at *); clear hwx; have KXA : Kept _ := ⟨KX4.out.under bwA⟩; have KHA : Kept _ := ⟨KH4.out.under bwA⟩; simp only [Act.put, List.setIfInBounds_toArray, List.set_cons_succ, List.set_cons_zero]) | ((with_reducible refine wv_elem (d := 27) ?hd ?hw 5 Tryd.isAgg5 (.tmp 26) ?ho (⟨(w.heap.size + 1), 0, none⟩) ?hx (.int .u8 (x.kind : Int)) ?hc ?_); (case hd => rfl); (case hw => kernel_rfl); (case ho => rfl); (case hx => kernel_rfl); (case hc => exact (KXA.out.cell rfl)); simp only [Act.put, List.setIfInBounds_toArray, List.set_cons_succ, List.set_cons_zero]) | ((with_reducible refine wv_val (d := 28) ?hd ?hw (.int .u8 ((3 : Nat) : Int)) ?hr ?_); (case hd => rfl); (case hw => kernel_rfl); (case hr => intro w; exact run_remU5 rfl (by kernel_rfl) KR.out w); simp only [Act.put, List.setIfInBounds_toArray, List.set_cons_succ, List.set_cons_zero]) | ((with_reducible refine wv_elem (d := 45) ?hd ?hw 9 ag_str (.tmp 44) ?ho (⟨(w.heap.size + 1), 4, none⟩) ?hx (.string (strOf x.s)) ?hc ?_); (case hd => rfl); (case hw => kernel_rfl); (case ho => rfl); (case hx => kernel_rfl); (case hc => exact (KXA.out.cell rfl)); simp only [Act.put, List.setIfInBounds_toArray, List.set_cons_succ, List.set_cons_zero]) | ((refine wl_bs3 (by kernel_rfl) (.tmp 45) (.tmp 46) (.tmp 47) rfl (x.s) ((pickN ts.length x x.a)) ((pickN ts.length x x.b)) (by kernel_rfl) (by kernel_rfl) (by kernel_rfl) ?_); have bwB : Below wA.heap.size wA (wA.alloc (.cells #[.string (strOf x.s), .string (strOf (pickN ts.length x x.a)), .string (strOf (pickN ts.length x x.b))] 9)) := (Below.refl _ _).alloc (Nat.le_refl _) _; have VB := new3 x.s (pickN ts.length x x.a) (pickN ts.length x x.b) wA; (generalize hwx : wA.alloc (.cells #[.string (strOf x.s), .string (strOf (pickN ts.length x x.a)), .string (strOf (pickN ts.length x x.b))] 9) = wB at *); clear hwx; have KXB : Kept _ := ⟨KXA.out.under bwB⟩; have KHB : Kept _ := ⟨KHA.out.under bwB⟩; simp only [Act.put, List.setIfInBounds_toArray, List.set_cons_succ, List.set_cons_zero]) | ((with_reducible refine wv_elem (d := 60) ?hd ?hw 27 Tryd.isAgg27 (.tmp 2) ?ho (⟨w.heap.size, 0, none⟩) ?hx (.slice p ts.length c) ?hc ?_); (case hd => rfl); (case hw => kernel_rfl); (case ho => rfl); (case hx => kernel_rfl); (case hc => exact (KHB.out.cell rfl)); simp only [Act.put, List.setIfInBounds_toArray, List.set_cons_succ, List.set_cons_zero]))
  have qA := q4.trans (bwA.mono q4.size)
  have qB := qA.trans (bwB.mono qA.size)
  refine (rPut (KTs.out.under qB) KT.out Kf.out VB Kl.out hn KP.out).mono ?_
  rintro e w6 ⟨⟨v', rfl, hT'⟩, q6⟩
  have q06 := qB.trans (q6.mono qB.size)
  have KT' : Kept _ := ⟨hT'.news qB.size (Below.refl _ _)⟩
  clear hT'
  go_wp2_with (first | ((with_reducible refine wv_val (d := 69) ?hd ?hw (.bool F) ?hr ?_); (case hd => rfl); (case hw => kernel_rfl); (case hr => intro w; exact run_sneq (m := []) rfl (by kernel_rfl) rfl KNB.out nil_bytes BF.out w); simp only [Act.put, List.setIfInBounds_toArray, List.set_cons_succ, List.set_cons_zero]))
  refine bodyPost_ret (v := .tuple #[v', .string (strOf N), .bool F]) (by simp [results, Tryd.results12, go_sem]) rfl ?_
  exact ⟨⟨v', rfl, KT'.out⟩, q06⟩

set_option maxRecDepth 100000 in
set_option maxHeartbeats 4000000 in
theorem theirs4 {D : Nat → Prop} {ts us : List TermL} {N : List Nat} {F : Bool} {x : ActL} {v : Value} {w : World} (hv : TsV D v w ts) (hT : Terms ts) (hx : ActOk x) (hn : ts.length < 1000000) (hk : x.kind % 5 = 4) (hN : actL ts x = (us, N, F)) :
    Calls Tryd.prog 12 #[v, .agg (actA x)] w fun e w' => RDh D w us N F e w' ∧ Below w.heap.size w w' := by
  have hmf : ∀ (fn : Fn) (first cap : Array Value) (w : World), (Instr.makeFunc fn first cap).run Tryd.prog w = .ok (.func fn first cap) w := fun _ _ _ _ => rfl
  have e1 := actL_seal (ts := ts) hk
  rw [hN] at e1
  obtain ⟨p, c, rfl, hc⟩ := ts_form hv rfl
  obtain ⟨AA, hAA⟩ : ∃ AA, AA = actA x := ⟨_, rfl⟩
  have KAA : Kept _ := ⟨hAA⟩
  rw [← hAA]
  have KTs : Kept _ := ⟨hv⟩
  have KT : Kept _ := ⟨hT⟩
  have KOk : Kept _ := ⟨hx⟩
  have KR : Kept (4 = x.kind % 5) := ⟨hk.symm⟩
  have e2 : us = (putL ts (5, [(pickN ts.length x x.a), (numL x.n), x.s, (pickN ts.length x x.b)])).1 := congrArg (·.1) e1
  have e3 : N = (putL ts (5, [(pickN ts.length x x.a), (numL x.n), x.s, (pickN ts.length x x.b)])).2 := congrArg (·.2.1) e1
  have e4 : F = decide ((putL ts (5, [(pickN ts.length x x.a), (numL x.n), x.s, (pickN ts.length x x.b)])).2 ≠ []) := congrArg (·.2.2) e1
  have KP : Kept (putL ts (5, [(pickN ts.length x x.a), (numL x.n), x.s, (pickN ts.length x x.b)]) = (us, N)) := ⟨Prod.ext e2.symm e3.symm⟩
  have KNB : Kept (Bytes N) := ⟨by rw [e3]; exact putL_bytes _ _⟩
  have BF : Kept (F = !decide (N = [])) := ⟨by rw [e4, ← e3]; exact decide_not⟩
  have Kf : Kept (Formed (5, [(pickN ts.length x x.a), (numL x.n), x.s, (pickN ts.length x x.b)])) := ⟨⟨fun l h => by
        simp at h
        rcases h with rfl | rfl | rfl | rfl
        · exact (pick_bytes KOk.out _ _).1
        · exact numL_bytes _
        · exact KOk.out.s
        · exact (pick_bytes KOk.out _ _).1, .inr (.inr (.inr (.inr rfl)))⟩⟩
  have Kl : Kept (∀ l ∈ [(pickN ts.length x x.a), (numL x.n), x.s, (pickN ts.length x x.b)], l.length ≤ maxLen) := ⟨fun l h => by
        simp at h
        rcases h with rfl | rfl | rfl | rfl
        · exact (pick_bytes KOk.out _ _).2
        · exact Nat.le_trans (numL_len _) (by decide)
        · exact KOk.out.len
        · exact (pick_bytes KOk.out _ _).2⟩
  clear e2 e3 e4
  have Ke : Kept _ := ⟨e1⟩
  clear hv hT hx hAA hN hk e1
  go_enter Tryd.func12, Tryd.ntmps12
  go_wp2_with fail
  have q1 : Below w.heap.size w (w.alloc (.cells #[.slice p ts.length c] 27)) := (Below.refl _ _).alloc (Nat.le_refl _) _
  have q3 : Below w.heap.size w ((w.alloc (.cells #[.slice p ts.length c] 27)).alloc (.cells AA 30)) := q1.alloc q1.size _
  have h3 : Blk ((w.alloc (.cells #[.slice p ts.length c] 27)).alloc (.cells AA 30)) w.heap.size 27 #[.slice p ts.length c] := (blk_new w _ _).under ((Below.refl _ _).alloc (Nat.le_refl _) _)
  have g3 : Blk ((w.alloc (.cells #[.slice p ts.length c] 27)).alloc (.cells AA 30)) (w.heap.size + 1) 30 (actA x) := by
    rw [← KAA.out, ← alloc_size w (.cells #[.slice p ts.length c] 27)]
    exact blk_new _ _ _
  generalize (w.alloc (.cells #[.slice p ts.length c] 27)).alloc (.cells AA 30) = w3 at *
  have KX3 : Kept _ := ⟨g3⟩
  have KH3 : Kept _ := ⟨h3⟩
  have KPk : Kept _ := ⟨pickR_all g3 h3 hn⟩
  clear q1 h3 g3
  refine region_ownXL w3 8 [(15, .func (.func 24) #[] #[.pointer (some ⟨(w.heap.size + 1), 0, none⟩), .pointer (some ⟨w.heap.size, 0, none⟩)]), (16, .pointer (some ⟨(w.heap.size + 1), 1, none⟩)), (17, .int .u8 (x.a : Int)), (18, .string (strOf (pickN ts.length x x.a))), (19, .func (.func 24) #[] #[.pointer (some ⟨(w.heap.size + 1), 0, none⟩), .pointer (some ⟨w.heap.size, 0, none⟩)]), (20, .pointer (some ⟨(w.heap.size + 1), 2, none⟩)), (21, .int .u8 (x.b : Int)), (22, .string (strOf (pickN ts.length x x.b)))] [] [] [] rfl (by kernel_rfl) (by kernel_rfl) (by kernel_rfl) (by kernel_rfl) (by kernel_rfl) (by kernel_rfl) (by kernel_rfl) (by kernel_rfl) (by kernel_rfl) (by kernel_rfl) ?hst1 ?hst2 (Below.refl _ _) (fun hA => ⟨ow_val hA (wants_none rfl) 15 (.func (.func 24) #[] #[.pointer (some ⟨(w.heap.size + 1), 0, none⟩), .pointer (some ⟨w.heap.size, 0, none⟩)]) (by kernel_rfl) rfl rfl rfl rfl (by kernel_rfl) (fun w => by kernel_rfl), ow_val hA (wants_none rfl) 16 (.pointer (some ⟨(w.heap.size + 1), 1, none⟩)) (by kernel_rfl) rfl rfl rfl rfl (by kernel_rfl) (fun w => by kernel_rfl), ow_elem hA (wants_none rfl) 17 (.int .u8 (x.a : Int)) (by kernel_rfl) rfl rfl rfl rfl (by kernel_rfl) 5 Tryd.isAgg5 (.tmp 16) rfl (⟨(w.heap.size + 1), 1, none⟩) (by kernel_rfl) (fun w1 hb => ((KX3.out.under hb).cell rfl)), ow_callV hA (wants_none rfl) 18 (.string (strOf (pickN ts.length x x.a))) (by kernel_rfl) rfl rfl rfl rfl (by kernel_rfl) 24 Tryd.f24 _ (.tmp 15) [.tmp 17] _ #[.pointer (some ⟨(w.heap.size + 1), 0, none⟩), .pointer (some ⟨w.heap.size, 0, none⟩)] [.int .u8 (x.a : Int), .pointer (some ⟨(w.heap.size + 1), 0, none⟩), .pointer (some ⟨w.heap.size, 0, none⟩)] rfl (by kernel_rfl) (by kernel_rfl) Tryd.func24 (by kernel_rfl) rfl (fun w4 hb4 => KPk.out w4 hb4 _ KOk.out.a), ow_val hA (wants_none rfl) 19 (.func (.func 24) #[] #[.pointer (some ⟨(w.heap.size + 1), 0, none⟩), .pointer (some ⟨w.heap.size, 0, none⟩)]) (by kernel_rfl) rfl rfl rfl rfl (by kernel_rfl) (fun w => by kernel_rfl), ow_val hA (wants_none rfl) 20 (.pointer (some ⟨(w.heap.size + 1), 2, none⟩)) (by kernel_rfl) rfl rfl rfl rfl (by kernel_rfl) (fun w => by kernel_rfl), ow_elem hA (wants_none rfl) 21 (.int .u8 (x.b : Int)) (by kernel_rfl) rfl rfl rfl rfl (by kernel_rfl) 5 Tryd.isAgg5 (.tmp 20) rfl (⟨(w.heap.size + 1), 2, none⟩) (by kernel_rfl) (fun w1 hb => ((KX3.out.under hb).cell rfl)), ow_callV hA (wants_none rfl) 22 (.string (strOf (pickN ts.length x x.b))) (by kernel_rfl) rfl rfl rfl rfl (by kernel_rfl) 24 Tryd.f24 _ (.tmp 19) [.tmp 21] _ #[.pointer (some ⟨(w.heap.size + 1), 0, none⟩), .pointer (some ⟨w.heap.size, 0, none⟩)] [.int .u8 (x.b : Int), .pointer (some ⟨(w.heap.size + 1), 0, none⟩), .pointer (some ⟨w.heap.size, 0, none⟩)] rfl (by kernel_rfl) (by kernel_rfl) Tryd.func24 (by kernel_rfl) rfl (fun w4 hb4 => KPk.out w4 hb4 _ KOk.out.b), trivial⟩) ?_
  case hst1 => intro q hq; cases hq
  case hst2 => intro q hq; cases hq
  intro fv w4 hf hD b4
  simp only [putR, List.foldl_cons, List.foldl_nil, List.map_cons, List.map_nil, Act.put, List.setIfInBounds_toArray, List.set_cons_succ, List.set_cons_zero]
  clear hf hD
  have q4 := q3.trans (b4.mono q3.size)
  have KX4 : Kept _ := ⟨KX3.out.under b4⟩
  have KH4 : Kept _ := ⟨KH3.out.under b4⟩
  refine any1 (f := 1) (i := 8) rfl (by kernel_rfl) rfl ?_
  refine wv_valS (d := 8) rfl (by kernel_rfl) (.string (strOf (pickN ts.length x x.a))) (fun w => by kernel_rfl) ?_; simp only [Act.put, List.setIfInBounds_toArray, List.set_cons_succ, List.set_cons_zero]; refine wpList_nil ?_
  refine any1 (f := 0) (i := 9) rfl (by kernel_rfl) rfl ?_
  refine wv_valS (d := 9) rfl (by kernel_rfl) (.string (strOf (pickN ts.length x x.b))) (fun w => by kernel_rfl) ?_; simp only [Act.put, List.setIfInBounds_toArray, List.set_cons_succ, List.set_cons_zero]; refine wpList_nil ?_
  refine any0 (by kernel_rfl) ?_
  go_wp2_with (first | ((with_reducible refine wv_elem (d := 24) ?hd ?hw 9 ag_str (.tmp 23) ?ho (⟨(w.heap.size + 1), 4, none⟩) ?hx (.string (strOf x.s)) ?hc ?_); (case hd => rfl); (case hw => kernel_rfl); (case ho => rfl); (case hx => kernel_rfl); (case hc => exact (KX4.out.cell rfl)); simp only [Act.put, List.setIfInBounds_toArray, List.set_cons_succ, List.set_cons_zero]) | ((refine wl_bs1 (by kernel_rfl) (.tmp 24) rfl (x.s) (by kernel_rfl) ?_); have bwA : Below w4.heap.size w4 (w4.alloc (.cells #[.string (strOf x.s)] 9)) := (Below.refl _ _).alloc (Nat.le_refl _) _; have VA := new1 x.s w4; (generalize hwx : w4.alloc (.cells #[.string (strOf x.s)] 9) = wA at *); clear hwx; have KXA : Kept _ := ⟨KX4.out.under bwA⟩; have KHA : Kept _ := ⟨KH4.out.under bwA⟩; simp only [Act.put, List.setIfInBounds_toArray, List.set_cons_succ, List.set_cons_zero]) | ((with_reducible refine wv_elem (d := 27) ?hd ?hw 5 Tryd.isAgg5 (.tmp 26) ?ho (⟨(w.heap.size + 1), 0, none⟩) ?hx (.int .u8 (x.kind : Int)) ?hc ?_); (case hd => rfl); (case hw => kernel_rfl); (case ho => rfl); (case hx => kernel_rfl); (case hc => exact (KXA.out.cell rfl)); simp only [Act.put, List.setIfInBounds_toArray, List.set_cons_succ, List.set_cons_zero]) | ((with_reducible refine wv_val (d := 28) ?hd ?hw (.int .u8 ((4 : Nat) : Int)) ?hr ?_); (case hd => rfl); (case hw => kernel_rfl); (case hr => intro w; exact run_remU5 rfl (by kernel_rfl) KR.out w); simp only [Act.put, List.setIfInBounds_toArray, List.set_cons_succ, List.set_cons_zero]))
  refine region_ownNL wA 7 [(51, .string (strOf (pickN ts.length x x.a))), (52, .pointer (some ⟨(w.heap.size + 1), 3, none⟩)), (53, .int .u64 (x.n : Int)), (54, .string (strOf (numL x.n))), (55, .pointer (some ⟨(w.heap.size + 1), 4, none⟩)), (56, .string (strOf x.s)), (57, .string (strOf (pickN ts.length x x.b)))] [] [] [] rfl (by kernel_rfl) (by kernel_rfl) (by kernel_rfl) (by kernel_rfl) (by kernel_rfl) (by kernel_rfl) (by kernel_rfl) (by kernel_rfl) (by kernel_rfl) (by kernel_rfl) (by kernel_rfl) ?hst1 ?hst2 (Below.refl _ _) (fun hA => ⟨ow_val hA (wants_none rfl) 51 (.string (strOf (pickN ts.length x x.a))) (by kernel_rfl) rfl rfl rfl rfl (by kernel_rfl) (fun w => by kernel_rfl), ow_val hA (wants_none rfl) 52 (.pointer (some ⟨(w.heap.size + 1), 3, none⟩)) (by kernel_rfl) rfl rfl rfl rfl (by kernel_rfl) (fun w => by kernel_rfl), ow_elem hA (wants_none rfl) 53 (.int .u64 (x.n : Int)) (by kernel_rfl) rfl rfl rfl rfl (by kernel_rfl) 28 Tryd.isAgg28 (.tmp 52) rfl (⟨(w.heap.size + 1), 3, none⟩) (by kernel_rfl) (fun w1 hb => ((KXA.out.under hb).cell rfl)), ow_calld hA (wants_none rfl) 54 (.string (strOf (numL x.n))) (by kernel_rfl) rfl rfl rfl rfl (by kernel_rfl) 26 Tryd.f26 _ [.tmp 53] _ [.int .u64 (x.n : Int)] rfl (by kernel_rfl) Tryd.func26 (by kernel_rfl) rfl (fun w1 hb => rNumD KOk.out.n), ow_val hA (wants_none rfl) 55 (.pointer (some ⟨(w.heap.size + 1), 4, none⟩)) (by kernel_rfl) rfl rfl rfl rfl (by kernel_rfl) (fun w => by kernel_rfl), ow_elem hA (wants_none rfl) 56 (.string (strOf x.s)) (by kernel_rfl) rfl rfl rfl rfl (by kernel_rfl) 9 ag_str (.tmp 55) rfl (⟨(w.heap.size + 1), 4, none⟩) (by kernel_rfl) (fun w1 hb => ((KXA.out.under hb).cell rfl)), ow_val hA (wants_none rfl) 57 (.string (strOf (pickN ts.length x x.b))) (by kernel_rfl) rfl rfl rfl rfl (by kernel_rfl) (fun w => by kernel_rfl), trivial⟩) ?_
  case hst1 => intro q hq; cases hq
  case hst2 => intro q hq; cases hq
  intro fv w5 hf hD b5
  simp only [putR, List.foldl_cons, List.foldl_nil, List.map_cons, List.map_nil, Act.put, List.setIfInBounds_toArray, List.set_cons_succ, List.set_cons_zero]
  clear hf hD
  have KX5 : Kept _ := ⟨KXA.out.under b5⟩
  have KH5 : Kept _ := ⟨KHA.out.under b5⟩
  ((refine wl_bs4 (by kernel_rfl) (.tmp 51) (.tmp 54) (.tmp 56) (.tmp 57) rfl ((pickN ts.length x x.a)) ((numL x.n)) (x.s) ((pickN ts.length x x.b)) (by kernel_rfl) (by kernel_rfl) (by kernel_rfl) (by kernel_rfl) ?_); have bwB : Below w5.heap.size w5 (w5.alloc (.cells #[.string (strOf (pickN ts.length x x.a)), .string (strOf (numL x.n)), .string (strOf x.s), .string (strOf (pickN ts.length x x.b))] 9)) := (Below.refl _ _).alloc (Nat.le_refl _) _; have VB := new4 (pickN ts.length x x.a) (numL x.n) x.s (pickN ts.length x x.b) w5; (generalize hwx : w5.alloc (.cells #[.string (strOf (pickN ts.length x x.a)), .string (strOf (numL x.n)), .string (strOf x.s), .string (strOf (pickN ts.length x x.b))] 9) = wB at *); clear hwx; have KXB : Kept _ := ⟨KX5.out.under bwB⟩; have KHB : Kept _ := ⟨KH5.out.under bwB⟩; simp only [Act.put, List.setIfInBounds_toArray, List.set_cons_succ, List.set_cons_zero])
  go_wp2_with (first | ((with_reducible refine wv_elem (d := 60) ?hd ?hw 27 Tryd.isAgg27 (.tmp 2) ?ho (⟨w.heap.size, 0, none⟩) ?hx (.slice p ts.length c) ?hc ?_); (case hd => rfl); (case hw => kernel_rfl); (case ho => rfl); (case hx => kernel_rfl); (case hc => exact (KHB.out.cell rfl)); simp only [Act.put, List.setIfInBounds_toArray, List.set_cons_succ, List.set_cons_zero]))
  have qA := q4.trans (bwA.mono q4.size)
  have q5 := qA.trans (b5.mono qA.size)
  have qB := q5.trans (bwB.mono q5.size)
  refine (rPut (KTs.out.under qB) KT.out Kf.out VB Kl.out hn KP.out).mono ?_
  rintro e w6 ⟨⟨v', rfl, hT'⟩, q6⟩
  have q06 := qB.trans (q6.mono qB.size)
  have KT' : Kept _ := ⟨hT'.news qB.size (Below.refl _ _)⟩
  clear hT'
  go_wp2_with (first | ((with_reducible refine wv_val (d := 69) ?hd ?hw (.bool F) ?hr ?_); (case hd => rfl); (case hw => kernel_rfl); (case hr => intro w; exact run_sneq (m := []) rfl (by kernel_rfl) rfl KNB.out nil_bytes BF.out w); simp only [Act.put, List.setIfInBounds_toArray, List.set_cons_succ, List.set_cons_zero]))
  refine bodyPost_ret (v := .tuple #[v', .string (strOf N), .bool F]) (by simp [results, Tryd.results12, go_sem]) rfl ?_
  exact ⟨⟨v', rfl, KT'.out⟩, q06⟩

/-- An act, whatever it is. -/
theorem theirsD {D : Nat → Prop} {ts : List TermL} {x : ActL} {v : Value} {w : World} (hv : TsV D v w ts) (hT : Terms ts) (hx : ActOk x) (hn : ts.length < 1000000) :
    Calls Tryd.prog 12 #[v, .agg (actA x)] w fun e w' => RDh D w (actL ts x).1 (actL ts x).2.1 (actL ts x).2.2 e w' ∧ Below w.heap.size w w' := by
  have h5 : x.kind % 5 = 0 ∨ x.kind % 5 = 1 ∨ x.kind % 5 = 2 ∨ x.kind % 5 = 3 ∨ x.kind % 5 = 4 := by omega
  rcases h5 with h | h | h | h | h
  · exact theirs0 hv hT hx hn h rfl
  · exact theirs1 hv hT hx hn h rfl
  · exact theirs2 hv hT hx hn h rfl
  · exact theirs3 hv hT hx hn h rfl
  · exact theirs4 hv hT hx hn h rfl
end Go.Proofs.YtfdldpcfdebinaaDoor.sh
