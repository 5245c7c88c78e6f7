/-
  What the document fixes of tables: alive of law 9.
-/
import Derived.Test.YtfdldpcfdebinaaDoorDI
namespace Go.Proofs.YtfdldpcfdebinaaDoor.sh
open Go Go.RowKit
set_option linter.unusedVariables false
set_option linter.unusedSimpArgs false

theorem AtomE {tb B : Nat} {ts us : List TermL} {N s : List Nat} {M : Nat → Prop} {S : ByteArray} {w : World} (hT : Tab tb B ts M w) (hs : Bytes s) (hl : s.length ≤ maxLen) (hn : ts.length < 1000000) (hp : putL ts (1, [s]) = (us, N)) (hS : S = strOf s) :
    Calls Tryd.prog 18 #[.pointer (some ⟨tb, 0, none⟩), .string S] w fun e w' => e = .returned (.string (strOf N)) ∧ Puts tb B ts M w us w' := by
  have h := AtomD hT hs hl hn
  rw [hp] at h
  rw [hS]
  exact h

theorem PubE {tb B : Nat} {ts us : List TermL} {N s : List Nat} {M : Nat → Prop} {S : ByteArray} {w : World} (hT : Tab tb B ts M w) (hs : Bytes s) (hl : s.length ≤ maxLen) (hn : ts.length < 1000000) (hp : putL ts (2, [s]) = (us, N)) (hS : S = strOf s) :
    Calls Tryd.prog 19 #[.pointer (some ⟨tb, 0, none⟩), .string S] w fun e w' => e = .returned (.string (strOf N)) ∧ Puts tb B ts M w us w' := by
  have h := PubD hT hs hl hn
  rw [hp] at h
  rw [hS]
  exact h

theorem DhE {tb B : Nat} {ts us : List TermL} {N a b : List Nat} {F : Bool} {M : Nat → Prop} {w : World} (hT : Tab tb B ts M w) (ha : Bytes a) (hb : Bytes b) (hal : a.length ≤ maxLen) (hbl : b.length ≤ maxLen) (hn : ts.length < 1000000) (hd : dhL ts a b = (us, N, F)) :
    Calls Tryd.prog 21 #[.pointer (some ⟨tb, 0, none⟩), .string (strOf a), .string (strOf b)] w fun e w' => e = .returned (.tuple #[.string (strOf N), .bool F]) ∧ Puts tb B ts M w us w' := by
  have h := DhD hT ha hb hal hbl hn
  rw [hd] at h
  exact h
theorem PartsE {tb B : Nat} {ts : List TermL} {k : Nat} {ll : List (List Nat)} {s : List Nat} {M : Nat → Prop} {w : World} (hT : Tab tb B ts M w) (hs : Bytes s) (hl : s.length ≤ maxLen) (hn : ts.length < 1000000) (hx : partX ts s = some (k, ll)) :
    Calls Tryd.prog 15 #[.pointer (some ⟨tb, 0, none⟩), .string (strOf s)] w fun e w' => (∃ V, e = .returned (.tuple #[.int .u8 (k : Int), V, .bool true]) ∧ VRow w.heap.size 9 (strs ll) V w') ∧ Below w.heap.size w w' := by
  have h := PartsD hT hs hl hn
  rw [hx] at h
  exact h
theorem Tab.apart {tb B : Nat} {ts : List TermL} {M : Nat → Prop} {w : World} (h : Tab tb B ts M w) {base : Nat} {e : TypeId} {vs : List Value} {v : Value} {w' : World} (hr : VRow base e vs v w') (hb : w.heap.size ≤ base) : ∀ b, blkOf v = some b → ¬ M b := fun b hb2 hM => by
  have := (hr.range b hb2).1
  have := (h.range hM).2
  omega
def T1 : List TermL := [(1, [[97]])]
def T2 : List TermL := [(1, [[97]]), (1, [[98]])]
def T3 : List TermL := [(1, [[97]]), (1, [[98]]), (2, [termN 1])]
def T4 : List TermL := [(1, [[97]]), (1, [[98]]), (2, [termN 1]), (3, [termN 1, termN 2])]
def T5 : List TermL := [(1, [[97]]), (1, [[98]]), (2, [termN 1]), (3, [termN 1, termN 2]), (2, [termN 2])]
theorem fx1 : putL [] (1, [[97]]) = (T1, termN 1) := by kernel_rfl
theorem fx2 : putL T1 (1, [[98]]) = (T2, termN 2) := by kernel_rfl
theorem fx3 : putL T2 (2, [termN 1]) = (T3, termN 3) := by kernel_rfl
theorem fx4 : dhL T3 (termN 2) (termN 3) = (T4, termN 4, true) := by kernel_rfl
theorem fx5 : putL T4 (2, [termN 2]) = (T5, termN 5) := by kernel_rfl
theorem fx6 : dhL T5 (termN 1) (termN 5) = (T5, termN 4, true) := by kernel_rfl
theorem fx7 : dhL T5 (termN 1) (termN 2) = (T5, [], false) := by kernel_rfl
theorem fx8 : partX T5 (termN 3) = some (2, [termN 1]) := by kernel_rfl
theorem fx9 : putL T5 (1, [[97]]) = (T5, termN 1) := by kernel_rfl
theorem termN_max (n : Nat) : (termN n).length ≤ maxLen := by rw [termN_len]; decide
set_option maxRecDepth 100000 in
set_option maxHeartbeats 4000000 in
theorem alive9 (w : World) : Calls Tryd.prog 9 #[] w fun e w' => e = .returned (.bool true) ∧ Below w.heap.size w w' := by
  have g1 := fx1; have g2 := fx2; have g3 := fx3; have g4 := fx4; have g5 := fx5; have g6 := fx6; have g7 := fx7; have g8 := fx8; have g9 := fx9
  have l1 : T1.length < 1000000 := by decide
  have l2 : T2.length < 1000000 := by decide
  have l3 : T3.length < 1000000 := by decide
  have l4 : T4.length < 1000000 := by decide
  have l5 : T5.length = 5 := rfl
  have y1 := termN_bytes 1; have y2 := termN_bytes 2; have y3 := termN_bytes 3; have y4 := termN_bytes 4; have y5 := termN_bytes 5
  have m1 := termN_max 1; have m2 := termN_max 2; have m3 := termN_max 3; have m5 := termN_max 5
  have R1 := fun w1 : World => rNameD (n := 1) (w := w1) (by decide)
  have R3 := fun w1 : World => rNameD (n := 3) (w := w1) (by decide)
  generalize termN 1 = n1 at *
  generalize termN 2 = n2 at *
  generalize termN 3 = n3 at *
  generalize termN 4 = n4 at *
  generalize termN 5 = n5 at *
  generalize T1 = t1 at *
  generalize T2 = t2 at *
  generalize T3 = t3 at *
  generalize T4 = t4 at *
  generalize T5 = t5 at *
  have G1 : Kept _ := ⟨g1⟩; have G2 : Kept _ := ⟨g2⟩; have G3 : Kept _ := ⟨g3⟩; have G4 : Kept _ := ⟨g4⟩; have G5 : Kept _ := ⟨g5⟩; have G6 : Kept _ := ⟨g6⟩; have G7 : Kept _ := ⟨g7⟩; have G8 : Kept _ := ⟨g8⟩; have G9 : Kept _ := ⟨g9⟩
  have K5 : Kept _ := ⟨l5⟩
  have Y1 : Kept _ := ⟨y1⟩; have Y2 : Kept _ := ⟨y2⟩; have Y3 : Kept _ := ⟨y3⟩; have Y4 : Kept _ := ⟨y4⟩; have Y5 : Kept _ := ⟨y5⟩
  have M1 : Kept _ := ⟨m1⟩; have M2 : Kept _ := ⟨m2⟩; have M3 : Kept _ := ⟨m3⟩; have M5 : Kept _ := ⟨m5⟩
  have KR1 : Kept _ := ⟨R1⟩; have KR3 : Kept _ := ⟨R3⟩
  have l5' : t5.length < 1000000 := by omega
  have KL5 : Kept _ := ⟨l5'⟩
  have KL1 : Kept _ := ⟨l1⟩; have KL2 : Kept _ := ⟨l2⟩; have KL3 : Kept _ := ⟨l3⟩; have KL4 : Kept _ := ⟨l4⟩
  have ya : Kept (Bytes [97]) := ⟨bytes_of_all (fun x hx => by simp at hx; omega)⟩
  have yb : Kept (Bytes [98]) := ⟨bytes_of_all (fun x hx => by simp at hx; omega)⟩
  have D1 : Kept (true = decide (n1 = n1)) := ⟨(decide_eq_true rfl).symm⟩
  have D3 : Kept (true = decide (n3 = n3)) := ⟨(decide_eq_true rfl).symm⟩
  have D4 : Kept (true = decide (n4 = n4)) := ⟨(decide_eq_true rfl).symm⟩
  have D2 : Kept (true = decide (2 = 2)) := ⟨rfl⟩
  clear g1 g2 g3 g4 g5 g6 g7 g8 g9 l1 l2 l3 l4 l5 y1 y2 y3 y4 y5 m1 m2 m3 m5 R1 R3 l5'
  go_enter Tryd.func9, Tryd.ntmps9
  go_wp2_with fail
  refine NewD.mono ?_
  rintro e w1 ⟨⟨tb, Ma, rfl, hT1⟩, q1⟩
  go_wp2_with fail
  refine (AtomE hT1 ya.out (by decide) (by decide) G1.out (by kernel_rfl)).mono ?_
  rintro e w2 ⟨rfl, Mb, hT2, tu2⟩
  have q2 := q1.trans (hT1.below tu2)
  clear hT1 q1 tu2
  go_wp2_with fail
  refine (AtomE hT2 yb.out (by decide) KL1.out G2.out (by kernel_rfl)).mono ?_
  rintro e w3 ⟨rfl, Mc, hT3, tu3⟩
  have q3 := q2.trans (hT2.below tu3)
  clear hT2 q2 tu3
  go_wp2_with fail
  refine (PubE hT3 Y1.out M1.out KL2.out G3.out rfl).mono ?_
  rintro e w4 ⟨rfl, Md, hT4, tu4⟩
  have q4 := q3.trans (hT3.below tu4)
  clear hT3 q3 tu4
  go_wp2_with fail
  refine (DhE hT4 Y2.out Y3.out M2.out M3.out KL3.out G4.out).mono ?_
  rintro e w5 ⟨rfl, Me, hT5, tu5⟩
  have q5 := q4.trans (hT4.below tu5)
  clear hT4 q4 tu5
  go_wp2_with fail
  refine (PubE hT5 Y2.out M2.out KL4.out G5.out rfl).mono ?_
  rintro e w6 ⟨rfl, Mf, hT6, tu6⟩
  have q6 := q5.trans (hT5.below tu6)
  clear hT5 q5 tu6
  go_wp2_with fail
  refine (DhE hT6 Y1.out Y5.out M1.out M5.out KL5.out G6.out).mono ?_
  rintro e w7 ⟨rfl, Mg, hT7, tu7⟩
  have q7 := q6.trans (hT6.below tu7)
  clear hT6 q6 tu7
  go_wp2_with fail
  refine (DhE hT7 Y1.out Y2.out M1.out M2.out KL5.out G7.out).mono ?_
  rintro e w8 ⟨rfl, Mh, hT8, tu8⟩
  have q8 := q7.trans (hT7.below tu8)
  clear hT7 q7 tu8
  go_wp2_with fail
  refine (PartsE hT8 Y3.out M3.out KL5.out G8.out).mono ?_
  rintro e w9 ⟨⟨V, rfl, hV⟩, b9⟩
  have hV9 := hT8.apart hV (Nat.le_refl _)
  have hT9 := hT8.under b9
  have q9 := q8.trans (b9.mono q8.size)
  obtain ⟨p, c, rfl, hc1⟩ := vals_form (vrow_vals hV) (show (strs [n1]).length = 1 from rfl)
  have KV : Kept _ := ⟨hV⟩
  have KV9 : Kept _ := ⟨hV9⟩
  clear hT8 q8 b9 hV hV9
  go_wp2_with fail
  refine (KR1.out w9).mono ?_
  rintro e wa ⟨rfl, ba⟩
  have hTa := hT9.under ba
  have qa := q9.trans (ba.mono q9.size)
  have KVa : Kept _ := ⟨KV.out.under ba⟩
  clear hT9 q9 KV ba
  go_wp2_with (first | ((with_reducible refine wv_val (d := 56) ?hd ?hw (.bool true) ?hr ?_); (case hd => rfl); (case hw => kernel_rfl); (case hr => intro w; exact run_seq rfl (by kernel_rfl) (by kernel_rfl) Y1.out Y1.out D1.out w); simp only [Act.put, List.setIfInBounds_toArray, List.set_cons_succ, List.set_cons_zero]))
  refine (AtomE hTa ya.out (by decide) KL5.out G9.out (by kernel_rfl)).mono ?_
  rintro e wb ⟨rfl, Mi, hTb, tub⟩
  have qb := qa.trans (hTa.below tub)
  have KVb : Kept _ := ⟨tub.vrow KVa.out KV9.out⟩
  clear hTa qa KVa tub KV9
  go_wp2_with (first | ((with_reducible refine wv_val (d := 61) ?hd ?hw (.bool true) ?hr ?_); (case hd => rfl); (case hw => kernel_rfl); (case hr => intro w; exact run_seq rfl (by kernel_rfl) (by kernel_rfl) Y1.out Y1.out D1.out w); simp only [Act.put, List.setIfInBounds_toArray, List.set_cons_succ, List.set_cons_zero]))
  refine (KR3.out wb).mono ?_
  rintro e wc ⟨rfl, bc⟩
  have hTc := hTb.under bc
  have qc := qb.trans (bc.mono qb.size)
  have hVc := vrow_vals (KVb.out.under bc)
  obtain ⟨A, rfl, hAb, hcell⟩ := vals_at hVc (show (strs [n1])[0]? = some (.string (strOf n1)) from rfl)
  have KCe : Kept _ := ⟨hcell⟩
  have hlt : 0 < 1 := by decide
  have KA := AllD hTc KL5.out
  rw [K5.out] at KA
  have KAl : Kept _ := ⟨KA⟩
  clear hTb qb KVb bc hVc hcell KA
  go_wp2_with (first | ((with_reducible refine wv_val (d := 66) ?hd ?hw (.bool true) ?hr ?_); (case hd => rfl); (case hw => kernel_rfl); (case hr => intro w; exact run_seq rfl (by kernel_rfl) (by kernel_rfl) Y3.out Y3.out D3.out w); simp only [Act.put, List.setIfInBounds_toArray, List.set_cons_succ, List.set_cons_zero]) | ((with_reducible refine wv_val (d := 77) ?hd ?hw (.bool true) ?hr ?_); (case hd => rfl); (case hw => kernel_rfl); (case hr => intro w; exact run_seq rfl (by kernel_rfl) (by kernel_rfl) Y4.out Y4.out D4.out w); simp only [Act.put, List.setIfInBounds_toArray, List.set_cons_succ, List.set_cons_zero]) | ((with_reducible refine wv_val (d := 85) ?hd ?hw (.bool true) ?hr ?_); (case hd => rfl); (case hw => kernel_rfl); (case hr => intro w; exact run_eqU (m := 2) (n := 2) rfl (by kernel_rfl) rfl D2.out w); simp only [Act.put, List.setIfInBounds_toArray, List.set_cons_succ, List.set_cons_zero]) | ((with_reducible refine wv_val (d := 94) ?hd ?hw (.pointer (some (A.add 0))) ?hr ?_); (case hd => rfl); (case hw => kernel_rfl); (case hr => intro w; exact run_idxS (i := 0) (l := 1) rfl (by kernel_rfl) rfl Tryd.underlying35 hlt Tryd.sizeOf9 w); simp only [Act.put, List.setIfInBounds_toArray, List.set_cons_succ, List.set_cons_zero]) | ((with_reducible refine wv_elem (d := 95) ?hd ?hw 9 ag_str (.tmp 94) ?ho (A.add 0) ?hx (.string (strOf n1)) ?hc ?_); (case hd => rfl); (case hw => kernel_rfl); (case ho => rfl); (case hx => kernel_rfl); (case hc => exact KCe.out); simp only [Act.put, List.setIfInBounds_toArray, List.set_cons_succ, List.set_cons_zero]) | ((with_reducible refine wv_val (d := 97) ?hd ?hw (.bool true) ?hr ?_); (case hd => rfl); (case hw => kernel_rfl); (case hr => intro w; exact run_seq rfl (by kernel_rfl) (by kernel_rfl) Y1.out Y1.out D1.out w); simp only [Act.put, List.setIfInBounds_toArray, List.set_cons_succ, List.set_cons_zero]))
  refine KAl.out.mono ?_
  rintro e wd ⟨⟨V2, rfl, hV2⟩, bd⟩
  obtain ⟨p2, c2, rfl, _⟩ := vals_form (vrow_vals hV2) (show (strs (namesL 5)).length = 5 from rfl)
  have qd := qc.trans (bd.mono qc.size)
  clear hV2 bd
  go_wp2_with fail
  go_ret
  exact ⟨rfl, qd⟩
end Go.Proofs.YtfdldpcfdebinaaDoor.sh
