/-
  CodecDeep.
-/
import Derived.Test.YtfkpbmkhkhnehaaCU
namespace Go.Proofs.Ytfkpbmkhkhnehaa.sh
open Go Go.RowKit
set_option linter.unusedVariables false
set_option linter.unusedSimpArgs false

/-- How many strings a slice among the arguments has, by the form's own reach. -/
theorem strsZ {H : Type} {enc : TypeId × Value → H} {W : World} {base : Nat} {sp : Nat → Bool} {held : Bool} {v : Value} {d : DataW H} {p : List MemPlace} {ll : List (List Nat)}
    (h : DataW.Trod enc Try.prog W base sp held 22 v d p) (hz : ∀ n ∈ d.weights Try.prog 22, n ≤ reachBytes) (hr : ValsV v W (strs ll)) : ll.length * 16 ≤ reachBytes := by
  obtain ⟨p1, c1, rfl, hc, _⟩ := hr
  rw [strs_len] at hc h
  obtain ⟨fuel, hf⟩ := h
  rcases Go.ChangeShapes.open_strings Try.underlying22 Try.underlying9 (by kernel_rfl) hf with ⟨hcs, hx⟩ | ⟨a, len, cap, ss, hcs, _, hl, hm, hs, hx, _, _⟩
  · simp [Value.cells] at hcs
    rw [hcs.2.1]
    exact Nat.zero_le _
  · simp [Value.cells] at hcs
    obtain ⟨rfl, hlen, rfl⟩ := hcs
    have h2 : len ≤ ss.length := by rw [hs]; split <;> omega
    rw [Prod.mk.injEq] at hx
    have hb : Try.prog.bytesOf 9 = 16 := by kernel_rfl
    have h3 := hz (((ss.take len).length + (ss.drop len).length) * Try.prog.bytesOf 9) (by
      rw [hx.1]
      simp [DataW.weights, Try.underlying22, Go.ChangeShapes.strs])
    rw [hb, List.length_take, List.length_drop] at h3
    have : ll.length ≤ min len ss.length + (ss.length - len) := by omega
    exact Nat.le_trans (Nat.mul_le_mul_right 16 this) h3
theorem appV_runZ {P : Program} {t ty e : TypeId} {z : Value} {bytes : Nat} (ht : P.underlying t = some (.slice e)) (hi : (P.info? e).map (fun i => (i.zero, i.size, i.bytes)) = some (some z, 1, bytes)) (hz : z.cells.size = 1) {base : Nat} {l m : List Value} {v u : Value} {w : World} (hown : VRow base e l v w) (hx : ValsV u w m) (h1 : ∀ x ∈ m, x.oneCell' = true) (hmax : l.length + m.length ≤ maxLen) (hbb : (l.length + m.length) * bytes ≤ 140737488355328) (hbase : base ≤ w.heap.size) :
    ∃ v' w', (Builtin.append_ #[t, t] ty #[v, u]).run P w = .ok v' w' ∧ VRow base e (l ++ m) v' w' ∧ w.grownBy w' (blkOf v) ∧ (blkOf v' = blkOf v ∨ blkOf v' = some w.heap.size) := by
  cases hq : P.info? e with
  | none => rw [hq] at hi; cases hi
  | some i0 =>
  rw [hq] at hi
  simp only [Option.map_some, Option.some.injEq, Prod.mk.injEq] at hi
  obtain ⟨hz0, hz1, hz2⟩ := hi
  obtain ⟨p, c, rfl, h2, h3⟩ := hx
  have hbl := vrow_blk hown
  cases p with
  | none =>
    have hm0 : m = [] := by
      cases m with
      | nil => rfl
      | cons x r => obtain ⟨A, h, _⟩ := h3 (by simp); cases h
    subst hm0
    refine ⟨v, w, ?_, by rw [List.append_nil]; exact hown, ⟨rfl, rfl, rfl, Nat.le_refl _, fun _ _ _ => rfl⟩, .inl rfl⟩
    rcases hown.2 with ⟨rfl, h0⟩ | ⟨g, cap, cur, rfl, _, _, hnc, _⟩
    · simp [Builtin.append_, run_underlying ht, sizeOf, typeInfo, hq, Builtin.lenOf, Builtin.firstCells, h0]
    · simp [Builtin.append_, run_underlying ht, sizeOf, typeInfo, hq, Builtin.lenOf, Builtin.firstCells, hnc, storeCells]
  | some A =>
    obtain ⟨v', w', h4, h5, h6, _, h8⟩ := run_append_own_at (P := P) w base t ty e i0 z 1 bytes ht hq hz0 hz1 hz2 hz (by decide) v l.length l hown A m.length c m (by simp) (by
      intro j y hj
      obtain ⟨A', e1, _, e3⟩ := h3 (by intro e; rw [e] at hj; simp at hj)
      cases e1
      exact e3 j y hj) h1 hmax hbb hbase
    have hrow : VRow base e (l ++ m) v' w' := by unfold VRow; rw [List.length_append]; exact h5
    rw [vrow_blk hrow, hbl] at h8
    exact ⟨v', w', h4, hrow, by rw [← hbl]; exact h6, h8⟩
theorem run_oneS (s : ByteArray) (w : World) : (Instr.buildSlice 22 1 #[(0, .string s)]).run Try.prog w = .ok (.slice (some ⟨w.heap.size, 0, none⟩) 1 1) (w.alloc (.cells #[.string s] 9)) := by kernel_rfl
section
variable {h : List Oper} {A0 A : Act} {W0 : World} {S : Nat → Option (Value → World → Prop)} {sp O : List Nat} {E : List (Nat × Nat)} {i : Nat} {o : Oper}
/-- A string in a slice of its own, in a region that draws its order. -/
theorem ow_oneS (hA : Full h A0 A S sp) (hw : Wants h A0 A S O E W0.heap.size i o) (d x : Nat) (s : List Nat) (hd : o.dst = some d) (ho : o.op = .buildSlice 22 1 #[(0, .tmp x)]) (hwx : waitsFor h o x = true) (hx : A.tmps[x]? = some (.string (strOf s))) (hsx : sp.contains x = false) (hE : (E.all fun q => q.2 != x || q.1 == i) = true) (hp : S d = some (VRow W0.heap.size 9 [.string (strOf s)])) : OwnOk Try.prog h A0 W0 (relR A S) O E i o :=
  ow_run hw d hd fun a w hF hB hgot => by
    have e := gotE_det hA hgot hwx hsx hE hx
    refine ⟨_, _, none, ?_, rel_spec _ hp (vrow_lit w #[.string (strOf s)] 1 rfl hB.size (by decide)), grown_none ((Below.refl _ _).alloc (Nat.le_refl _) _), fun b hb => (by cases hb), fun _ b hb => .inl ?_⟩
    · unfold execOp
      simp only [ho]
      simp [e, run_oneS]
    · cases hb
      exact ⟨Nat.le_refl _, by simp⟩
/-- 'append' of values of one cell, in a region that draws its order: onto an owned slot, which is taken over. -/
theorem ow_appV (hw : Wants h A0 A S O E W0.heap.size i o) (d : Nat) (hd : o.dst = some d) (s x : Operand) (t e : TypeId) (z : Value) (bytes : Nat) (ho : o.op = .call { callee := .builtin .append, args := #[s, x], argTypes := #[t, t] }) (ht : Try.prog.underlying t = some (.slice e)) (hi : (Try.prog.info? e).map (fun i => (i.zero, i.size, i.bytes)) = some (some z, 1, bytes)) (hz : z.cells.size = 1) (l m : List Value) (hmax : l.length + m.length ≤ maxLen) (hbb : (l.length + m.length) * bytes ≤ 140737488355328) (h1' : ∀ x ∈ m, x.oneCell' = true) (hp : S d = some (VRow W0.heap.size e (l ++ m)))
    (hs : ∀ (a : Act) (w : World), Fr h A0 a → Below W0.heap.size W0 w → GotE h E (relR A S) O W0.heap.size i a w o → VRow W0.heap.size e l (a.eval s) w ∧ ValsV (a.eval x) w m ∧ ∀ b, blkOf (a.eval s) = some b → ∃ q, (i, q) ∈ E ∧ (a.tmps[q]?).bind blkOf = some b) : OwnOk Try.prog h A0 W0 (relR A S) O E i o :=
  ow_run hw d hd fun a w hF hB hgot => by
    obtain ⟨h1, h2, h3⟩ := hs a w hF hB hgot
    obtain ⟨v', w', h4, h5, h6, h7⟩ := appV_runZ (ty := o.type) ht hi hz h1 h2 h1' hmax hbb hB.size
    refine ⟨v', w', _, ?_, rel_spec _ hp h5, h6, h3, fun _ b hb => ?_⟩
    · unfold execOp
      simp only [ho, resolve, invoke, builtin, Sem.run_bind, Sem.run_pure, Result.andThen_ok, List.map_toArray, List.map_cons, List.map_nil, h4]
    · rcases h7 with h7 | h7
      · exact .inr (h3 b (by rw [← h7]; exact hb))
      · rw [hb] at h7
        cases h7
        exact .inl ⟨Nat.le_refl _, (h5.range _ hb).2⟩
end
theorem tail_vals {B : Addr} {n d : Nat} {w : World} {x : Value} {vs : List Value} {q : Option Addr} (h : ValsV (.slice (some B) n d) w (x :: vs)) (hq : q = if d = 1 then some B else some (B.add 1)) : ValsV (.slice q (n - 1) (d - 1)) w vs := by
  obtain ⟨p, c, e1, e2, e3⟩ := h
  cases e1
  obtain ⟨A, e4, e5, e6⟩ := e3 (by simp)
  cases e4
  refine ⟨q, d - 1, by simp, by simp at e2; omega, fun hne => ?_⟩
  have hd : ¬ d = 1 := fun h => hne (List.eq_nil_of_length_eq_zero (by simp at e2; omega))
  refine ⟨B.add 1, by rw [hq, if_neg hd], by rw [add_block]; exact e5, fun j y hy => ?_⟩
  have := e6 (j + 1) y (by simpa using hy)
  rw [show (B.add 1).add j = B.add (j + 1) by unfold Addr.add; by_cases hj : j = 0 <;> simp [hj]; omega]
  exact this
theorem cut1_run {o : Oper} {a : Act} {x : Operand} {B : Addr} {n d : Nat} {q : Option Addr} (ho : o.op = .slice 22 x (some (.const (.int .i64 1))) none none) (hx : a.eval x = .slice (some B) n d) (hn : 1 ≤ n) (hd : n ≤ d) (hq : q = if d = 1 then some B else some (B.add 1)) (w : World) : (execOp a.eval o).run Try.prog w = .ok (.value (.slice q (n - 1) (d - 1))) w := by
  have e4 : a.eval (.const (.int .i64 1)) = .int .i64 1 := rfl
  have h1 : ((1 : Int) ≤ (n : Int)) := by omega
  have h2 : ((n : Int) ≤ (d : Int)) := by omega
  have sz := Try.sizeOf9
  unfold execOp
  simp only [ho, hx, e4, Option.map_none, Option.map_some, Instr.sliceAt, Instr.slice, Instr.sliceBounds, Sem.run_bind, run_underlying Try.underlying22, Result.andThen_ok]
  simp [Instr.sliceBound, asIntOf, sz, go_sem, h1, h2, hn, hd, hq]
  try (split <;> rfl)

set_option maxRecDepth 100000 in
set_option maxHeartbeats 4000000 in
theorem deep8 (v : Value) (ll : List (List Nat)) (u : Value) (mm : List (List Nat)) (ks : List Nat) (w : World) (hv : ValsV v w (strs ll)) (hl : ∀ l ∈ ll, Bytes l ∧ l.length ≤ maxLen) (hN : ll.length ≤ maxLen) (hu : ValsV u w (strs mm)) (hm : ∀ l ∈ mm, Bytes l ∧ l.length ≤ maxLen) (hM : mm.length ≤ maxLen) (hZ : mm.length * 16 ≤ reachBytes) (hk2 : ks.length = 2) (hks : Bytes ks) :
    Calls Try.prog 8 #[v, u, .agg (ints .u8 ks)] w fun e w' => e = .returned (.bool true) ∧ Below w.heap.size w w' := by
  obtain ⟨x0, x1, rfl⟩ : ∃ x0 x1, ks = [x0, x1] := by
    match ks, hk2 with
    | [a, b], _ => exact ⟨a, b, rfl⟩
  have hx0 : x0 < 256 := hks 0 x0 rfl
  have hx1 : x1 < 256 := hks 1 x1 rfl
  have B0 : Blk (w.alloc (.cells (ints .u8 [x0, x1]) 49)) w.heap.size 49 (ints .u8 [x0, x1]) := blk_new _ _ _
  have Q0 : Below w.heap.size w (w.alloc (.cells (ints .u8 [x0, x1]) 49)) := (Below.refl _ _).alloc (Nat.le_refl _) _
  have CA := alive8 (w.alloc (.cells (ints .u8 [x0, x1]) 49))
  have CF : Kept (∀ w1, Below w.heap.size w w1 → Calls Try.prog 11 #[v] w1 fun e w' => IsBool e ∧ w' = w1) := ⟨fun w1 h => fewD (hv.under h) hN⟩
  have CF2 : Kept (∀ w1, Below w.heap.size w w1 → Calls Try.prog 11 #[u] w1 fun e w' => IsBool e ∧ w' = w1) := ⟨fun w1 h => fewD (hu.under h) hM⟩
  have CJ : Kept (∀ w1, Below w.heap.size w w1 → Calls Try.prog 12 #[.int .u8 (x0 : Int), v] w1 fun e w' => e = .returned (.tuple #[.string (strOf (joinS x0 ll)), .int .i64 (joinE ll : Int)]) ∧ Below w1.heap.size w1 w') := ⟨fun w1 h => JoinD hx0 (hv.under h) hl⟩
  obtain ⟨aL, ha⟩ : ∃ aL, aL = joinS x0 ll := ⟨_, rfl⟩
  obtain ⟨ea, hea⟩ : ∃ aL, aL = joinE ll := ⟨_, rfl⟩
  rw [← ha, ← hea] at CJ
  have hya : Bytes aL := by rw [ha]; exact joinS_bytes hx0 (fun l h => (hl l h).1)
  have hla : aL.length ≤ maxLen := by
    rw [ha]
    by_cases hF : Fits ll
    · rw [joinS_fits hF]; exact join_lenB hF
    · rw [joinS_not hF]; exact Nat.zero_le _
  have ham : ∀ l ∈ aL :: mm, Bytes l ∧ l.length ≤ maxLen := fun l h => by
    rcases List.mem_cons.1 h with rfl | h
    · exact ⟨hya, hla⟩
    · exact hm l h
  obtain ⟨bL, hb⟩ : ∃ y, y = joinS x1 ([aL] ++ mm) := ⟨_, rfl⟩
  obtain ⟨eb, heb⟩ : ∃ y, y = joinE ([aL] ++ mm) := ⟨_, rfl⟩
  have KJ2 : Kept (∀ w1 V, True → ValsV V w1 ([.string (strOf aL)] ++ strs mm) → Calls Try.prog 12 #[.int .u8 (x1 : Int), V] w1 fun e w' => e = .returned (.tuple #[.string (strOf bL), .int .i64 (eb : Int)]) ∧ Below w1.heap.size w1 w') := ⟨fun w1 V _ hV => by
    rw [hb, heb]
    exact JoinD hx1 (ll := [aL] ++ mm) hV ham⟩
  obtain ⟨p, c, rfl, hc⟩ := vals_form hv (strs_len ll)
  obtain ⟨p2, c2, rfl, hc2⟩ := vals_form hu (strs_len mm)
  obtain ⟨n, hn⟩ : ∃ n, n = ll.length := ⟨_, rfl⟩
  obtain ⟨m, hmm⟩ : ∃ n, n = mm.length := ⟨_, rfl⟩
  have hapM : Kept ([Value.string (strOf aL)].length + (strs mm).length ≤ maxLen) := ⟨by rw [strs_len]; unfold reachBytes at hZ; unfold maxLen; simp; omega⟩
  have hapB : Kept (([Value.string (strOf aL)].length + (strs mm).length) * 16 ≤ 140737488355328) := ⟨by rw [strs_len]; unfold reachBytes at hZ; simp; omega⟩
  have one_M : Kept _ := ⟨strs_one mm⟩
  rw [← hn] at hv hc CF CJ ⊢
  rw [← hmm] at hu hc2 CF2 ⊢
  have HN : Kept _ := ⟨hn⟩
  have HM : Kept _ := ⟨hmm⟩
  have HV : Kept _ := ⟨hv⟩
  have HU : Kept _ := ⟨hu⟩
  have HL : Kept _ := ⟨hl⟩
  have HMl : Kept _ := ⟨hm⟩
  have HA : Kept (aL = joinS x0 ll ∧ ea = joinE ll) := ⟨⟨ha, hea⟩⟩
  have HB : Kept (bL = joinS x1 (aL :: mm) ∧ eb = joinE (aL :: mm)) := ⟨⟨hb, heb⟩⟩
  have YA : Kept (Bytes aL ∧ aL.length ≤ maxLen) := ⟨⟨hya, hla⟩⟩
  have HAM : Kept _ := ⟨ham⟩
  have KB0 : Kept ((ints .u8 [x0, x1])[0]? = some (.int .u8 (x0 : Int)) ∧ (ints .u8 [x0, x1])[1]? = some (.int .u8 (x1 : Int))) := ⟨⟨ints_get rfl, ints_get rfl⟩⟩
  obtain ⟨KA, hKA⟩ : ∃ A, A = ints .u8 [x0, x1] := ⟨_, rfl⟩
  rw [← hKA] at B0 Q0 CA KB0 ⊢
  clear hv hu hl hm hn hmm ha hea hb heb hya hla ham hN hM hZ hks hk2 hKA
  go_enter Try.func8, Try.ntmps8
  go_wp2_with fail
  refine CA.mono ?_
  rintro e w1 ⟨rfl, q1⟩
  have B1 := B0.under q1
  replace q1 := Q0.trans (q1.mono Q0.size)
  clear B0 Q0 CA
  go_wp2_with fail
  refine (CF.out _ q1).mono ?_
  rintro e w2 ⟨⟨f1, rfl⟩, hw2⟩
  obtain rfl := hw2.symm
  cases f1 with
  | false =>
    go_wp2_with fail
    go_ret
    exact ⟨rfl, q1⟩
  | true =>
  go_wp2_with fail
  refine (CF2.out _ q1).mono ?_
  rintro e w2 ⟨⟨f2, rfl⟩, hw2⟩
  obtain rfl := hw2.symm
  cases f2 with
  | false =>
    go_wp2_with fail
    go_ret
    exact ⟨rfl, q1⟩
  | true =>
  go_wp2_with (first | ((with_reducible refine wv_val (d := 26) ?hd ?hw (.pointer (some ⟨w.heap.size, 0, none⟩)) ?hr ?_); (case hd => rfl); (case hw => kernel_rfl); (case hr => intro w; exact run_idx (i := 0) rfl (by kernel_rfl) rfl Try.underlying49 (by decide) sz_u8 w); simp only [Act.put, List.setIfInBounds_toArray, List.set_cons_succ, List.set_cons_zero]) | ((with_reducible refine wv_elem (d := 27) ?hd ?hw 5 ag_u8 (.tmp 26) ?ho (⟨w.heap.size, 0, none⟩) ?hx (.int .u8 (x0 : Int)) ?hc ?_); (case hd => rfl); (case hw => kernel_rfl); (case ho => rfl); (case hx => kernel_rfl); (case hc => exact (cell_row B1 KB0.out.1)); simp only [Act.put, List.setIfInBounds_toArray, List.set_cons_succ, List.set_cons_zero]))
  refine (CJ.out _ q1).mono ?_
  rintro e wz ⟨rfl, q3⟩
  have B3 := B1.under q3
  replace q3 := q1.trans (q3.mono q1.size)
  clear CF CF2 CJ B1 q1
  have KB1 : Kept (∀ w1, Below wz.heap.size wz w1 → w1.cell? ⟨w.heap.size, 1, none⟩ = some (.int .u8 (x1 : Int))) := ⟨fun w1 hb => cell_row (B3.under hb) KB0.out.2⟩
  have KMV : Kept (∀ w1, Below wz.heap.size wz w1 → ValsV (.slice p2 m c2) w1 (strs mm)) := ⟨fun w1 hb => (HU.out.under q3).under hb⟩
  go_wp2_with fail
  refine region_ownL wz 11 [(33, .pointer (some ⟨w.heap.size, 1, none⟩)), (34, .int .u8 (x1 : Int)), (35, .string (strOf aL)), (37, .slice p2 m c2), (39, .tuple #[.string (strOf bL), .int .i64 (eb : Int)]), (32, .tuple #[.string (strOf bL), .int .i64 (eb : Int)]), (40, .string (strOf bL)), (41, .int .i64 (eb : Int)), (9, .string (strOf bL))] [(36, VRow wz.heap.size 9 [.string (strOf aL)]), (38, VRow wz.heap.size 9 ([.string (strOf aL)] ++ strs mm))] [36, 38] [(5, 36)] rfl (by kernel_rfl) (by kernel_rfl) (by kernel_rfl) (by kernel_rfl) (by kernel_rfl) (by kernel_rfl) (by kernel_rfl) (by kernel_rfl) (by kernel_rfl) (by kernel_rfl) (by kernel_rfl) ?hst1 ?hst2 (Below.refl _ _) (fun hA => ⟨ow_val hA (wants_none rfl) 33 (.pointer (some ⟨w.heap.size, 1, none⟩)) (by kernel_rfl) rfl rfl rfl rfl (by kernel_rfl) (fun w => run_idx (i := 1) rfl (by kernel_rfl) rfl Try.underlying49 (by decide) sz_u8 w), ow_elem hA (wants_none rfl) 34 (.int .u8 (x1 : Int)) (by kernel_rfl) rfl rfl rfl rfl (by kernel_rfl) 5 ag_u8 (.tmp 33) rfl (⟨w.heap.size, 1, none⟩) (by kernel_rfl) (fun w1 hb => KB1.out w1 hb), ow_val hA (wants_none rfl) 35 (.string (strOf aL)) (by kernel_rfl) rfl rfl rfl rfl (by kernel_rfl) (fun w => by kernel_rfl), ow_oneS hA (wants_none rfl) 36 35 aL rfl rfl (by kernel_rfl) (by kernel_rfl) rfl rfl rfl, ow_val hA (wants_none rfl) 37 (.slice p2 m c2) (by kernel_rfl) rfl rfl rfl rfl (by kernel_rfl) (fun w => by kernel_rfl), ow_appV (wants_none rfl) 38 rfl (.tmp 36) (.tmp 37) 22 9 (.string .empty) 16 rfl Try.underlying22 inf_str rfl [.string (strOf aL)] (strs mm) hapM.out hapB.out one_M.out rfl (fun a w1 hF hb hgot => ⟨(gotE_spec hgot (VRow wz.heap.size 9 [.string (strOf aL)]) (by kernel_rfl) rfl rfl).1, by rw [gotE_det (v := .slice p2 m c2) hA hgot (by kernel_rfl) rfl rfl (by kernel_rfl)]; exact KMV.out w1 hb, fun b hb => ⟨36, by decide, by rw [(gotE_spec hgot (VRow wz.heap.size 9 [.string (strOf aL)]) (by kernel_rfl) rfl rfl).2.1]; exact hb⟩⟩), ow_call (wants_none rfl) 39 12 Try.f12 _ [.tmp 34, .tmp 38] _ rfl rfl Try.func12 (by kernel_rfl) rfl (fun a w1 hF hb hgot => by
 have e := gotE_det (d := 34) (v := .int .u8 (x1 : Int)) hA hgot (by kernel_rfl) rfl rfl (by kernel_rfl)
 have s := gotE_spec (d := 38) hgot (VRow wz.heap.size 9 ([.string (strOf aL)] ++ strs mm)) (by kernel_rfl) rfl rfl
 refine (show Calls _ _ #[a.eval (.tmp 34), a.eval (.tmp 38)] _ _ from ?_)
 rw [e]
 refine (KJ2.out w1 _ trivial (vrow_vals s.1)).mono ?_
 rintro e w2 ⟨rfl, hb2⟩
 exact ⟨_, rfl, rel_det hA rfl (by kernel_rfl), hb2, fun h => by cases h⟩), ow_val hA (wants_none rfl) 32 (.tuple #[.string (strOf bL), .int .i64 (eb : Int)]) (by kernel_rfl) rfl rfl rfl rfl (by kernel_rfl) (fun w => by kernel_rfl), ow_val hA (wants_none rfl) 40 (.string (strOf bL)) (by kernel_rfl) rfl rfl rfl rfl (by kernel_rfl) (fun w => by kernel_rfl), ow_val hA (wants_none rfl) 41 (.int .i64 (eb : Int)) (by kernel_rfl) rfl rfl rfl rfl (by kernel_rfl) (fun w => by kernel_rfl), ow_val hA (wants_none rfl) 9 (.string (strOf bL)) (by kernel_rfl) rfl rfl rfl rfl (by kernel_rfl) (fun w => by kernel_rfl), trivial⟩) ?_
  case hst1 =>
    intro q hq hO
    simp only [List.mem_cons, List.not_mem_nil, or_false] at hq
    rcases hq with rfl | rfl <;> cases hO
  case hst2 =>
    intro q hq hO v w3 w4 row h1 h2 h3 h4
    simp only [List.mem_cons, List.not_mem_nil, or_false] at hq
    rcases hq with rfl | rfl <;> exact VRow.keeps h1 h2 h3
  intro fv w4 hf hD hb4
  clear hf hD
  have B4 := B3.under hb4
  have q4 := q3.trans (hb4.mono q3.size)
  simp only [putR, List.foldl_cons, List.foldl_nil, List.map_cons, List.map_nil, Act.put, List.setIfInBounds_toArray, List.set_cons_succ, List.set_cons_zero]
  clear KB1 KMV KJ2 hapM hapB one_M B3 q3
  by_cases hF : Fits ll
  case neg =>
    have h1 : ea = 3 := by rw [HA.out.2, joinE_not hF]
    subst h1
    clear hF HA HB KB0
    go_wp2_with fail
    go_ret
    exact ⟨rfl, q4⟩
  case pos =>
  have h1 : ea = 0 := by rw [HA.out.2, joinE_fits hF]
  subst h1
  by_cases hG : Fits (aL :: mm)
  case neg =>
    have h2 : eb = 3 := by rw [HB.out.2, joinE_not hG]
    subst h2
    clear hF hG HA HB KB0
    go_wp2_with fail
    go_ret
    exact ⟨rfl, q4⟩
  case pos =>
  have h2 : eb = 0 := by rw [HB.out.2, joinE_fits hG]
  subst h2
  obtain ⟨m1, hm1⟩ : ∃ m1, m1 = m + 1 := ⟨_, rfl⟩
  have KM1 : Kept _ := ⟨hm1⟩
  have hm255 : m1 ≤ 255 := by have := hG.1; rw [List.length_cons, ← HM.out] at this; omega
  have bm1 : m1 < 4611686018427387904 := by omega
  have KT1 : Kept (∀ w1, Calls Try.prog 15 #[.string (strOf bL), .int .u8 (x1 : Int), .int .i64 (m1 : Int)] w1 fun e w' => ∃ B d, e = .returned (.tuple #[.slice (some B) m1 d, .int .i64 0]) ∧ ValsV (.slice (some B) m1 d) w' (strs (aL :: mm)) ∧ B.block < w'.heap.size ∧ m1 ≤ d ∧ Below w1.heap.size w1 w') := ⟨fun w1 => by
    have hbL : bL = joinL x1 (aL :: mm) := by rw [HB.out.1, joinS_fits hG]
    rw [hbL]
    have hc : x1 = x1 ∧ ((aL :: mm).length : Int) = (m1 : Int) := ⟨rfl, by rw [List.length_cons, ← HM.out, hm1]⟩
    refine (TakeE (k := x1) (n := (m1 : Int)) (r := 0) (joinL_bytes hx1 (fun l h => (HAM.out l h).1) hG) (join_lenB hG) (by rw [tkE_join hG, if_pos hc])).mono ?_
    rintro e w' ⟨⟨V, rfl, hr⟩, hbe⟩
    rw [tkL_join hG _ _ hc] at hr
    have hV := vrow_vals hr
    obtain ⟨q, d, rfl, hd⟩ := vals_form hV (n := m1) (by rw [strs_len, List.length_cons, ← HM.out, hm1])
    obtain ⟨B, rfl, hB, _⟩ := vals_at hV (i := 0) (x := .string (strOf aL)) rfl
    exact ⟨B, d, rfl, hV, hB, hd, hbe⟩⟩
  have KT2 : Kept (∀ w1, Calls Try.prog 15 #[.string (strOf aL), .int .u8 (x0 : Int), .int .i64 (n : Int)] w1 fun e w' => ∃ V, e = .returned (.tuple #[V, .int .i64 0]) ∧ ValsV V w' (strs ll) ∧ Below w1.heap.size w1 w') := ⟨fun w1 => by
    have haL : aL = joinL x0 ll := by rw [HA.out.1, joinS_fits hF]
    rw [haL]
    have hc : x0 = x0 ∧ (ll.length : Int) = (n : Int) := ⟨rfl, by rw [HN.out]⟩
    refine (TakeE (k := x0) (n := (n : Int)) (r := 0) (joinL_bytes hx0 (fun l h => (HL.out l h).1) hF) (join_lenB hF) (by rw [tkE_join hF, if_pos hc])).mono ?_
    rintro e w' ⟨⟨V, rfl, hr⟩, hbe⟩
    rw [tkL_join hF _ _ hc] at hr
    exact ⟨V, rfl, vrow_vals hr, hbe⟩⟩
  have CS : Kept (∀ w1 V, Below w.heap.size w w1 → ValsV V w1 (strs ll) → Calls Try.prog 16 #[V, .slice p n c] w1 fun e w' => e = .returned (.bool true) ∧ Below w1.heap.size w1 w') := ⟨fun w1 V h hV => by
    have := SameD hV (HV.out.under h) (fun l hm => (HL.out l hm).1) (fun l hm => (HL.out l hm).1) (by have := hF.1; unfold maxLen; omega)
    rwa [decide_eq_true rfl] at this⟩
  have CS2 : Kept (∀ w1 V, Below w.heap.size w w1 → ValsV V w1 (strs mm) → Calls Try.prog 16 #[V, .slice p2 m c2] w1 fun e w' => e = .returned (.bool true) ∧ Below w1.heap.size w1 w') := ⟨fun w1 V h hV => by
    have := SameD hV (HU.out.under h) (fun l hm => (HMl.out l hm).1) (fun l hm => (HMl.out l hm).1) (by have := hG.1; rw [List.length_cons] at this; unfold maxLen; omega)
    rwa [decide_eq_true rfl] at this⟩
  have hm1p : 1 ≤ m1 := by omega
  clear hm1 hF hG HA HB
  go_wp2_with (first | ((with_reducible refine wv_val (d := 50) ?hd ?hw (.pointer (some ⟨w.heap.size, 1, none⟩)) ?hr ?_); (case hd => rfl); (case hw => kernel_rfl); (case hr => intro w; exact run_idx (i := 1) rfl (by kernel_rfl) rfl Try.underlying49 (by decide) sz_u8 w); simp only [Act.put, List.setIfInBounds_toArray, List.set_cons_succ, List.set_cons_zero]) | ((with_reducible refine wv_elem (d := 51) ?hd ?hw 5 ag_u8 (.tmp 50) ?ho (⟨w.heap.size, 1, none⟩) ?hx (.int .u8 (x1 : Int)) ?hc ?_); (case hd => rfl); (case hw => kernel_rfl); (case ho => rfl); (case hx => kernel_rfl); (case hc => exact (cell_row B4 KB0.out.2)); simp only [Act.put, List.setIfInBounds_toArray, List.set_cons_succ, List.set_cons_zero]) | ((with_reducible refine wv_val (d := 54) ?hd ?hw (.int .i64 (m1 : Int)) ?hr ?_); (case hd => rfl); (case hw => kernel_rfl); (case hr => intro w; exact run_addZ 1 rfl (by kernel_rfl) KM1.out bm1 w); simp only [Act.put, List.setIfInBounds_toArray, List.set_cons_succ, List.set_cons_zero]))
  refine (KT1.out w4).mono ?_
  rintro e w5 ⟨B, d, rfl, hV5, hB5, hd5, q5⟩
  have B5 := B4.under q5
  replace q5 := q4.trans (q5.mono q4.size)
  clear B4 q4 KT1
  have hm1 : 0 < m1 := hm1p
  have KNE : Kept (false = !decide ((m1 : Int) = (m1 : Int))) := ⟨by simp⟩
  have KV5 : Kept _ := ⟨hV5⟩
  have KX0 : Kept (∀ w1, Below w5.heap.size w5 w1 → w1.cell? (B.add 0) = some (.string (strOf aL))) := ⟨fun w1 hbe => (hbe.cell (by rw [add_block]; exact hB5)).trans (vals_cell hV5 rfl)⟩
  have KC0 : Kept (∀ w1, Below w5.heap.size w5 w1 → w1.cell? ⟨w.heap.size, 0, none⟩ = some (.int .u8 (x0 : Int))) := ⟨fun w1 hbe => cell_row (B5.under hbe) KB0.out.1⟩
  clear hV5
  go_wp2_with (first | ((with_reducible refine wv_val (d := 65) ?hd ?hw (.int .i64 (m1 : Int)) ?hr ?_); (case hd => rfl); (case hw => kernel_rfl); (case hr => intro w; exact run_addZ 1 rfl (by kernel_rfl) KM1.out bm1 w); simp only [Act.put, List.setIfInBounds_toArray, List.set_cons_succ, List.set_cons_zero]) | ((with_reducible refine wv_val (d := 66) ?hd ?hw (.bool false) ?hr ?_); (case hd => rfl); (case hw => kernel_rfl); (case hr => intro w; exact run_neI rfl (by kernel_rfl) (by kernel_rfl) KNE.out w); simp only [Act.put, List.setIfInBounds_toArray, List.set_cons_succ, List.set_cons_zero]))
  refine region_skipM w5 12 [(69, .slice (some B) m1 d), (70, .pointer (some (B.add 0))), (71, .string (strOf aL)), (72, .pointer (some ⟨w.heap.size, 0, none⟩)), (73, .int .u8 (x0 : Int)), (74, .slice p n c), (75, .int .i64 (n : Int)), (78, .int .i64 0)] [(76, fun v w => ∃ V, v = .tuple #[V, .int .i64 0] ∧ ValsV V w (strs ll)), (68, fun v w => ∃ V, v = .tuple #[V, .int .i64 0] ∧ ValsV V w (strs ll)), (77, fun v w => ValsV v w (strs ll)), (13, fun v w => ValsV v w (strs ll))] rfl (by kernel_rfl) (by kernel_rfl) (by kernel_rfl) (by kernel_rfl) (by kernel_rfl) (by kernel_rfl) (by kernel_rfl) (by kernel_rfl) ?hst (Below.refl _ _) (fun hA => ⟨.inl (.inl (ow_val hA (wants_none rfl) 69 (.slice (some B) m1 d) (by kernel_rfl) rfl rfl rfl rfl (by kernel_rfl) (fun w => by kernel_rfl))), .inl (.inl (ow_val hA (wants_none rfl) 70 (.pointer (some (B.add 0))) (by kernel_rfl) rfl rfl rfl rfl (by kernel_rfl) (fun w => run_idxS (c := d) (i := 0) rfl (by kernel_rfl) rfl Try.underlying22 hm1 Try.sizeOf9 w))), .inl (.inl (ow_elem hA (wants_none rfl) 71 (.string (strOf aL)) (by kernel_rfl) rfl rfl rfl rfl (by kernel_rfl) 9 ag_str (.tmp 70) rfl (B.add 0) (by kernel_rfl) (fun w1 hb => KX0.out w1 hb))), .inl (.inl (ow_val hA (wants_none rfl) 72 (.pointer (some ⟨w.heap.size, 0, none⟩)) (by kernel_rfl) rfl rfl rfl rfl (by kernel_rfl) (fun w => run_idx (i := 0) rfl (by kernel_rfl) rfl Try.underlying49 (by decide) sz_u8 w))), .inl (.inl (ow_elem hA (wants_none rfl) 73 (.int .u8 (x0 : Int)) (by kernel_rfl) rfl rfl rfl rfl (by kernel_rfl) 5 ag_u8 (.tmp 72) rfl (⟨w.heap.size, 0, none⟩) (by kernel_rfl) (fun w1 hb => KC0.out w1 hb))), .inl (.inl (ow_val hA (wants_none rfl) 74 (.slice p n c) (by kernel_rfl) rfl rfl rfl rfl (by kernel_rfl) (fun w => by kernel_rfl))), .inl (.inl (ow_val hA (wants_none rfl) 75 (.int .i64 (n : Int)) (by kernel_rfl) rfl rfl rfl rfl (by kernel_rfl) (fun w => by kernel_rfl))), .inl (.inl (ow_call (wants_none rfl) 76 15 Try.f15 _ [.tmp 71, .tmp 73, .tmp 75] _ rfl rfl Try.func15 (by kernel_rfl) rfl (fun a w1 hF hb hgot => by
 have e1 := gotE_det (d := 71) (v := .string (strOf aL)) hA hgot (by kernel_rfl) rfl rfl (by kernel_rfl)
 have e2 := gotE_det (d := 73) (v := .int .u8 (x0 : Int)) hA hgot (by kernel_rfl) rfl rfl (by kernel_rfl)
 have e3 := gotE_det (d := 75) (v := .int .i64 (n : Int)) hA hgot (by kernel_rfl) rfl rfl (by kernel_rfl)
 refine (show Calls _ _ #[a.eval (.tmp 71), a.eval (.tmp 73), a.eval (.tmp 75)] _ _ from ?_)
 rw [e1, e2, e3]
 refine (KT2.out w1).mono ?_
 rintro e w2 ⟨V, rfl, hV, hb2⟩
 exact ⟨_, rfl, rel_spec _ rfl ⟨V, rfl, hV⟩, hb2, fun h => by cases h⟩))), .inl (.inl (ow_pure (wants_none rfl) 68 76 rfl (fun v w => ∃ V, v = .tuple #[V, .int .i64 0] ∧ ValsV V w (strs ll)) (fun v w => ∃ V, v = .tuple #[V, .int .i64 0] ∧ ValsV V w (strs ll)) rfl rfl (by kernel_rfl) (by kernel_rfl) rfl (fun a w1 h1 => ⟨_, by unfold execOp; rfl, h1⟩))), .inl (.inl (ow_pure (wants_none rfl) 77 68 rfl (fun v w => ∃ V, v = .tuple #[V, .int .i64 0] ∧ ValsV V w (strs ll)) (fun v w => ValsV v w (strs ll)) rfl rfl (by kernel_rfl) (by kernel_rfl) rfl (fun a w1 h1 => by obtain ⟨V, e, hV⟩ := h1; exact ⟨V, run_ext rfl e rfl w1, hV⟩))), .inl (.inl (ow_pureD hA (wants_none rfl) 78 68 rfl (fun v w => ∃ V, v = .tuple #[V, .int .i64 0] ∧ ValsV V w (strs ll)) (.int .i64 0) rfl rfl (by kernel_rfl) (by kernel_rfl) rfl rfl (fun a w1 h1 => by obtain ⟨V, e, hV⟩ := h1; exact run_ext rfl e rfl w1))), .inl (.inl (ow_pure (wants_none rfl) 13 77 rfl (fun v w => ValsV v w (strs ll)) (fun v w => ValsV v w (strs ll)) rfl rfl (by kernel_rfl) (by kernel_rfl) rfl (fun a w1 h1 => ⟨_, by unfold execOp; rfl, h1⟩))), trivial⟩) ?_
  case hst =>
    intro q hq v w6 w7 h1 h2
    simp only [List.mem_cons, List.not_mem_nil, or_false] at hq
    rcases hq with rfl | rfl | rfl | rfl
    · obtain ⟨V, e, hV⟩ := h1
      exact ⟨V, e, hV.under h2⟩
    · obtain ⟨V, e, hV⟩ := h1
      exact ⟨V, e, hV.under h2⟩
    · exact ValsV.under h1 h2
    · exact ValsV.under h1 h2
  intro fv w6 hf hb6
  have hy := hf 13 _ rfl
  obtain ⟨y, hyv⟩ : ∃ v, v = fv 13 := ⟨_, rfl⟩
  rw [← hyv] at hy
  have V6 := KV5.out.under hb6
  have q6 := q5.trans (hb6.mono q5.size)
  obtain ⟨q, hq⟩ : ∃ q : Option Addr, q = if d = 1 then some B else some (B.add 1) := ⟨_, rfl⟩
  have hT6 : ValsV (.slice q (m1 - 1) (d - 1)) w6 (strs mm) := tail_vals V6 hq
  have KQ : Kept _ := ⟨hq⟩
  clear hf hq V6 KV5 KX0 KC0 KT2 B5 q5
  simp only [putR, List.foldl_cons, List.foldl_nil, List.map_cons, List.map_nil, Act.put, List.setIfInBounds_toArray, List.set_cons_succ, List.set_cons_zero]
  rw [← hyv]
  clear hyv
  go_wp2_with fail
  refine (CS.out w6 y q6 hy).mono ?_
  rintro e w7 ⟨rfl, q7⟩
  have hT7 := hT6.under q7
  replace q7 := q6.trans (q7.mono q6.size)
  clear hT6 hy
  go_wp2_with (first | ((with_reducible refine wv_val (d := 88) ?hd ?hw (.slice q (m1 - 1) (d - 1)) ?hr ?_); (case hd => rfl); (case hw => kernel_rfl); (case hr => intro w; exact cut1_run rfl (by kernel_rfl) hm1p hd5 KQ.out w); simp only [Act.put, List.setIfInBounds_toArray, List.set_cons_succ, List.set_cons_zero]))
  refine (CS2.out w7 _ q7 hT7).mono ?_
  rintro e w8 ⟨rfl, q8⟩
  go_wp2_with fail
  go_ret
  exact ⟨rfl, q7.trans (q8.mono q7.size)⟩
end Go.Proofs.Ytfkpbmkhkhnehaa.sh
