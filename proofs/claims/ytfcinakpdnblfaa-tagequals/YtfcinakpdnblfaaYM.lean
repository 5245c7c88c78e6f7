/-
  TagEquals, walked.
-/
import Derived.Test.YtfcinakpdnblfaaYJ
import Derived.Test.YtfcinakpdnblfaaSHN
namespace Go.Proofs.Ytfcinakpdnblfaa.sh
open Go Go.RowKit
set_option linter.unusedVariables false
set_option linter.unusedSimpArgs false

theorem ag_u16 (w : World) : (isAgg 28).run Try.prog w = .ok false w := by kernel_rfl
theorem fold_push : ∀ (l : List Nat) (b : ByteArray), ((l.map fun n : Nat => (n : Int)).foldl (fun r n => r.push (UInt8.ofNat n.toNat)) b).data.toList = b.data.toList ++ l.map (fun n => UInt8.ofNat n)
  | [], b => by simp
  | x :: l, b => by
    rw [List.map_cons, List.foldl_cons, fold_push l]
    simp [ByteArray.push]
theorem strOf_data (l : List Nat) : (strOf l).data.toList = l.map (fun n => UInt8.ofNat n) := by
  unfold strOf
  rw [fold_push]
  rfl
theorem strOf_inj {l m : List Nat} (hl : Bytes l) (hm : Bytes m) (h : (strOf l).toList = (strOf m).toList) : l = m := by
  rw [ByteArray.toList_eq, ByteArray.toList_eq] at h
  have h1 : l.map (fun n => UInt8.ofNat n) = m.map (fun n => UInt8.ofNat n) := by rw [← strOf_data, ← strOf_data, h]
  have h2 : ∀ k : List Nat, Bytes k → (k.map (fun n => UInt8.ofNat n)).map (fun u => u.toNat) = k := fun k hk => by
    rw [List.map_map]
    conv => rhs; rw [← List.map_id k]
    refine List.map_congr_left fun x hx => ?_
    have := hk.all x hx
    simp
    omega
  rw [← h2 l hl, h1, h2 m hm]
theorem run_eql_strB {o : Oper} {a : Act} {x y : Operand} {u : TypeId} {s t : ByteArray} (b : Bool) (ho : o.op = .binOp .eql 9 x y u) (hx : a.eval x = .string s) (hy : a.eval y = .string t) (hb : (s.toList == t.toList) = b) (w : World) : (execOp a.eval o).run Try.prog w = .ok (.value (.bool b)) w := by
  unfold execOp
  simp only [ho, hx, hy]
  rw [← hb]
  simp [go_sem]
theorem run_neqB {o : Oper} {a : Act} {x y : Operand} (b : Bool) (ho : o.op = .binOp .neq 4 x y 4) (hx : a.eval x = .bool b) (hy : a.eval y = .bool b) (w : World) : (execOp a.eval o).run Try.prog w = .ok (.value (.bool false)) w := by
  unfold execOp
  simp only [ho, hx, hy]
  simp [go_sem]
theorem run_eqIF' {o : Oper} {a : Act} {x : Operand} {i : Nat} (c : Nat) (ho : o.op = .binOp .eql 3 x (.const (.int .i64 (c : Int))) 3) (hx : a.eval x = .int .i64 (i : Int)) (h : i ≠ c) (w : World) : (execOp a.eval o).run Try.prog w = .ok (.value (.bool false)) w := by
  have e3 : a.eval (.const (.int .i64 (c : Int))) = .int .i64 (c : Int) := rfl
  unfold execOp
  simp only [ho, hx, e3]
  simp [go_sem]
  omega
theorem xor_ne (u y : Nat) (h : y ≠ 0) : u ^^^ y ≠ u := fun e => by
  have h2 : u ^^^ (u ^^^ y) = u ^^^ u := by rw [e]
  rw [← Nat.xor_assoc, Nat.xor_self, Nat.zero_xor] at h2
  exact h h2
theorem set_other (l : List Nat) (j u z : Nat) (hu : l[j]? = some u) (h : z ≠ u) : l ≠ l.set j z := fun e => by
  have h1 : (l.set j z)[j]? = some z := by rw [List.getElem?_set_self (List.getElem?_eq_some_iff.1 hu).1]
  rw [← e, hu] at h1
  exact h (Option.some.inj h1).symm
theorem take_other (l : List Nat) (m : Nat) (h : l.length = m + 1) : l ≠ l.take m := fun e => by
  have := congrArg List.length e
  rw [List.length_take, h] at this
  omega

set_option maxRecDepth 100000 in
set_option maxHeartbeats 4000000 in
theorem equals6 (v0 v1 : Value) (l0 l1 : List Nat) (x y : Nat) (w : World) (hv0 : BytesV v0 w l0) (hy0 : Bytes l0) (hm0 : l0.length ≤ maxLen) (hv1 : BytesV v1 w l1) (hy1 : Bytes l1) (hm1 : l1.length ≤ maxLen) (hx : x < 65536) (hy : y < 256) :
    Calls Try.prog 4 #[.agg #[v0, v1, .int .u16 (x : Int), .int .u8 (y : Int)]] w fun e w' => e = .returned (.bool true) ∧ Below w.heap.size w w' := by
  obtain ⟨EB, hEB⟩ : ∃ b, b = decide (l0 = l1) := ⟨_, rfl⟩
  have EBS : Kept (((strOf l0).toList == (strOf l1).toList) = EB) := ⟨by
    rw [hEB]
    by_cases h : l0 = l1
    · rw [h]; simp
    · rw [decide_eq_false h]
      exact beq_eq_false_iff_ne.2 (fun e => h (strOf_inj hy0 hy1 e))⟩
  have YL0 : Kept _ := ⟨hy0⟩
  have KV0 : Kept _ := ⟨hv0⟩
  have KV1 : Kept _ := ⟨hv1⟩
  have CEQ : Kept (∀ (w' : World) (u u' : Value) (a b : List Nat), BytesV u w' a → BytesV u' w' b → Bytes a → Bytes b → a.length ≤ 1000000 → Calls Try.prog 12 #[u, u'] w' fun e w2 => e = .returned (.bool (decide (a = b))) ∧ Below w'.heap.size w' w2) := ⟨fun w' u u' a b h1 h2 h3 h4 h5 => EqualD a b u u' w' h3 h4 h1 h2 h5⟩
  obtain ⟨p0, c0, rfl, hlc, _⟩ := hv0
  obtain ⟨p1, c1, rfl, _, _⟩ := hv1
  obtain ⟨n0, hn0⟩ : ∃ n, n = l0.length := ⟨_, rfl⟩
  obtain ⟨n1, hn1⟩ : ∃ n, n = l1.length := ⟨_, rfl⟩
  rw [← hn0] at KV0 hm0 hlc ⊢
  rw [← hn1] at KV1 hm1 ⊢
  have EN : Kept _ := ⟨hn0⟩
  have A0 : Blk (w.alloc (.cells #[.slice p0 n0 c0, .slice p1 n1 c1, .int .u16 (x : Int), .int .u8 (y : Int)] 30)) w.heap.size 30 #[.slice p0 n0 c0, .slice p1 n1 c1, .int .u16 (x : Int), .int .u8 (y : Int)] := blk_new w _ _
  have Q0 : Below w.heap.size w (w.alloc (.cells #[.slice p0 n0 c0, .slice p1 n1 c1, .int .u16 (x : Int), .int .u8 (y : Int)] 30)) := (Below.refl _ _).alloc (Nat.le_refl _) _
  have YL1 : Kept _ := ⟨hy1⟩
  have EEB : Kept _ := ⟨hEB⟩
  clear hEB hy0 hy1 hn0 hn1
  go_enter Try.func4, Try.ntmps4
  go_wp2_with fail
  refine (alive6 _).mono ?_
  rintro e w1 ⟨rfl, hb1⟩
  have B0 := A0.under hb1
  have Q1 := Q0.trans (hb1.mono Q0.size)
  clear A0 Q0 hb1
  go_wp2_with fail
  refine region_ownL w1 11 [(10, .pointer (some ⟨w.heap.size, 0, none⟩)), (11, .slice p0 n0 c0), (12, .pointer (some ⟨w.heap.size, 1, none⟩)), (13, .slice p1 n1 c1), (14, .pointer (some ⟨w.heap.size, 2, none⟩)), (15, .int .u16 (x : Int)), (16, .pointer (some ⟨w.heap.size, 3, none⟩)), (17, .int .u8 (y : Int)), (3, .slice p0 n0 c0), (4, .slice p1 n1 c1), (5, .int .u16 (x : Int))] [] [] [] rfl (by kernel_rfl) (by kernel_rfl) (by kernel_rfl) (by kernel_rfl) (by kernel_rfl) (by kernel_rfl) (by kernel_rfl) (by kernel_rfl) (by kernel_rfl) (by kernel_rfl) (by kernel_rfl) ?hst1 ?hst2 (Below.refl _ _) (fun hA => ⟨ow_val hA (wants_none rfl) 10 (.pointer (some ⟨w.heap.size, 0, none⟩)) (by kernel_rfl) rfl rfl rfl rfl (by kernel_rfl) (fun w => by kernel_rfl), ow_elem hA (wants_none rfl) 11 (.slice p0 n0 c0) (by kernel_rfl) rfl rfl rfl rfl (by kernel_rfl) 23 ag_bytes (.tmp 10) rfl (⟨w.heap.size, 0, none⟩) (by kernel_rfl) (fun w1 hb => (B0.under hb).cell rfl), ow_val hA (wants_none rfl) 12 (.pointer (some ⟨w.heap.size, 1, none⟩)) (by kernel_rfl) rfl rfl rfl rfl (by kernel_rfl) (fun w => by kernel_rfl), ow_elem hA (wants_none rfl) 13 (.slice p1 n1 c1) (by kernel_rfl) rfl rfl rfl rfl (by kernel_rfl) 23 ag_bytes (.tmp 12) rfl (⟨w.heap.size, 1, none⟩) (by kernel_rfl) (fun w1 hb => (B0.under hb).cell rfl), ow_val hA (wants_none rfl) 14 (.pointer (some ⟨w.heap.size, 2, none⟩)) (by kernel_rfl) rfl rfl rfl rfl (by kernel_rfl) (fun w => by kernel_rfl), ow_elem hA (wants_none rfl) 15 (.int .u16 (x : Int)) (by kernel_rfl) rfl rfl rfl rfl (by kernel_rfl) 28 ag_u16 (.tmp 14) rfl (⟨w.heap.size, 2, none⟩) (by kernel_rfl) (fun w1 hb => (B0.under hb).cell rfl), ow_val hA (wants_none rfl) 16 (.pointer (some ⟨w.heap.size, 3, none⟩)) (by kernel_rfl) rfl rfl rfl rfl (by kernel_rfl) (fun w => by kernel_rfl), ow_elem hA (wants_none rfl) 17 (.int .u8 (y : Int)) (by kernel_rfl) rfl rfl rfl rfl (by kernel_rfl) 5 ag_u8 (.tmp 16) rfl (⟨w.heap.size, 3, none⟩) (by kernel_rfl) (fun w1 hb => (B0.under hb).cell rfl), ow_val hA (wants_none rfl) 3 (.slice p0 n0 c0) (by kernel_rfl) rfl rfl rfl rfl (by kernel_rfl) (fun w => by kernel_rfl), ow_val hA (wants_none rfl) 4 (.slice p1 n1 c1) (by kernel_rfl) rfl rfl rfl rfl (by kernel_rfl) (fun w => by kernel_rfl), ow_val hA (wants_none rfl) 5 (.int .u16 (x : Int)) (by kernel_rfl) rfl rfl rfl rfl (by kernel_rfl) (fun w => by kernel_rfl), trivial⟩) ?_
  case hst1 => intro q hq; cases hq
  case hst2 => intro q hq; cases hq
  intro fv w2 hf hD hb2
  simp only [putR, List.foldl_cons, List.foldl_nil, List.map_cons, List.map_nil, Act.put, List.setIfInBounds_toArray, List.set_cons_succ, List.set_cons_zero]
  have Q2 := Q1.trans (hb2.mono Q1.size)
  clear hf hD B0 Q1 hb2
  by_cases h0 : n0 ≤ 1000
  case neg =>
    have hi : (1000 : Int) < (n0 : Int) := by omega
    go_wp2_with fail
    go_ret
    exact ⟨rfl, Q2⟩
  case pos =>
  have h0i : ¬ (1000 : Int) < (n0 : Int) := by omega
  by_cases h1 : n1 ≤ 1000
  case neg =>
    have hi : (1000 : Int) < (n1 : Int) := by omega
    go_wp2_with fail
    go_ret
    exact ⟨rfl, Q2⟩
  case pos =>
  have h1i : ¬ (1000 : Int) < (n1 : Int) := by omega
  have n6 : l0.length ≤ 1000000 := by have := EN.out; omega
  have LB : Kept (([] : List Nat).length + l0.length ≤ 8796093022208) := ⟨by simp; omega⟩
  have CE : Kept (∀ w', Below w2.heap.size w2 w' → Calls Try.prog 12 [.slice p0 n0 c0, .slice p1 n1 c1].toArray w' fun e w2 => e = .returned (.bool EB) ∧ Below w'.heap.size w' w2) := ⟨fun w' hb => by
    rw [EEB.out]
    exact CEQ.out w' _ _ l0 l1 (KV0.out.under (Q2.trans (hb.mono Q2.size))) (KV1.out.under (Q2.trans (hb.mono Q2.size))) YL0.out YL1.out n6⟩
  have CC : Kept (∀ w' v, Below w2.heap.size w2 w' → Row w2.heap.size 5 .u8 ([] ++ l0) v w' → Calls Try.prog 12 #[.slice p0 n0 c0, v] w' fun e w2 => e = .returned (.bool true) ∧ Below w'.heap.size w' w2) := ⟨fun w' v hb hr => by
    have h := CEQ.out w' _ v l0 l0 (KV0.out.under (Q2.trans (hb.mono Q2.size))) (row_bytes hr) YL0.out YL0.out n6
    rw [decide_eq_true rfl] at h
    exact h⟩
  by_cases hz : 0 < n0
  case neg =>
    have hz0 : n0 = 0 := by omega
    have G0 : Kept (false = decide (0 < n0)) := ⟨by rw [hz0]; rfl⟩
    have e0 : (n0 : Int) = 0 := by omega
    have E0 : Kept _ := ⟨e0⟩
    clear e0 hz0
    go_wp2_with fail
    refine region_skipL w2 30 [(26, .slice p0 n0 c0), (27, .slice p1 n1 c1), (28, .bool EB), (29, .slice p0 n0 c0), (30, .string (strOf l0)), (31, .slice p1 n1 c1), (32, .string (strOf l1)), (33, .bool EB), (34, .bool false), (35, .bool false), (36, .slice p0 n0 c0), (37, .slice p0 n0 c0), (39, .bool true), (40, .bool false), (41, .bool false), (42, .bool false), (43, .slice p0 n0 c0), (44, .int .i64 (n0 : Int)), (45, .bool false), (46, .bool false), (47, undef), (48, undef), (49, undef), (50, undef), (51, undef), (52, undef), (53, undef), (54, .bool false), (55, .bool false)] [(38, Row w2.heap.size 5 .u8 ([] ++ l0))] rfl (by kernel_rfl) (by kernel_rfl) (by kernel_rfl) (by kernel_rfl) (by kernel_rfl) (by kernel_rfl) (by kernel_rfl) (by kernel_rfl) ?hst (Below.refl _ _) (fun hA => ⟨.inl (ow_val hA (wants_none rfl) 26 (.slice p0 n0 c0) (by kernel_rfl) rfl rfl rfl rfl (by kernel_rfl) (fun w => by kernel_rfl)), .inl (ow_val hA (wants_none rfl) 27 (.slice p1 n1 c1) (by kernel_rfl) rfl rfl rfl rfl (by kernel_rfl) (fun w => by kernel_rfl)), .inl (ow_calld hA (wants_none rfl) 28 (.bool EB) (by kernel_rfl) rfl rfl rfl rfl (by kernel_rfl) 12 Try.f12 _ [.tmp 26, .tmp 27] _ [.slice p0 n0 c0, .slice p1 n1 c1] rfl (by kernel_rfl) Try.func12 (by kernel_rfl) rfl (CE.out)), .inl (ow_val hA (wants_none rfl) 29 (.slice p0 n0 c0) (by kernel_rfl) rfl rfl rfl rfl (by kernel_rfl) (fun w => by kernel_rfl)), .inl (ow_str hA (wants_none rfl) 30 (.string (strOf l0)) (by kernel_rfl) rfl rfl rfl rfl (by kernel_rfl) (.tmp 29) rfl (.slice p0 n0 c0) (by kernel_rfl) l0 (fun w hb => KV0.out.under (Q2.trans (hb.mono Q2.size))) rfl), .inl (ow_val hA (wants_none rfl) 31 (.slice p1 n1 c1) (by kernel_rfl) rfl rfl rfl rfl (by kernel_rfl) (fun w => by kernel_rfl)), .inl (ow_str hA (wants_none rfl) 32 (.string (strOf l1)) (by kernel_rfl) rfl rfl rfl rfl (by kernel_rfl) (.tmp 31) rfl (.slice p1 n1 c1) (by kernel_rfl) l1 (fun w hb => KV1.out.under (Q2.trans (hb.mono Q2.size))) rfl), .inl (ow_val hA (wants_none rfl) 33 (.bool EB) (by kernel_rfl) rfl rfl rfl rfl (by kernel_rfl) (fun w => run_eql_strB EB rfl (by kernel_rfl) (by kernel_rfl) EBS.out w)), .inl (ow_val hA (wants_none rfl) 34 (.bool false) (by kernel_rfl) rfl rfl rfl rfl (by kernel_rfl) (fun w => run_neqB EB rfl (by kernel_rfl) (by kernel_rfl) w)), .inl (ow_val hA (wants_none rfl) 35 (.bool false) (by kernel_rfl) rfl rfl rfl rfl (by kernel_rfl) (fun w => by kernel_rfl)), .inl (ow_val hA (wants_at hA 9 false 35 rfl rfl (by kernel_rfl) rfl rfl (by kernel_rfl)) 36 (.slice p0 n0 c0) (by kernel_rfl) rfl rfl rfl rfl (by kernel_rfl) (fun w => by kernel_rfl)), .inl (ow_val hA (wants_at hA 9 false 35 rfl rfl (by kernel_rfl) rfl rfl (by kernel_rfl)) 37 (.slice p0 n0 c0) (by kernel_rfl) rfl rfl rfl rfl (by kernel_rfl) (fun w => by kernel_rfl)), .inl (ow_app (wants_at hA 9 false 35 rfl rfl (by kernel_rfl) rfl rfl (by kernel_rfl)) 38 rfl (.const (.slice none 0 0)) (.tmp 37) 23 5 .u8 1 rfl Try.underlying23 inf_u8 (by decide) ([]) (l0) LB.out rfl (fun a w1 hF hb hgot => ⟨row_nil _ _ _ _, by rw [gotE_det (v := .slice p0 n0 c0) hA hgot (by kernel_rfl) rfl rfl (by kernel_rfl)]; exact KV0.out.under (Q2.trans (hb.mono Q2.size)), fun b hb => by cases hb⟩)), .inl (ow_call (wants_at hA 9 false 35 rfl rfl (by kernel_rfl) rfl rfl (by kernel_rfl)) 39 12 Try.f12 _ [.tmp 36, .tmp 38] _ rfl rfl Try.func12 (by kernel_rfl) rfl (fun a w1 hF hb hgot => by rw [List.map_cons, List.map_cons, List.map_nil, gotE_det hA hgot (by kernel_rfl) rfl rfl (by kernel_rfl)]; exact (CC.out w1 _ hb (gotE_spec hgot (Row w2.heap.size 5 .u8 ([] ++ l0)) (by kernel_rfl) rfl rfl).1).mono fun e w2 hh => ⟨_, hh.1, rel_det hA rfl (by kernel_rfl), hh.2, fun h => by cases h⟩)), .inl (ow_val hA (wants_at hA 9 false 35 rfl rfl (by kernel_rfl) rfl rfl (by kernel_rfl)) 40 (.bool false) (by kernel_rfl) rfl rfl rfl rfl (by kernel_rfl) (fun w => by kernel_rfl)), .inl (ow_val hA (wants_none rfl) 41 (.bool false) (by kernel_rfl) rfl rfl rfl rfl (by kernel_rfl) (fun w => by kernel_rfl)), .inl (ow_val hA (wants_none rfl) 42 (.bool false) (by kernel_rfl) rfl rfl rfl rfl (by kernel_rfl) (fun w => by kernel_rfl)), .inl (ow_val hA (wants_at hA 16 false 42 rfl rfl (by kernel_rfl) rfl rfl (by kernel_rfl)) 43 (.slice p0 n0 c0) (by kernel_rfl) rfl rfl rfl rfl (by kernel_rfl) (fun w => by kernel_rfl)), .inl (ow_val hA (wants_at hA 16 false 42 rfl rfl (by kernel_rfl) rfl rfl (by kernel_rfl)) 44 (.int .i64 (n0 : Int)) (by kernel_rfl) rfl rfl rfl rfl (by kernel_rfl) (fun w => by kernel_rfl)), .inl (ow_val hA (wants_at hA 16 false 42 rfl rfl (by kernel_rfl) rfl rfl (by kernel_rfl)) 45 (.bool false) (by kernel_rfl) rfl rfl rfl rfl (by kernel_rfl) (fun w => run_gtrI 0 rfl (by kernel_rfl) G0.out w)), .inl (ow_val hA (wants_at hA 16 false 42 rfl rfl (by kernel_rfl) rfl rfl (by kernel_rfl)) 46 (.bool false) (by kernel_rfl) rfl rfl rfl rfl (by kernel_rfl) (fun w => by kernel_rfl)), skip_at hA 20 true false 47 46 rfl rfl (by kernel_rfl) rfl (by kernel_rfl) rfl rfl rfl (by kernel_rfl), skip_at hA 20 true false 48 46 rfl rfl (by kernel_rfl) rfl (by kernel_rfl) rfl rfl rfl (by kernel_rfl), skip_at hA 20 true false 49 46 rfl rfl (by kernel_rfl) rfl (by kernel_rfl) rfl rfl rfl (by kernel_rfl), skip_at hA 20 true false 50 46 rfl rfl (by kernel_rfl) rfl (by kernel_rfl) rfl rfl rfl (by kernel_rfl), skip_at hA 20 true false 51 46 rfl rfl (by kernel_rfl) rfl (by kernel_rfl) rfl rfl rfl (by kernel_rfl), skip_at hA 20 true false 52 46 rfl rfl (by kernel_rfl) rfl (by kernel_rfl) rfl rfl rfl (by kernel_rfl), skip_at hA 20 true false 53 46 rfl rfl (by kernel_rfl) rfl (by kernel_rfl) rfl rfl rfl (by kernel_rfl), .inl (ow_val hA (wants_at hA 16 false 42 rfl rfl (by kernel_rfl) rfl rfl (by kernel_rfl)) 54 (.bool false) (by kernel_rfl) rfl rfl rfl rfl (by kernel_rfl) (fun w => by kernel_rfl)), .inl (ow_val hA (wants_none rfl) 55 (.bool false) (by kernel_rfl) rfl rfl rfl rfl (by kernel_rfl) (fun w => by kernel_rfl)), trivial⟩) ?_
    case hst => intro q hq v w w' h1 h2; simp only [List.mem_singleton] at hq; subst hq; exact h1.under h2
    intro fv w3 hf hb3
    have Q3 := Q2.trans (hb3.mono Q2.size)
    clear hf
    simp only [putR, List.foldl_cons, List.foldl_nil, List.map_cons, List.map_nil, Act.put, List.setIfInBounds_toArray, List.set_cons_succ, List.set_cons_zero]
    refine (show wpList _ _ _ [] _ _ from ?_); refine wpList_nil ?_
    obtain rfl : n0 = 0 := by omega
    go_wp2_with fail
    go_ret
    exact ⟨rfl, Q3⟩
  case pos =>
    obtain ⟨m, hm⟩ : ∃ m, n0 = m + 1 := ⟨n0 - 1, by omega⟩
    have Em : Kept _ := ⟨hm⟩
    have G0 : Kept (true = decide (0 < n0)) := ⟨(decide_eq_true hz).symm⟩
    have n62 : n0 < 4611686018427387904 := by omega
    have mc : m ≤ c0 := by omega
    have CM : Kept (∀ w', Below w2.heap.size w2 w' → Calls Try.prog 12 [.slice p0 n0 c0, .slice p0 m c0].toArray w' fun e w2 => e = .returned (.bool false) ∧ Below w'.heap.size w' w2) := ⟨fun w' hb => by
      have hV := KV0.out.under (Q2.trans (hb.mono Q2.size))
      have h := CEQ.out w' _ (.slice p0 m c0) l0 (l0.take m) hV ((bytesV_ints hV).take (by have := EN.out; omega)) YL0.out (YL0.out.take m) n6
      rw [decide_eq_false (take_other l0 m (by rw [← EN.out, hm]))] at h
      exact h⟩
    clear hm
    go_wp2_with fail
    refine region_skipL w2 30 [(26, .slice p0 n0 c0), (27, .slice p1 n1 c1), (28, .bool EB), (29, .slice p0 n0 c0), (30, .string (strOf l0)), (31, .slice p1 n1 c1), (32, .string (strOf l1)), (33, .bool EB), (34, .bool false), (35, .bool false), (36, .slice p0 n0 c0), (37, .slice p0 n0 c0), (39, .bool true), (40, .bool false), (41, .bool false), (42, .bool false), (43, .slice p0 n0 c0), (44, .int .i64 (n0 : Int)), (45, .bool true), (46, .bool true), (47, .slice p0 n0 c0), (48, .slice p0 n0 c0), (49, .slice p0 n0 c0), (50, .int .i64 (n0 : Int)), (51, .int .i64 (m : Int)), (52, .slice p0 m c0), (53, .bool false), (54, .bool false), (55, .bool false)] [(38, Row w2.heap.size 5 .u8 ([] ++ l0))] rfl (by kernel_rfl) (by kernel_rfl) (by kernel_rfl) (by kernel_rfl) (by kernel_rfl) (by kernel_rfl) (by kernel_rfl) (by kernel_rfl) ?hst (Below.refl _ _) (fun hA => ⟨.inl (ow_val hA (wants_none rfl) 26 (.slice p0 n0 c0) (by kernel_rfl) rfl rfl rfl rfl (by kernel_rfl) (fun w => by kernel_rfl)), .inl (ow_val hA (wants_none rfl) 27 (.slice p1 n1 c1) (by kernel_rfl) rfl rfl rfl rfl (by kernel_rfl) (fun w => by kernel_rfl)), .inl (ow_calld hA (wants_none rfl) 28 (.bool EB) (by kernel_rfl) rfl rfl rfl rfl (by kernel_rfl) 12 Try.f12 _ [.tmp 26, .tmp 27] _ [.slice p0 n0 c0, .slice p1 n1 c1] rfl (by kernel_rfl) Try.func12 (by kernel_rfl) rfl (CE.out)), .inl (ow_val hA (wants_none rfl) 29 (.slice p0 n0 c0) (by kernel_rfl) rfl rfl rfl rfl (by kernel_rfl) (fun w => by kernel_rfl)), .inl (ow_str hA (wants_none rfl) 30 (.string (strOf l0)) (by kernel_rfl) rfl rfl rfl rfl (by kernel_rfl) (.tmp 29) rfl (.slice p0 n0 c0) (by kernel_rfl) l0 (fun w hb => KV0.out.under (Q2.trans (hb.mono Q2.size))) rfl), .inl (ow_val hA (wants_none rfl) 31 (.slice p1 n1 c1) (by kernel_rfl) rfl rfl rfl rfl (by kernel_rfl) (fun w => by kernel_rfl)), .inl (ow_str hA (wants_none rfl) 32 (.string (strOf l1)) (by kernel_rfl) rfl rfl rfl rfl (by kernel_rfl) (.tmp 31) rfl (.slice p1 n1 c1) (by kernel_rfl) l1 (fun w hb => KV1.out.under (Q2.trans (hb.mono Q2.size))) rfl), .inl (ow_val hA (wants_none rfl) 33 (.bool EB) (by kernel_rfl) rfl rfl rfl rfl (by kernel_rfl) (fun w => run_eql_strB EB rfl (by kernel_rfl) (by kernel_rfl) EBS.out w)), .inl (ow_val hA (wants_none rfl) 34 (.bool false) (by kernel_rfl) rfl rfl rfl rfl (by kernel_rfl) (fun w => run_neqB EB rfl (by kernel_rfl) (by kernel_rfl) w)), .inl (ow_val hA (wants_none rfl) 35 (.bool false) (by kernel_rfl) rfl rfl rfl rfl (by kernel_rfl) (fun w => by kernel_rfl)), .inl (ow_val hA (wants_at hA 9 false 35 rfl rfl (by kernel_rfl) rfl rfl (by kernel_rfl)) 36 (.slice p0 n0 c0) (by kernel_rfl) rfl rfl rfl rfl (by kernel_rfl) (fun w => by kernel_rfl)), .inl (ow_val hA (wants_at hA 9 false 35 rfl rfl (by kernel_rfl) rfl rfl (by kernel_rfl)) 37 (.slice p0 n0 c0) (by kernel_rfl) rfl rfl rfl rfl (by kernel_rfl) (fun w => by kernel_rfl)), .inl (ow_app (wants_at hA 9 false 35 rfl rfl (by kernel_rfl) rfl rfl (by kernel_rfl)) 38 rfl (.const (.slice none 0 0)) (.tmp 37) 23 5 .u8 1 rfl Try.underlying23 inf_u8 (by decide) ([]) (l0) LB.out rfl (fun a w1 hF hb hgot => ⟨row_nil _ _ _ _, by rw [gotE_det (v := .slice p0 n0 c0) hA hgot (by kernel_rfl) rfl rfl (by kernel_rfl)]; exact KV0.out.under (Q2.trans (hb.mono Q2.size)), fun b hb => by cases hb⟩)), .inl (ow_call (wants_at hA 9 false 35 rfl rfl (by kernel_rfl) rfl rfl (by kernel_rfl)) 39 12 Try.f12 _ [.tmp 36, .tmp 38] _ rfl rfl Try.func12 (by kernel_rfl) rfl (fun a w1 hF hb hgot => by rw [List.map_cons, List.map_cons, List.map_nil, gotE_det hA hgot (by kernel_rfl) rfl rfl (by kernel_rfl)]; exact (CC.out w1 _ hb (gotE_spec hgot (Row w2.heap.size 5 .u8 ([] ++ l0)) (by kernel_rfl) rfl rfl).1).mono fun e w2 hh => ⟨_, hh.1, rel_det hA rfl (by kernel_rfl), hh.2, fun h => by cases h⟩)), .inl (ow_val hA (wants_at hA 9 false 35 rfl rfl (by kernel_rfl) rfl rfl (by kernel_rfl)) 40 (.bool false) (by kernel_rfl) rfl rfl rfl rfl (by kernel_rfl) (fun w => by kernel_rfl)), .inl (ow_val hA (wants_none rfl) 41 (.bool false) (by kernel_rfl) rfl rfl rfl rfl (by kernel_rfl) (fun w => by kernel_rfl)), .inl (ow_val hA (wants_none rfl) 42 (.bool false) (by kernel_rfl) rfl rfl rfl rfl (by kernel_rfl) (fun w => by kernel_rfl)), .inl (ow_val hA (wants_at hA 16 false 42 rfl rfl (by kernel_rfl) rfl rfl (by kernel_rfl)) 43 (.slice p0 n0 c0) (by kernel_rfl) rfl rfl rfl rfl (by kernel_rfl) (fun w => by kernel_rfl)), .inl (ow_val hA (wants_at hA 16 false 42 rfl rfl (by kernel_rfl) rfl rfl (by kernel_rfl)) 44 (.int .i64 (n0 : Int)) (by kernel_rfl) rfl rfl rfl rfl (by kernel_rfl) (fun w => by kernel_rfl)), .inl (ow_val hA (wants_at hA 16 false 42 rfl rfl (by kernel_rfl) rfl rfl (by kernel_rfl)) 45 (.bool true) (by kernel_rfl) rfl rfl rfl rfl (by kernel_rfl) (fun w => run_gtrI 0 rfl (by kernel_rfl) G0.out w)), .inl (ow_val hA (wants_at hA 16 false 42 rfl rfl (by kernel_rfl) rfl rfl (by kernel_rfl)) 46 (.bool true) (by kernel_rfl) rfl rfl rfl rfl (by kernel_rfl) (fun w => by kernel_rfl)), .inl (ow_val hA (wants_at hA 20 true 46 rfl rfl (by kernel_rfl) rfl rfl (by kernel_rfl)) 47 (.slice p0 n0 c0) (by kernel_rfl) rfl rfl rfl rfl (by kernel_rfl) (fun w => by kernel_rfl)), .inl (ow_val hA (wants_at hA 20 true 46 rfl rfl (by kernel_rfl) rfl rfl (by kernel_rfl)) 48 (.slice p0 n0 c0) (by kernel_rfl) rfl rfl rfl rfl (by kernel_rfl) (fun w => by kernel_rfl)), .inl (ow_val hA (wants_at hA 20 true 46 rfl rfl (by kernel_rfl) rfl rfl (by kernel_rfl)) 49 (.slice p0 n0 c0) (by kernel_rfl) rfl rfl rfl rfl (by kernel_rfl) (fun w => by kernel_rfl)), .inl (ow_val hA (wants_at hA 20 true 46 rfl rfl (by kernel_rfl) rfl rfl (by kernel_rfl)) 50 (.int .i64 (n0 : Int)) (by kernel_rfl) rfl rfl rfl rfl (by kernel_rfl) (fun w => by kernel_rfl)), .inl (ow_val hA (wants_at hA 20 true 46 rfl rfl (by kernel_rfl) rfl rfl (by kernel_rfl)) 51 (.int .i64 (m : Int)) (by kernel_rfl) rfl rfl rfl rfl (by kernel_rfl) (fun w => run_subZ 1 rfl (by kernel_rfl) Em.out n62 w)), .inl (ow_val hA (wants_at hA 20 true 46 rfl rfl (by kernel_rfl) rfl rfl (by kernel_rfl)) 52 (.slice p0 m c0) (by kernel_rfl) rfl rfl rfl rfl (by kernel_rfl) (fun w => cutTo_run (l := n0) rfl (by kernel_rfl) (by kernel_rfl) Try.underlying23 sz_u8 mc w)), .inl (ow_calld hA (wants_at hA 20 true 46 rfl rfl (by kernel_rfl) rfl rfl (by kernel_rfl)) 53 (.bool false) (by kernel_rfl) rfl rfl rfl rfl (by kernel_rfl) 12 Try.f12 _ [.tmp 47, .tmp 52] _ [.slice p0 n0 c0, .slice p0 m c0] rfl (by kernel_rfl) Try.func12 (by kernel_rfl) rfl (CM.out)), .inl (ow_val hA (wants_at hA 16 false 42 rfl rfl (by kernel_rfl) rfl rfl (by kernel_rfl)) 54 (.bool false) (by kernel_rfl) rfl rfl rfl rfl (by kernel_rfl) (fun w => by kernel_rfl)), .inl (ow_val hA (wants_none rfl) 55 (.bool false) (by kernel_rfl) rfl rfl rfl rfl (by kernel_rfl) (fun w => by kernel_rfl)), trivial⟩) ?_
    case hst => intro q hq v w w' h1 h2; simp only [List.mem_singleton] at hq; subst hq; exact h1.under h2
    intro fv w3 hf hb3
    have Q3 := Q2.trans (hb3.mono Q2.size)
    clear hf CE CC CM
    simp only [putR, List.foldl_cons, List.foldl_nil, List.map_cons, List.map_nil, Act.put, List.setIfInBounds_toArray, List.set_cons_succ, List.set_cons_zero]
    refine (show wpList _ _ _ [] _ _ from ?_); refine wpList_nil ?_
    have n00' : n0 ≠ 0 := by omega
    by_cases hy0 : y = 0
    case pos =>
      subst hy0
      go_wp2_with (first | ((with_reducible refine wv_val (d := 58) ?hd ?hw (.bool false) ?hr ?_); (case hd => rfl); (case hw => kernel_rfl); (case hr => intro w; exact run_eqIF' 0 rfl (by kernel_rfl) n00' w); simp only [Act.put, List.setIfInBounds_toArray, List.set_cons_succ, List.set_cons_zero]))
      go_ret
      exact ⟨rfl, Q3⟩
    case neg =>
      have n00 : n0 ≠ 0 := by omega
      have YB : Kept (false = decide (y = 0)) := ⟨(decide_eq_false hy0).symm⟩
      have V3 : Kept (BytesV (.slice p0 n0 c0) w3 l0) := ⟨KV0.out.under Q3⟩
      go_wp2_with (first | ((with_reducible refine wv_val (d := 58) ?hd ?hw (.bool false) ?hr ?_); (case hd => rfl); (case hw => kernel_rfl); (case hr => intro w; exact run_eqIF' 0 rfl (by kernel_rfl) n00 w); simp only [Act.put, List.setIfInBounds_toArray, List.set_cons_succ, List.set_cons_zero]) | ((with_reducible refine wv_val (d := 61) ?hd ?hw (.bool false) ?hr ?_); (case hd => rfl); (case hw => kernel_rfl); (case hr => intro w; exact run_eq08 false rfl (by kernel_rfl) YB.out w); simp only [Act.put, List.setIfInBounds_toArray, List.set_cons_succ, List.set_cons_zero]) | (refine wl_app (by kernel_rfl) (.const (.slice none 0 0)) (.tmp 63) 23 5 .u8 1 rfl Try.underlying23 inf_u8 (by decide) w3.heap.size [] l0 (.slice none 0 0) (.slice p0 n0 c0) (by kernel_rfl) (by kernel_rfl) (row_nil _ _ _ _) V3.out LB.out (Nat.le_refl _) ?_))
      intro v7 w4 RO G4 _
      have HB4 : Below w3.heap.size w3 w4 := grown_mono G4 (Nat.le_refl _) (fun b hb => by cases hb)
      have Q4 := Q3.trans (HB4.mono Q3.size)
      have RO : Row w3.heap.size 5 .u8 l0 v7 w4 := RO
      obtain ⟨g, cap, cur, ev, hbg, hBg, hcs, hce⟩ := Row.form RO (by rw [← EN.out]; exact hz)
      rw [← EN.out] at ev hcs
      subst ev
      obtain ⟨j, hj⟩ : ∃ j, j = x % n0 := ⟨_, rfl⟩
      have jn : j < n0 := by rw [hj]; exact Nat.mod_lt _ hz
      obtain ⟨u, hu⟩ : ∃ u, l0[j]? = some u := ⟨_, List.getElem?_eq_getElem (by have := EN.out; omega)⟩
      obtain ⟨z, hz'⟩ : ∃ z, z = u ^^^ y := ⟨_, rfl⟩
      have u8 : u < 256 := YL0.out j u hu
      have z8 : z < 256 := by rw [hz']; exact Nat.xor_lt_two_pow (n := 8) u8 hy
      have KC : Kept (w4.cell? ⟨g, j, none⟩ = some (.int .u8 (u : Int))) := ⟨hBg.cell (hce j u hu)⟩
      have NE : Kept (l0 ≠ l0.set j z) := ⟨set_other l0 j u z hu (by rw [hz']; exact xor_ne u y hy0)⟩
      have YS : Kept (Bytes (l0.set j z)) := ⟨YL0.out.set j z z8⟩
      have Hj : Kept _ := ⟨hj⟩
      have Hz : Kept _ := ⟨hz'⟩
      have jc : Kept (j < cur.size) := ⟨by omega⟩
      have x62 : x < 4611686018427387904 := by omega
      have KR : Kept _ := ⟨RO⟩
      have KG : Kept _ := ⟨hBg⟩
      clear hj hz' hu hce hcs G4 RO
      go_wp2_with (first | ((with_reducible refine wv_val (d := 67) ?hd ?hw (.int .i64 (x : Int)) ?hr ?_); (case hd => rfl); (case hw => kernel_rfl); (case hr => intro w; exact run_c163 rfl (by kernel_rfl) hx w); simp only [Act.put, List.setIfInBounds_toArray, List.set_cons_succ, List.set_cons_zero]) | ((with_reducible refine wv_val (d := 70) ?hd ?hw (.int .i64 (j : Int)) ?hr ?_); (case hd => rfl); (case hw => kernel_rfl); (case hr => intro w; exact run_remV rfl (by kernel_rfl) (by kernel_rfl) hz Hj.out x62 w); simp only [Act.put, List.setIfInBounds_toArray, List.set_cons_succ, List.set_cons_zero]) | ((with_reducible refine wv_val (d := 71) ?hd ?hw (.pointer (some ⟨g, j, none⟩)) ?hr ?_); (case hd => rfl); (case hw => kernel_rfl); (case hr => intro w; exact (by have h := run_idxS (A := ⟨g, 0, none⟩) (i := j) (l := n0) (c := cap) (o := _) (a := _) rfl (by kernel_rfl) (by kernel_rfl) Try.underlying23 jn sz_u8; rw [addr_add, Nat.zero_add] at h; exact h : ∀ w, _) w); simp only [Act.put, List.setIfInBounds_toArray, List.set_cons_succ, List.set_cons_zero]) | ((with_reducible refine wv_elem (d := 72) ?hd ?hw 5 ag_u8 (.tmp 71) ?ho (⟨g, j, none⟩) ?hx (.int .u8 (u : Int)) ?hc ?_); (case hd => rfl); (case hw => kernel_rfl); (case ho => rfl); (case hx => kernel_rfl); (case hc => exact KC.out); simp only [Act.put, List.setIfInBounds_toArray, List.set_cons_succ, List.set_cons_zero]) | ((with_reducible refine wv_val (d := 74) ?hd ?hw (.int .u8 (z : Int)) ?hr ?_); (case hd => rfl); (case hw => kernel_rfl); (case hr => intro w; exact run_xorV rfl (by kernel_rfl) (by kernel_rfl) u8 hy Hz.out w); simp only [Act.put, List.setIfInBounds_toArray, List.set_cons_succ, List.set_cons_zero]) | ((with_reducible refine wv_val (d := 75) ?hd ?hw (.pointer (some ⟨g, j, none⟩)) ?hr ?_); (case hd => rfl); (case hw => kernel_rfl); (case hr => intro w; exact (by have h := run_idxS (A := ⟨g, 0, none⟩) (i := j) (l := n0) (c := cap) (o := _) (a := _) rfl (by kernel_rfl) (by kernel_rfl) Try.underlying23 jn sz_u8; rw [addr_add, Nat.zero_add] at h; exact h : ∀ w, _) w); simp only [Act.put, List.setIfInBounds_toArray, List.set_cons_succ, List.set_cons_zero]) | (refine wl_setElem rfl 5 sz_u8 (.tmp 75) (.tmp 74) rfl g j .u8 (z : Int) rfl rfl _ KG.out jc.out ?_))
      intro w5 A5 P5
      have RS : Row w3.heap.size 5 .u8 (l0.set j z) (.slice (some ⟨g, 0, none⟩) n0 cap) w5 := row_set KR.out KG.out j z A5
      have Q5 := Q4.trans (P5.below (Nat.le_trans Q3.size hbg))
      have VS := row_bytes RS
      have E1 : Kept (Calls Try.prog 12 #[.slice p0 n0 c0, .slice (some ⟨g, 0, none⟩) n0 cap] w5 fun e w2 => e = .returned (.bool false) ∧ Below w5.heap.size w5 w2) := ⟨by
        have h := CEQ.out w5 _ _ l0 _ (KV0.out.under Q5) VS YL0.out YS.out n6
        rw [decide_eq_false NE.out] at h
        exact h⟩
      have E2 : Kept (∀ w', Below w5.heap.size w5 w' → Calls Try.prog 12 #[.slice (some ⟨g, 0, none⟩) n0 cap, .slice p0 n0 c0] w' fun e w2 => e = .returned (.bool false) ∧ Below w'.heap.size w' w2) := ⟨fun w' hb => by
        have h := CEQ.out w' _ _ (l0.set j z) l0 (VS.under hb) (KV0.out.under (Q5.trans (hb.mono Q5.size))) YS.out YL0.out (by rw [List.length_set]; exact n6)
        rw [decide_eq_false (fun e => NE.out e.symm)] at h
        exact h⟩
      clear RS VS A5 P5 KR KG KC hBg
      go_wp2_with fail
      refine E1.out.mono ?_
      rintro e w6 ⟨rfl, hb6⟩
      have Q6 := Q5.trans (hb6.mono Q5.size)
      have E3 : Kept _ := ⟨E2.out w6 hb6⟩
      clear E1 E2
      go_wp2_with fail
      refine E3.out.mono ?_
      rintro e w7 ⟨rfl, hb7⟩
      have Q7 := Q6.trans (hb7.mono Q6.size)
      go_wp2_with fail
      go_ret
      exact ⟨rfl, Q7⟩
end Go.Proofs.Ytfcinakpdnblfaa.sh
