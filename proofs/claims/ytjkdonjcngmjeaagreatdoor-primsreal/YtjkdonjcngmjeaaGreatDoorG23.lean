/-
  General pieces, joined: MI.
-/
import Derived.Test.YtjkdonjcngmjeaaGreatDoorG22
/-
  The statements' few and key.
-/
namespace Go.Proofs.YtjkdonjcngmjeaaGreatDoor.sh
open Go Go.RowKit
set_option linter.unusedVariables false
set_option linter.unusedSimpArgs false

def Few (A B C T : List Nat) : Prop := A.length ≤ 1000 ∧ B.length ≤ 1000 ∧ C.length ≤ 1000 ∧ T.length ≤ 1000
instance (A B C T : List Nat) : Decidable (Few A B C T) := by unfold Few; infer_instance

set_option maxRecDepth 100000 in
theorem few11 {A B C T : List Nat} {N : Nat} {w : World} :
    Calls Tryz.prog 10 #[.agg #[.string (strOf A), .string (strOf B), .int .u64 (N : Int), .string (strOf C), .string (strOf T)]] w fun e w' => e = .returned (.bool (decide (Few A B C T))) ∧ Below w.heap.size w w' := by
  obtain ⟨nA, hA⟩ : ∃ n, n = A.length := ⟨_, rfl⟩
  obtain ⟨nB, hB⟩ : ∃ n, n = B.length := ⟨_, rfl⟩
  obtain ⟨nC, hC⟩ : ∃ n, n = C.length := ⟨_, rfl⟩
  obtain ⟨nT, hT⟩ : ∃ n, n = T.length := ⟨_, rfl⟩
  have KA : Kept _ := ⟨hA⟩
  have KB : Kept _ := ⟨hB⟩
  have KC : Kept _ := ⟨hC⟩
  have KT : Kept _ := ⟨hT⟩
  have Q : Kept (Below w.heap.size w (w.alloc (.cells #[.string (strOf A), .string (strOf B), .int .u64 (N : Int), .string (strOf C), .string (strOf T)] 24))) := ⟨(Below.refl _ _).alloc (Nat.le_refl _) _⟩
  by_cases h1 : nA ≤ 1000
  · have z1 : (nA : Int) ≤ 1000 := by omega
    by_cases h2 : nB ≤ 1000
    · have z2 : (nB : Int) ≤ 1000 := by omega
      by_cases h3 : nC ≤ 1000
      · have z3 : (nC : Int) ≤ 1000 := by omega
        by_cases h4 : nT ≤ 1000
        · have z4 : (nT : Int) ≤ 1000 := by omega
          rw [show decide (Few A B C T) = true from decide_eq_true ⟨by omega, by omega, by omega, by omega⟩]
          clear hA hB hC hT h1 h2 h3 h4
          go_enter Tryz.func10, Tryz.ntmps10
          go_wp2_with (first | ((with_reducible refine wv_val (d := 5) ?hd ?hw (.int .i64 (nA : Int)) ?hr ?_); (case hd => rfl); (case hw => kernel_rfl); (case hr => intro w; exact run_slen rfl (by kernel_rfl) KA.out w); simp only [Act.put, List.setIfInBounds_toArray, List.set_cons_succ, List.set_cons_zero]) | ((with_reducible refine wv_val (d := 10) ?hd ?hw (.int .i64 (nB : Int)) ?hr ?_); (case hd => rfl); (case hw => kernel_rfl); (case hr => intro w; exact run_slen rfl (by kernel_rfl) KB.out w); simp only [Act.put, List.setIfInBounds_toArray, List.set_cons_succ, List.set_cons_zero]) | ((with_reducible refine wv_val (d := 16) ?hd ?hw (.int .i64 (nC : Int)) ?hr ?_); (case hd => rfl); (case hw => kernel_rfl); (case hr => intro w; exact run_slen rfl (by kernel_rfl) KC.out w); simp only [Act.put, List.setIfInBounds_toArray, List.set_cons_succ, List.set_cons_zero]) | ((with_reducible refine wv_val (d := 22) ?hd ?hw (.int .i64 (nT : Int)) ?hr ?_); (case hd => rfl); (case hw => kernel_rfl); (case hr => intro w; exact run_slen rfl (by kernel_rfl) KT.out w); simp only [Act.put, List.setIfInBounds_toArray, List.set_cons_succ, List.set_cons_zero])); go_ret; exact ⟨rfl, Q.out⟩
        · have z4 : ¬ (nT : Int) ≤ 1000 := by omega
          rw [show decide (Few A B C T) = false from decide_eq_false (fun h => h4 (by rw [hT]; exact h.2.2.2))]
          clear hA hB hC hT h1 h2 h3 h4
          go_enter Tryz.func10, Tryz.ntmps10
          go_wp2_with (first | ((with_reducible refine wv_val (d := 5) ?hd ?hw (.int .i64 (nA : Int)) ?hr ?_); (case hd => rfl); (case hw => kernel_rfl); (case hr => intro w; exact run_slen rfl (by kernel_rfl) KA.out w); simp only [Act.put, List.setIfInBounds_toArray, List.set_cons_succ, List.set_cons_zero]) | ((with_reducible refine wv_val (d := 10) ?hd ?hw (.int .i64 (nB : Int)) ?hr ?_); (case hd => rfl); (case hw => kernel_rfl); (case hr => intro w; exact run_slen rfl (by kernel_rfl) KB.out w); simp only [Act.put, List.setIfInBounds_toArray, List.set_cons_succ, List.set_cons_zero]) | ((with_reducible refine wv_val (d := 16) ?hd ?hw (.int .i64 (nC : Int)) ?hr ?_); (case hd => rfl); (case hw => kernel_rfl); (case hr => intro w; exact run_slen rfl (by kernel_rfl) KC.out w); simp only [Act.put, List.setIfInBounds_toArray, List.set_cons_succ, List.set_cons_zero]) | ((with_reducible refine wv_val (d := 22) ?hd ?hw (.int .i64 (nT : Int)) ?hr ?_); (case hd => rfl); (case hw => kernel_rfl); (case hr => intro w; exact run_slen rfl (by kernel_rfl) KT.out w); simp only [Act.put, List.setIfInBounds_toArray, List.set_cons_succ, List.set_cons_zero])); go_ret; exact ⟨rfl, Q.out⟩
      · have z3 : ¬ (nC : Int) ≤ 1000 := by omega
        rw [show decide (Few A B C T) = false from decide_eq_false (fun h => h3 (by rw [hC]; exact h.2.2.1))]
        clear hA hB hC hT h1 h2 h3
        go_enter Tryz.func10, Tryz.ntmps10
        go_wp2_with (first | ((with_reducible refine wv_val (d := 5) ?hd ?hw (.int .i64 (nA : Int)) ?hr ?_); (case hd => rfl); (case hw => kernel_rfl); (case hr => intro w; exact run_slen rfl (by kernel_rfl) KA.out w); simp only [Act.put, List.setIfInBounds_toArray, List.set_cons_succ, List.set_cons_zero]) | ((with_reducible refine wv_val (d := 10) ?hd ?hw (.int .i64 (nB : Int)) ?hr ?_); (case hd => rfl); (case hw => kernel_rfl); (case hr => intro w; exact run_slen rfl (by kernel_rfl) KB.out w); simp only [Act.put, List.setIfInBounds_toArray, List.set_cons_succ, List.set_cons_zero]) | ((with_reducible refine wv_val (d := 16) ?hd ?hw (.int .i64 (nC : Int)) ?hr ?_); (case hd => rfl); (case hw => kernel_rfl); (case hr => intro w; exact run_slen rfl (by kernel_rfl) KC.out w); simp only [Act.put, List.setIfInBounds_toArray, List.set_cons_succ, List.set_cons_zero])); go_ret; exact ⟨rfl, Q.out⟩
    · have z2 : ¬ (nB : Int) ≤ 1000 := by omega
      rw [show decide (Few A B C T) = false from decide_eq_false (fun h => h2 (by rw [hB]; exact h.2.1))]
      clear hA hB hC hT h1 h2
      go_enter Tryz.func10, Tryz.ntmps10
      go_wp2_with (first | ((with_reducible refine wv_val (d := 5) ?hd ?hw (.int .i64 (nA : Int)) ?hr ?_); (case hd => rfl); (case hw => kernel_rfl); (case hr => intro w; exact run_slen rfl (by kernel_rfl) KA.out w); simp only [Act.put, List.setIfInBounds_toArray, List.set_cons_succ, List.set_cons_zero]) | ((with_reducible refine wv_val (d := 10) ?hd ?hw (.int .i64 (nB : Int)) ?hr ?_); (case hd => rfl); (case hw => kernel_rfl); (case hr => intro w; exact run_slen rfl (by kernel_rfl) KB.out w); simp only [Act.put, List.setIfInBounds_toArray, List.set_cons_succ, List.set_cons_zero])); go_ret; exact ⟨rfl, Q.out⟩
  · have z1 : ¬ (nA : Int) ≤ 1000 := by omega
    rw [show decide (Few A B C T) = false from decide_eq_false (fun h => h1 (by rw [hA]; exact h.1))]
    clear hA hB hC hT h1
    go_enter Tryz.func10, Tryz.ntmps10
    go_wp2_with (first | ((with_reducible refine wv_val (d := 5) ?hd ?hw (.int .i64 (nA : Int)) ?hr ?_); (case hd => rfl); (case hw => kernel_rfl); (case hr => intro w; exact run_slen rfl (by kernel_rfl) KA.out w); simp only [Act.put, List.setIfInBounds_toArray, List.set_cons_succ, List.set_cons_zero])); go_ret; exact ⟨rfl, Q.out⟩

/-- A text's first 32 bytes, and as many zeros as lack. -/
def keyZ (s : List Nat) : List Nat := s.take 32 ++ List.replicate (32 - min s.length 32) 0
theorem keyZ_len (s : List Nat) : (keyZ s).length = 32 := by simp [keyZ]; omega
theorem keyZ_bytes {s : List Nat} (h : Bytes s) : Bytes (keyZ s) := (h.take 32).append (bytes_zero _)
theorem keyZ_key {s : List Nat} (h : s.length = 32) : keyZ s = s := by unfold keyZ; rw [List.take_of_length_le (by omega), h]; simp
theorem run_copyN {P : Program} (w : World) (dT sT ty elem : TypeId) (g dLen dCap : Nat) (l : List Nat) (hl : Bytes l) (cur : Array Value) (t : TypeId)
    (hu : P.underlying dT = some (.slice elem)) (hs : (P.info? elem).map (·.size) = some 1) (hg : w.heap[g]? = some (.cells cur t (0, 0))) (hfit : dLen ≤ cur.size) :
    (Builtin.copy_ #[dT, sT] ty #[.slice (some ⟨g, 0, none⟩) dLen dCap, .string (strOf l)]).run P w =
      .ok (goInt ((min l.length dLen : Nat) : Int)) (w.setRow g ((ints .u8 (l.take dLen)).toList ++ cur.toList.drop (min l.length dLen)).toArray) := by
  have hm : List.map (fun b : UInt8 => Value.int IntKind.u8 (b.toNat : Int)) (strOf l).data.toList = (ints .u8 l).toList := by
    rw [sa_data, List.map_map]
    unfold ints
    refine List.map_congr_left fun x hx => ?_
    have := hl.all x hx
    simp
    omega
  have hcells : List.take (Nat.min l.length dLen) (List.map (fun b : UInt8 => Value.int IntKind.u8 (b.toNat : Int)) (strOf l).data.toList) = (ints .u8 (l.take dLen)).toList := by
    rw [hm]
    unfold ints
    simp only [List.map_take]
    show List.take (min l.length dLen) _ = _
    by_cases h : l.length ≤ dLen
    · rw [Nat.min_eq_left h, List.take_of_length_le (by simp), List.take_of_length_le (by simpa using h)]
    · rw [Nat.min_eq_right (by omega)]
  have hlen : (ints .u8 (l.take dLen)).toList.length = min l.length dLen := by rw [Array.length_toList, ints_size, List.length_take, Nat.min_comm]
  have hst := run_storeCells_at P g 0 t (ints .u8 (l.take dLen)).toList 0 cur w hg (by rw [hlen]; omega) (fun v hv => by
    obtain ⟨i, hi, rfl⟩ := List.getElem_of_mem hv
    simp [ints, Value.oneCell'])
  rw [hlen] at hst
  simp only [Nat.add_zero, List.take_zero, List.nil_append, Nat.zero_add] at hst
  cases hq : P.info? elem with
  | none => simp [hq] at hs
  | some i =>
    simp [Builtin.copy_, run_underlying hu, Builtin.lenOf, Builtin.firstCells, sizeOf, typeInfo, hq, strOf_size]
    rw [hcells, hst]
    simp [Result.andThen]
theorem copy_key {s : List Nat} {Z : Array Value} (hZ : Z = #[.int .u8 0, .int .u8 0, .int .u8 0, .int .u8 0, .int .u8 0, .int .u8 0, .int .u8 0, .int .u8 0, .int .u8 0, .int .u8 0, .int .u8 0, .int .u8 0, .int .u8 0, .int .u8 0, .int .u8 0, .int .u8 0, .int .u8 0, .int .u8 0, .int .u8 0, .int .u8 0, .int .u8 0, .int .u8 0, .int .u8 0, .int .u8 0, .int .u8 0, .int .u8 0, .int .u8 0, .int .u8 0, .int .u8 0, .int .u8 0, .int .u8 0, .int .u8 0]) : ((ints .u8 (s.take 32)).toList ++ Z.toList.drop (min s.length 32)).toArray = ints .u8 (keyZ s) := by
  subst hZ
  apply Array.toList_inj.1
  unfold keyZ ints
  simp only [List.map_append, List.map_replicate]
  congr 1
  show List.drop (min s.length 32) (List.replicate 32 (Value.int .u8 0)) = _
  rw [List.drop_replicate]
  rfl
theorem wl_copyK {ops : Array Oper} {rest : List Oper} {o : Oper} {a : Act} {w : World} {Q : Exit → Act → World → Prop} (hgd : o.guard = none) (x y : Operand) (ho : o.op = .call { callee := .builtin .copy, args := #[x, y], argTypes := #[34, 9] }) (g : Nat) (s : List Nat) (hx : a.eval x = .slice (some ⟨g, 0, none⟩) 32 32) (hy : a.eval y = .string (strOf s)) (hs : Bytes s) {t : TypeId} (hg : Blk w g t #[.int .u8 0, .int .u8 0, .int .u8 0, .int .u8 0, .int .u8 0, .int .u8 0, .int .u8 0, .int .u8 0, .int .u8 0, .int .u8 0, .int .u8 0, .int .u8 0, .int .u8 0, .int .u8 0, .int .u8 0, .int .u8 0, .int .u8 0, .int .u8 0, .int .u8 0, .int .u8 0, .int .u8 0, .int .u8 0, .int .u8 0, .int .u8 0, .int .u8 0, .int .u8 0, .int .u8 0, .int .u8 0, .int .u8 0, .int .u8 0, .int .u8 0, .int .u8 0])
    (h : ∀ v w', Blk w' g t (ints .u8 (keyZ s)) → Put w w' g → wpList Tryz.prog ops Q rest (a.put o.dst v) w') : wpList Tryz.prog ops Q (o :: rest) a w :=
  wpList_plain hgd fun K hK => by
    have h1 := run_copyN (P := Tryz.prog) w 34 9 o.type 5 g 32 32 s hs _ t Tryz.underlying34 (by kernel_rfl) hg (by simp)
    rw [copy_key rfl] at h1
    have hrun : (execOp a.eval o).run Tryz.prog w = .ok (.value (goInt ((min s.length 32 : Nat) : Int))) (w.setRow g (ints .u8 (keyZ s))) := by
      unfold execOp
      simp only [ho, resolve, invoke, builtin, List.map_toArray, List.map_cons, List.map_nil, hx, hy, Sem.run_bind, Sem.run_pure, Result.andThen_ok, h1]
    unfold Oper.wp
    rw [hrun]
    exact hK _ _ (h _ _ (setRow_heap _ _ _ _ _ _ hg) ⟨⟨rfl, rfl, rfl, by simp, fun k _ hk => setRow_other _ _ _ _ (fun e => hk (by rw [e]))⟩, by simp⟩)

set_option maxRecDepth 100000 in
theorem key11 {s : List Nat} {w : World} (hs : Bytes s) :
    Calls Tryz.prog 11 #[.string (strOf s)] w fun e w' => e = .returned (.tuple #[.agg (ints .u8 (keyZ s)), .bool (decide (s.length = 32))]) ∧ Below w.heap.size w w' := by
  obtain ⟨n, hn⟩ : ∃ n, n = s.length := ⟨_, rfl⟩
  obtain ⟨b, hb⟩ : ∃ b, b = decide (s.length = 32) := ⟨_, rfl⟩
  obtain ⟨k, hk⟩ : ∃ k, k = keyZ s := ⟨_, rfl⟩
  have Kn : Kept (n = s.length) := ⟨hn⟩
  have Ks : Kept _ := ⟨hs⟩
  have Kb : Kept (b = decide ((n : Int) = 32)) := ⟨by rw [hb, ← hn]; simp; omega⟩
  have Kk : Kept (k = keyZ s) := ⟨hk⟩
  have IZ : Kept ((Tryz.prog.info? 30).map (·.size) = some (ints .u8 k).size ∧ (ints .u8 k).size = 32) := ⟨by rw [ints_size, hk, keyZ_len]; exact ⟨t32_info, rfl⟩⟩
  have q0 := (Below.refl w.heap.size w).alloc (Nat.le_refl _) (.cells #[.int .u8 0, .int .u8 0, .int .u8 0, .int .u8 0, .int .u8 0, .int .u8 0, .int .u8 0, .int .u8 0, .int .u8 0, .int .u8 0, .int .u8 0, .int .u8 0, .int .u8 0, .int .u8 0, .int .u8 0, .int .u8 0, .int .u8 0, .int .u8 0, .int .u8 0, .int .u8 0, .int .u8 0, .int .u8 0, .int .u8 0, .int .u8 0, .int .u8 0, .int .u8 0, .int .u8 0, .int .u8 0, .int .u8 0, .int .u8 0, .int .u8 0, .int .u8 0] 30)
  have b0 := blk_new w 30 #[.int .u8 0, .int .u8 0, .int .u8 0, .int .u8 0, .int .u8 0, .int .u8 0, .int .u8 0, .int .u8 0, .int .u8 0, .int .u8 0, .int .u8 0, .int .u8 0, .int .u8 0, .int .u8 0, .int .u8 0, .int .u8 0, .int .u8 0, .int .u8 0, .int .u8 0, .int .u8 0, .int .u8 0, .int .u8 0, .int .u8 0, .int .u8 0, .int .u8 0, .int .u8 0, .int .u8 0, .int .u8 0, .int .u8 0, .int .u8 0, .int .u8 0, .int .u8 0]
  have b1 := blk_new (w.alloc (.cells #[.int .u8 0, .int .u8 0, .int .u8 0, .int .u8 0, .int .u8 0, .int .u8 0, .int .u8 0, .int .u8 0, .int .u8 0, .int .u8 0, .int .u8 0, .int .u8 0, .int .u8 0, .int .u8 0, .int .u8 0, .int .u8 0, .int .u8 0, .int .u8 0, .int .u8 0, .int .u8 0, .int .u8 0, .int .u8 0, .int .u8 0, .int .u8 0, .int .u8 0, .int .u8 0, .int .u8 0, .int .u8 0, .int .u8 0, .int .u8 0, .int .u8 0, .int .u8 0] 30)) 30 #[.int .u8 0, .int .u8 0, .int .u8 0, .int .u8 0, .int .u8 0, .int .u8 0, .int .u8 0, .int .u8 0, .int .u8 0, .int .u8 0, .int .u8 0, .int .u8 0, .int .u8 0, .int .u8 0, .int .u8 0, .int .u8 0, .int .u8 0, .int .u8 0, .int .u8 0, .int .u8 0, .int .u8 0, .int .u8 0, .int .u8 0, .int .u8 0, .int .u8 0, .int .u8 0, .int .u8 0, .int .u8 0, .int .u8 0, .int .u8 0, .int .u8 0, .int .u8 0]
  have B2 : Kept _ := ⟨b0.under ((Below.refl _ _).alloc (Nat.le_refl _) (.cells #[.int .u8 0, .int .u8 0, .int .u8 0, .int .u8 0, .int .u8 0, .int .u8 0, .int .u8 0, .int .u8 0, .int .u8 0, .int .u8 0, .int .u8 0, .int .u8 0, .int .u8 0, .int .u8 0, .int .u8 0, .int .u8 0, .int .u8 0, .int .u8 0, .int .u8 0, .int .u8 0, .int .u8 0, .int .u8 0, .int .u8 0, .int .u8 0, .int .u8 0, .int .u8 0, .int .u8 0, .int .u8 0, .int .u8 0, .int .u8 0, .int .u8 0, .int .u8 0] 30))⟩
  have Q1 : Kept _ := ⟨q0.alloc q0.size (.cells #[.int .u8 0, .int .u8 0, .int .u8 0, .int .u8 0, .int .u8 0, .int .u8 0, .int .u8 0, .int .u8 0, .int .u8 0, .int .u8 0, .int .u8 0, .int .u8 0, .int .u8 0, .int .u8 0, .int .u8 0, .int .u8 0, .int .u8 0, .int .u8 0, .int .u8 0, .int .u8 0, .int .u8 0, .int .u8 0, .int .u8 0, .int .u8 0, .int .u8 0, .int .u8 0, .int .u8 0, .int .u8 0, .int .u8 0, .int .u8 0, .int .u8 0, .int .u8 0] 30)⟩
  rw [show (w.alloc (.cells #[.int .u8 0, .int .u8 0, .int .u8 0, .int .u8 0, .int .u8 0, .int .u8 0, .int .u8 0, .int .u8 0, .int .u8 0, .int .u8 0, .int .u8 0, .int .u8 0, .int .u8 0, .int .u8 0, .int .u8 0, .int .u8 0, .int .u8 0, .int .u8 0, .int .u8 0, .int .u8 0, .int .u8 0, .int .u8 0, .int .u8 0, .int .u8 0, .int .u8 0, .int .u8 0, .int .u8 0, .int .u8 0, .int .u8 0, .int .u8 0, .int .u8 0, .int .u8 0] 30)).heap.size = w.heap.size + 1 by simp] at b1
  have B1 : Kept _ := ⟨b1⟩
  rw [← hb, ← hk]
  clear hn hb hk hs q0 b0 b1
  go_enter Tryz.func11, Tryz.ntmps11
  go_wp2_with (first | (refine wl_copyK rfl (.tmp 5) (.tmp 6) rfl (w.heap.size + 1) s rfl rfl Ks.out B1.out ?_; intro vn w2 hB2 hp2; rw [← Kk.out] at hB2; simp only [Act.put, List.setIfInBounds_toArray, List.set_cons_succ, List.set_cons_zero]) | ((with_reducible refine wv_row (d := 8) ?hd ?hw 30 (.tmp 4) ?ho ((w.heap.size + 1)) ?hx (t' := 30) (ints .u8 k) _ _ Tryz.underlying30 ?hs ?hg ?_); (case hd => rfl); (case hw => kernel_rfl); (case ho => rfl); (case hx => kernel_rfl); (case hs => exact IZ.out.1); (case hg => exact hB2); simp only [Act.put, List.setIfInBounds_toArray, List.set_cons_succ, List.set_cons_zero]) | ((with_reducible refine wv_val (d := 10) ?hd ?hw (.int .i64 (n : Int)) ?hr ?_); (case hd => rfl); (case hw => kernel_rfl); (case hr => intro w; exact run_slen rfl (by kernel_rfl) Kn.out w); simp only [Act.put, List.setIfInBounds_toArray, List.set_cons_succ, List.set_cons_zero]) | ((with_reducible refine wv_val (d := 11) ?hd ?hw (.bool b) ?hr ?_); (case hd => rfl); (case hw => kernel_rfl); (case hr => intro w; exact run_eqII (m := (n : Int)) (n := 32) rfl (by kernel_rfl) (by kernel_rfl) Kb.out w); simp only [Act.put, List.setIfInBounds_toArray, List.set_cons_succ, List.set_cons_zero]) | (refine wl_store rfl 30 (.tmp 2) (.tmp 8) rfl w.heap.size (ints .u8 k) rfl rfl _ (blk_grown hp2.grown B2.out (by simp)) IZ.out.1 (by rw [IZ.out.2]; rfl) (ints_one _ _) ?_; intro w5 hB5 hp5; simp only [Act.put, List.setIfInBounds_toArray, List.set_cons_succ, List.set_cons_zero]))
  exact ⟨rfl, _, ret_arr_bool Tryz.results11 _ _ w.heap.size (ints .u8 k) b IZ.out.2 rfl hB5 rfl, rfl, (Q1.out.trans (hp2.below (by omega))).trans (hp5.below (Nat.le_refl _))⟩
end Go.Proofs.YtjkdonjcngmjeaaGreatDoor.sh
