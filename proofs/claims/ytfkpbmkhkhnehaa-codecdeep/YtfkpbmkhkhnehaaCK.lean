/-
  codec.Num, codec.Read.
-/
import Derived.Test.YtfkpbmkhkhnehaaCJ
namespace Go.Proofs.Ytfkpbmkhkhnehaa.sh
open Go Go.RowKit
set_option linter.unusedVariables false
set_option linter.unusedSimpArgs false

section
variable {ops : Array Oper} {rest : List Oper} {o : Oper} {a : Act} {w : World} {Q : Exit → Act → World → Prop} {d : Nat}
/-- A value, in this world. -/
theorem wv_valW (hd : o.dst = some d) (hw : Region.wanted o (yielded ops a.tmps) = true) (v : Value) (hrun : (execOp a.eval o).run Try.prog w = .ok (.value v) w) (h : wpList Try.prog ops Q rest (a.put o.dst v) w) : wpList Try.prog ops Q (o :: rest) a w :=
  BigFrame.wpList_want hw fun K hK => by
    unfold Oper.wp
    rw [hrun]
    exact hK _ _ h
end
theorem run_c64b {o : Oper} {a : Act} {x : Operand} {m z : Nat} (ho : o.op = .convert 39 5 x) (hx : a.eval x = .int .u64 (m : Int)) (hz : z = m % 256) (w : World) : (execOp a.eval o).run Try.prog w = .ok (.value (.int .u8 (z : Int))) w := by
  unfold execOp
  simp only [ho, hx]
  simp [go_sem, IntKind.wrap_u8', hz]
theorem run_shr8u {o : Oper} {a : Act} {x : Operand} {m z : Nat} {u : TypeId} (ho : o.op = .binOp .shr 39 x (.const (.int .u64 8)) u) (hx : a.eval x = .int .u64 (m : Int)) (hz : z = m / 256) (hm : m < 18446744073709551616) (w : World) : (execOp a.eval o).run Try.prog w = .ok (.value (.int .u64 (z : Int))) w := by
  have e3 : a.eval (.const (.int .u64 8)) = .int .u64 8 := rfl
  have h3 : (m : Int) / 256 = (z : Int) := by omega
  have h4 : (z : Int) % 18446744073709551616 = (z : Int) := by omega
  unfold execOp
  simp only [ho, hx, e3]
  simp [go_sem, Op.shift, IntKind.bits, IntKind.wrap_u64, Int.fdiv_eq_ediv_of_nonneg _ (show (0 : Int) ≤ 256 by decide), h3, h4]
theorem run_shl8u {o : Oper} {a : Act} {x : Operand} {m z : Nat} {u : TypeId} (ho : o.op = .binOp .shl 39 x (.const (.int .u64 8)) u) (hx : a.eval x = .int .u64 (m : Int)) (hz : z = m * 256) (hm : m < 72057594037927936) (w : World) : (execOp a.eval o).run Try.prog w = .ok (.value (.int .u64 (z : Int))) w := by
  have e3 : a.eval (.const (.int .u64 8)) = .int .u64 8 := rfl
  have h3 : (m : Int) * 256 % 18446744073709551616 = (z : Int) := by omega
  unfold execOp
  simp only [ho, hx, e3]
  simp [go_sem, Op.shift, IntKind.bits, IntKind.wrap_u64, h3]
theorem run_or8u {o : Oper} {a : Act} {x y : Operand} {m n p z : Nat} (ho : o.op = .binOp .or 39 x y 39) (hx : a.eval x = .int .u64 (m : Int)) (hy : a.eval y = .int .u64 (n : Int)) (hm : m = p * 256) (hp : p < 72057594037927936) (hn : n < 256) (hz : z = p * 256 + n) (w : World) : (execOp a.eval o).run Try.prog w = .ok (.value (.int .u64 (z : Int))) w := by
  have h := u64_or_nat m n (by omega) (by omega)
  rw [hm, or_256 p n hn, Nat.mul_comm 256 p, ← hz, ← hm] at h
  unfold execOp
  simp only [ho, hx, hy]
  simp [go_sem]
  exact h
theorem arr_fromV {o : Oper} {a : Act} {x y : Operand} {g n k : Nat} {p : Option Addr} {t e : TypeId} (ho : o.op = .slice t x (some y) none none) (hx : a.eval x = .pointer (some ⟨g, 0, none⟩)) (hy : a.eval y = .int .i64 (k : Int)) (ht : Try.prog.underlying t = some (.array n e)) (sz : ∀ w, (sizeOf e).run Try.prog w = .ok 1 w) (hn : k ≤ n) (hp : p = if n = k then some ⟨g, 0, none⟩ else some ⟨g, k, none⟩) (w : World) :
    (execOp a.eval o).run Try.prog w = .ok (.value (.slice p (n - k) (n - k))) w := by
  subst hp
  have h1 : ((k : Int) ≤ (n : Int)) := by omega
  unfold execOp
  simp only [ho, hx, hy, Option.map_none, Option.map_some, Instr.sliceAt, Instr.slice, Instr.sliceBounds, Sem.run_bind, run_underlying ht, Result.andThen_ok]
  simp [Instr.sliceBound, asIntOf, sz, go_sem, h1, hn, Addr.add]
  by_cases h0 : k = 0
  · subst h0
    split <;> rfl
  · simp [h0]
    split <;> rfl
theorem set_zero : ∀ (k z : Nat) (D : List Nat), (List.replicate (k + 1) 0 ++ D).set k z = List.replicate k 0 ++ (z :: D)
  | 0, z, D => by simp
  | k + 1, z, D => by
    rw [List.replicate_succ, List.cons_append, List.set_cons_succ, set_zero k z D, List.replicate_succ, List.cons_append]
theorem z8_cells : (#[.int .u8 0, .int .u8 0, .int .u8 0, .int .u8 0, .int .u8 0, .int .u8 0, .int .u8 0, .int .u8 0] : Array Value) = ints .u8 (List.replicate 8 0 ++ []) := by kernel_rfl

set_option maxRecDepth 100000 in
set_option maxHeartbeats 1000000 in
theorem NumD {n : Nat} {w : World} (hn : n < 18446744073709551616) :
    Calls Try.prog 20 #[.int .u64 (n : Int)] w fun e w' => e = .returned (.string (strOf (numL n))) ∧ Below w.heap.size w w' := by
  obtain ⟨R, hR⟩ : ∃ R, R = numL n := ⟨_, rfl⟩
  rw [← hR]
  have E0 : Kept ((#[.int .u8 0, .int .u8 0, .int .u8 0, .int .u8 0, .int .u8 0, .int .u8 0, .int .u8 0, .int .u8 0] : Array Value) = ints .u8 (List.replicate 8 0 ++ [])) := ⟨z8_cells⟩
  have A0 : Blk (w.alloc (.cells #[.int .u8 0, .int .u8 0, .int .u8 0, .int .u8 0, .int .u8 0, .int .u8 0, .int .u8 0, .int .u8 0] 68)) w.heap.size 68 (ints .u8 (List.replicate 8 0 ++ [])) := by rw [E0.out]; exact blk_new w _ _
  have Q0 : Below w.heap.size w (w.alloc (.cells #[.int .u8 0, .int .u8 0, .int .u8 0, .int .u8 0, .int .u8 0, .int .u8 0, .int .u8 0, .int .u8 0] 68)) := (Below.refl _ _).alloc (Nat.le_refl _) _
  have KR : Kept (numT n 8 ++ [] = R) := ⟨by rw [hR, List.append_nil]; rfl⟩
  clear hR
  go_enter Try.func20, Try.ntmps20
  go_wp2_with fail
  generalize hW : w.alloc (.cells #[.int .u8 0, .int .u8 0, .int .u8 0, .int .u8 0, .int .u8 0, .int .u8 0, .int .u8 0, .int .u8 0] 68) = wa at *
  clear hW E0
  go_loopg [0, 4] 8 (fun k s0 s4 wr => ∃ (m : Nat) (D : List Nat), s0 = .int .u64 (m : Int) ∧ s4 = .int .i64 (k : Int) ∧ k ≤ 8 ∧ m < 18446744073709551616 ∧ Kept (m < 256 ^ k ∧ D.length + k = 8 ∧ Bytes D ∧ numT m k ++ D = R) ∧ Below w.heap.size w wr ∧ Blk wr w.heap.size 68 (ints .u8 (List.replicate k 0 ++ D)))
  case atStart => exact ⟨n, [], rfl, rfl, Nat.le_refl _, hn, ⟨hn, rfl, nil_bytes, KR.out⟩, Q0, A0⟩
  case round =>
    rename World => wz
    obtain ⟨m, D, rfl, rfl, hk8, hm, KD, HB, AZ⟩ := hrel
    clear A0 Q0 KR
    by_cases hm0 : m = 0
    case pos =>
      subst hm0
      have h0 : ¬ (0 : Int) < ((0 : Nat) : Int) := by omega
      have eD : Kept (D = R) := ⟨by have := KD.out.2.2.2; rwa [numT_zero, List.nil_append] at this⟩
      obtain ⟨p, hp⟩ : ∃ p : Option Addr, p = if 8 = gk then some ⟨w.heap.size, 0, none⟩ else some ⟨w.heap.size, gk, none⟩ := ⟨_, rfl⟩
      have KPP : Kept _ := ⟨hp⟩
      have sl : Kept (IntsV .u8 (.slice p (8 - gk) (8 - gk)) wz R) := ⟨by
        have hDl : D.length = 8 - gk := by have := KD.out.2.1; omega
        refine ⟨_, 8 - gk, by rw [← eD.out, hDl], by rw [← eD.out, hDl]; exact Nat.le_refl _, fun hne => ?_⟩
        have hg8 : ¬ 8 = gk := fun h => hne (List.eq_nil_of_length_eq_zero (by rw [← eD.out, hDl]; omega))
        refine ⟨⟨w.heap.size, gk, none⟩, by rw [hp, if_neg hg8], AZ.lt, fun j x hx => ?_⟩
        rw [addr_add]
        refine AZ.cell (ints_get ?_)
        rw [List.getElem?_append_right (by rw [List.length_replicate]; omega), List.length_replicate, show gk + j - gk = j by omega, eD.out]
        exact hx⟩
      clear hp
      go_wp2_with (first | ((with_reducible refine wv_val (d := 16) ?hd ?hw (.slice p (8 - gk) (8 - gk)) ?hr ?_); (case hd => rfl); (case hw => kernel_rfl); (case hr => intro w; exact arr_fromV rfl (by kernel_rfl) (by kernel_rfl) Try.underlying68 sz_u8 hk8 KPP.out w); simp only [Act.put, List.setIfInBounds_toArray, List.set_cons_succ, List.set_cons_zero]) | ((with_reducible refine wv_valW (d := 17) ?hd ?hw (.string (strOf R)) ?hr ?_); (case hd => rfl); (case hw => kernel_rfl); (case hr => exact run_str rfl (by kernel_rfl) sl.out); simp only [Act.put, List.setIfInBounds_toArray, List.set_cons_succ, List.set_cons_zero]))
      go_ret
      exact ⟨rfl, HB⟩
    case neg =>
      have h0 : (0 : Int) < (m : Int) := by omega
      obtain ⟨k, hk⟩ : ∃ k, gk = k + 1 := by
        cases gk with
        | zero => have := KD.out.1; simp at this; omega
        | succ k => exact ⟨k, rfl⟩
      obtain ⟨z, hz⟩ : ∃ z, z = m % 256 := ⟨_, rfl⟩
      obtain ⟨m2, hm2⟩ : ∃ m2, m2 = m / 256 := ⟨_, rfl⟩
      have KZ : Kept _ := ⟨hz⟩
      have K2 : Kept _ := ⟨hm2⟩
      have K1 : Kept (gk = k + 1) := ⟨hk⟩
      have hk7 : k < 8 := by omega
      have hm2' : m2 < 18446744073709551616 := by omega
      have EB : Kept ((ints .u8 (List.replicate gk 0 ++ D)).setIfInBounds k (.int .u8 (z : Int)) = ints .u8 (List.replicate k 0 ++ (z :: D))) := ⟨by rw [ints_set, hk, set_zero]⟩
      have SB : k < (ints .u8 (List.replicate gk 0 ++ D)).size := by rw [ints_size, List.length_append, List.length_replicate]; omega
      have KD2 : Kept (m2 < 256 ^ k ∧ (z :: D).length + k = 8 ∧ Bytes (z :: D) ∧ numT m2 k ++ (z :: D) = R) := ⟨by
        obtain ⟨d1, d2, d3, d4⟩ := KD.out
        rw [hk, Nat.pow_succ] at d1
        refine ⟨by omega, by rw [List.length_cons]; omega, (bytes_of_all (fun y hy => by simp at hy; omega) : Bytes [z]).append d3, ?_⟩
        rw [← d4, hk]
        show _ = (if m = 0 then [] else numT (m / 256) k ++ [m % 256]) ++ D
        rw [if_neg hm0, hm2, hz, List.append_assoc]
        rfl⟩
      clear hz hm2 hk hm0 KD
      go_wp2_with (first | ((with_reducible refine wv_val (d := 10) ?hd ?hw (.int .i64 (k : Int)) ?hr ?_); (case hd => rfl); (case hw => kernel_rfl); (case hr => intro w; exact run_subZ 1 rfl (by kernel_rfl) K1.out (by omega) w); simp only [Act.put, List.setIfInBounds_toArray, List.set_cons_succ, List.set_cons_zero]) | ((with_reducible refine wv_val (d := 13) ?hd ?hw (.int .u8 (z : Int)) ?hr ?_); (case hd => rfl); (case hw => kernel_rfl); (case hr => intro w; exact run_c64b rfl (by kernel_rfl) KZ.out w); simp only [Act.put, List.setIfInBounds_toArray, List.set_cons_succ, List.set_cons_zero]) | ((with_reducible refine wv_val (d := 14) ?hd ?hw (.pointer (some ⟨w.heap.size, k, none⟩)) ?hr ?_); (case hd => rfl); (case hw => kernel_rfl); (case hr => intro w; exact run_idx rfl (by kernel_rfl) (by kernel_rfl) Try.underlying68 hk7 sz_u8 w); simp only [Act.put, List.setIfInBounds_toArray, List.set_cons_succ, List.set_cons_zero]) | (refine wl_setElem rfl 5 sz_u8 (.tmp 14) (.tmp 13) rfl w.heap.size k .u8 (z : Int) rfl rfl _ AZ SB ?_))
      intro w4 A4 P4
      rw [EB.out] at A4
      have HB4 := HB.trans (P4.below (Nat.le_refl _))
      clear AZ HB P4 SB EB
      go_wp2_with (first | ((with_reducible refine wv_val (d := 8) ?hd ?hw (.int .u64 (m2 : Int)) ?hr ?_); (case hd => rfl); (case hw => kernel_rfl); (case hr => intro w; exact run_shr8u rfl (by kernel_rfl) K2.out hm w); simp only [Act.put, List.setIfInBounds_toArray, List.set_cons_succ, List.set_cons_zero]))
      go_roundg k
      case measure => have := K1.out; omega
      case rel => exact ⟨m2, z :: D, rfl, rfl, by omega, hm2', KD2, HB4, A4⟩

/-- What Read answers. -/
def Reads (s : List Nat) : Prop := s.length ≤ 8 ∧ s.head? ≠ some 0
instance decReads (s : List Nat) : Decidable (Reads s) := inferInstanceAs (Decidable (_ ∧ _))
def rdV (s : List Nat) : Nat := if Reads s then readT s else 0
def rdE (s : List Nat) : Nat := if Reads s then 0 else 4
theorem readT_take {s : List Nat} {i x : Nat} (h : s[i]? = some x) : readT (s.take (i + 1)) = readT (s.take i) * 256 + x := by
  rw [List.take_add_one, h, Option.toList_some, readT_snoc]
theorem readT_takeB {s : List Nat} {i : Nat} (hs : Bytes s) (hi : i ≤ 7) : readT (s.take i) < 72057594037927936 := by
  have h := readT_lt (s.take i).length (s.take i) rfl (hs.take i)
  have h2 : (s.take i).length ≤ 7 := by rw [List.length_take]; omega
  have h3 : 256 ^ (s.take i).length ≤ 256 ^ 7 := Nat.pow_le_pow_right (by decide) h2
  omega
set_option maxRecDepth 100000 in
set_option maxHeartbeats 1000000 in
theorem ReadD {s : List Nat} {w : World} (hs : Bytes s) (hL : s.length ≤ maxLen) :
    Calls Try.prog 18 #[.string (strOf s)] w fun e w' => e = .returned (.tuple #[.int .u64 (rdV s : Int), .int .i64 (rdE s : Int)]) ∧ w' = w := by
  obtain ⟨m, hm⟩ : ∃ m, m = s.length := ⟨_, rfl⟩
  have KM : Kept _ := ⟨hm⟩
  have bad : ¬ Reads s → Ending.returned (.tuple #[.int .u64 0, .int .i64 4]) = .returned (.tuple #[.int .u64 (rdV s : Int), .int .i64 (rdE s : Int)]) := fun h => by
    unfold rdV rdE
    rw [if_neg h, if_neg h]
    rfl
  have KB : Kept _ := ⟨bad⟩
  have KS : Kept _ := ⟨hs⟩
  clear bad
  by_cases h8 : 8 < m
  · have h' : (8 : Int) < (m : Int) := by omega
    have hN : ¬ Reads s := fun h => by have := h.1; omega
    clear hm
    go_enter Try.func18, Try.ntmps18
    go_wp2_with (first | ((with_reducible refine wv_val (d := 7) ?hd ?hw (.int .i64 (m : Int)) ?hr ?_); (case hd => rfl); (case hw => kernel_rfl); (case hr => intro w; exact run_slen rfl (by kernel_rfl) KM.out w); simp only [Act.put, List.setIfInBounds_toArray, List.set_cons_succ, List.set_cons_zero]))
    go_ret2
    exact ⟨KB.out hN, rfl⟩
  · have h' : ¬ (8 : Int) < (m : Int) := by omega
    have hH := sHas s [0] w
    have e0 : (([0] : List Nat).map fun n => UInt8.ofNat n).isPrefixOf (s.map fun n => UInt8.ofNat n) = decide (s.head? = some 0) := by
      cases s with
      | nil => rfl
      | cons x r =>
        have hx : x < 256 := hs 0 x rfl
        show (UInt8.ofNat 0 == UInt8.ofNat x && _) = _
        by_cases h : x = 0
        · subst h; simp
        · have : ¬ (UInt8.ofNat 0 = UInt8.ofNat x) := fun e => h (by
            have := congrArg UInt8.toNat e
            simp at this
            omega)
          simp [h, this]
          intro h5
          exact absurd h5 this
    rw [e0] at hH
    clear e0
    by_cases hz : s.head? = some 0
    · have hN : ¬ Reads s := fun h => h.2 hz
      rw [decide_eq_true hz] at hH
      clear hm hz
      go_enter Try.func18, Try.ntmps18
      go_wp2_with (first | ((with_reducible refine wv_val (d := 7) ?hd ?hw (.int .i64 (m : Int)) ?hr ?_); (case hd => rfl); (case hw => kernel_rfl); (case hr => intro w; exact run_slen rfl (by kernel_rfl) KM.out w); simp only [Act.put, List.setIfInBounds_toArray, List.set_cons_succ, List.set_cons_zero]))
      refine hH.mono ?_
      rintro e w1 ⟨rfl, hw1⟩
      obtain rfl := hw1.symm
      go_wp2_with fail
      go_ret2
      exact ⟨KB.out hN, rfl⟩
    · have hR : Reads s := ⟨by omega, hz⟩
      have KR : Kept (rdV s = readT s ∧ rdE s = 0) := ⟨by unfold rdV rdE; rw [if_pos hR, if_pos hR]; exact ⟨rfl, rfl⟩⟩
      rw [KR.out.1, KR.out.2]
      rw [decide_eq_false hz] at hH
      obtain ⟨V, hV⟩ : ∃ V, V = readT s := ⟨_, rfl⟩
      rw [← hV]
      have KV : Kept _ := ⟨hV⟩
      clear hm hz hR KR hV
      go_enter Try.func18, Try.ntmps18
      go_wp2_with (first | ((with_reducible refine wv_val (d := 7) ?hd ?hw (.int .i64 (m : Int)) ?hr ?_); (case hd => rfl); (case hw => kernel_rfl); (case hr => intro w; exact run_slen rfl (by kernel_rfl) KM.out w); simp only [Act.put, List.setIfInBounds_toArray, List.set_cons_succ, List.set_cons_zero]))
      refine hH.mono ?_
      rintro e w1 ⟨rfl, hw1⟩
      obtain rfl := hw1.symm
      go_wp2_with (first | ((with_reducible refine wv_val (d := 14) ?hd ?hw (.int .i64 (m : Int)) ?hr ?_); (case hd => rfl); (case hw => kernel_rfl); (case hr => intro w; exact run_slen rfl (by kernel_rfl) KM.out w); simp only [Act.put, List.setIfInBounds_toArray, List.set_cons_succ, List.set_cons_zero]))
      go_loopg [4, 15] m (fun k s4 s15 wr => ∃ i v : Nat, i + k = m ∧ s15 = .int .i64 (i : Int) ∧ s4 = .int .u64 (v : Int) ∧ Kept (v = readT (s.take i)) ∧ wr = w)
      case atStart => exact ⟨0, 0, by omega, rfl, rfl, ⟨rfl⟩, rfl⟩
      case round =>
        obtain ⟨i, v, hik, rfl, rfl, Kv, hwr⟩ := hrel
        obtain rfl := hwr.symm
        by_cases hk0 : gk = 0
        · obtain rfl : m = i := by omega
          have hvV : Kept (v = V) := ⟨by rw [Kv.out, KV.out, KM.out, List.take_length]⟩
          go_wp2_with fail
          go_ret2
          exact ⟨by rw [← hvV.out]; rfl, rfl⟩
        · have hin : i < m := by omega
          have hin' : (i : Int) < (m : Int) := by omega
          obtain ⟨x, hx⟩ : ∃ x, s[i]? = some x := ⟨_, List.getElem?_eq_getElem (by rw [← KM.out]; exact hin)⟩
          have hx8 : x < 256 := KS.out i x hx
          have KX : Kept _ := ⟨hx⟩
          have hv7 : v < 72057594037927936 := by rw [Kv.out]; exact readT_takeB KS.out (by omega)
          obtain ⟨p, hp⟩ : ∃ p, p = v * 256 := ⟨_, rfl⟩
          obtain ⟨q, hq⟩ : ∃ q, q = v * 256 + x := ⟨_, rfl⟩
          have KP : Kept _ := ⟨hp⟩
          have KQ : Kept _ := ⟨hq⟩
          clear hx hp hq
          go_wp2_with (first | ((with_reducible refine wv_val (d := 19) ?hd ?hw (.int .u64 (p : Int)) ?hr ?_); (case hd => rfl); (case hw => kernel_rfl); (case hr => intro w; exact run_shl8u rfl (by kernel_rfl) KP.out hv7 w); simp only [Act.put, List.setIfInBounds_toArray, List.set_cons_succ, List.set_cons_zero]) | ((with_reducible refine wv_val (d := 22) ?hd ?hw (.int .u8 (x : Int)) ?hr ?_); (case hd => rfl); (case hw => kernel_rfl); (case hr => intro w; exact run_sidx rfl (by kernel_rfl) (by kernel_rfl) KS.out KX.out w); simp only [Act.put, List.setIfInBounds_toArray, List.set_cons_succ, List.set_cons_zero]) | ((with_reducible refine wv_val (d := 23) ?hd ?hw (.int .u64 (x : Int)) ?hr ?_); (case hd => rfl); (case hw => kernel_rfl); (case hr => intro w; exact run_c864 rfl (by kernel_rfl) hx8 w); simp only [Act.put, List.setIfInBounds_toArray, List.set_cons_succ, List.set_cons_zero]) | ((with_reducible refine wv_val (d := 24) ?hd ?hw (.int .u64 (q : Int)) ?hr ?_); (case hd => rfl); (case hw => kernel_rfl); (case hr => intro w; exact run_or8u rfl (by kernel_rfl) (by kernel_rfl) KP.out hv7 hx8 KQ.out w); simp only [Act.put, List.setIfInBounds_toArray, List.set_cons_succ, List.set_cons_zero]))
          go_roundg (gk - 1)
          case measure => omega
          case rel => exact ⟨i + 1, q, by omega, by simp, rfl, ⟨by rw [KQ.out, Kv.out, readT_take KX.out]⟩, rfl⟩
end Go.Proofs.Ytfkpbmkhkhnehaa.sh
