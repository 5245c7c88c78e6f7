/-
  General pieces, joined: CK CL CM CN CO CP DA DB DC.
-/
import Derived.Test.YtjkdonjcngmjeaaGreatDoorG25
import Derived.Test.YtjkdonjcngmjeaaGreatDoorG22
import Derived.Test.YtjkdonjcngmjeaaGreatDoorG08
import Derived.Test.YtjkdonjcngmjeaaGreatDoorG11
import Derived.Test.YtjkdonjcngmjeaaGreatDoorG09
import Derived.Test.YtjkdonjcngmjeaaGreatDoorG10
import Derived.Test.YtjkdonjcngmjeaaGreatDoorG12
import Derived.Test.YtjkdonjcngmjeaaGreatDoorG13
import Derived.Test.YtjkdonjcngmjeaaGreatDoorG14
import Derived.Test.YtjkdonjcngmjeaaGreatDoorG15
import Derived.Test.YtjkdonjcngmjeaaGreatDoorG16
import Derived.Test.YtjkdonjcngmjeaaGreatDoorG17
import Derived.Test.YtjkdonjcngmjeaaGreatDoorG18
import Derived.Test.YtjkdonjcngmjeaaGreatDoorG19
import Derived.Test.YtjkdonjcngmjeaaGreatDoorG20
import Derived.Test.YtjkdonjcngmjeaaGreatDoorG21
import Derived.Shelf.Strings.Repeat
import Derived.Shelf.Small.Wraps
import Derived.Shelf.Strings.Trim
/-
  codec.Num, codec.Read.
-/
namespace Go.Proofs.YtjkdonjcngmjeaaGreatDoor.sh
open Go Go.RowKit
set_option linter.unusedVariables false
set_option linter.unusedSimpArgs false

section
variable {ops : Array Oper} {rest : List Oper} {o : Oper} {a : Act} {w : World} {Q : Exit → Act → World → Prop} {d : Nat}
/-- A value, in this world. -/
theorem wv_valW (hd : o.dst = some d) (hw : Region.wanted o (yielded ops a.tmps) = true) (v : Value) (hrun : (execOp a.eval o).run Tryz.prog w = .ok (.value v) w) (h : wpList Tryz.prog ops Q rest (a.put o.dst v) w) : wpList Tryz.prog ops Q (o :: rest) a w :=
  BigFrame.wpList_want hw fun K hK => by
    unfold Oper.wp
    rw [hrun]
    exact hK _ _ h
end
theorem run_c64b {o : Oper} {a : Act} {x : Operand} {m z : Nat} (ho : o.op = .convert 22 5 x) (hx : a.eval x = .int .u64 (m : Int)) (hz : z = m % 256) (w : World) : (execOp a.eval o).run Tryz.prog w = .ok (.value (.int .u8 (z : Int))) w := by
  unfold execOp
  simp only [ho, hx]
  simp [go_sem, IntKind.wrap_u8', hz]
theorem run_shr8u {o : Oper} {a : Act} {x : Operand} {m z : Nat} {u : TypeId} (ho : o.op = .binOp .shr 22 x (.const (.int .u64 8)) u) (hx : a.eval x = .int .u64 (m : Int)) (hz : z = m / 256) (hm : m < 18446744073709551616) (w : World) : (execOp a.eval o).run Tryz.prog w = .ok (.value (.int .u64 (z : Int))) w := by
  have e3 : a.eval (.const (.int .u64 8)) = .int .u64 8 := rfl
  have h3 : (m : Int) / 256 = (z : Int) := by omega
  have h4 : (z : Int) % 18446744073709551616 = (z : Int) := by omega
  unfold execOp
  simp only [ho, hx, e3]
  simp [go_sem, Op.shift, IntKind.bits, IntKind.wrap_u64, Int.fdiv_eq_ediv_of_nonneg _ (show (0 : Int) ≤ 256 by decide), h3, h4]
theorem run_shl8u {o : Oper} {a : Act} {x : Operand} {m z : Nat} {u : TypeId} (ho : o.op = .binOp .shl 22 x (.const (.int .u64 8)) u) (hx : a.eval x = .int .u64 (m : Int)) (hz : z = m * 256) (hm : m < 72057594037927936) (w : World) : (execOp a.eval o).run Tryz.prog w = .ok (.value (.int .u64 (z : Int))) w := by
  have e3 : a.eval (.const (.int .u64 8)) = .int .u64 8 := rfl
  have h3 : (m : Int) * 256 % 18446744073709551616 = (z : Int) := by omega
  unfold execOp
  simp only [ho, hx, e3]
  simp [go_sem, Op.shift, IntKind.bits, IntKind.wrap_u64, h3]
theorem run_or8u {o : Oper} {a : Act} {x y : Operand} {m n p z : Nat} (ho : o.op = .binOp .or 22 x y 22) (hx : a.eval x = .int .u64 (m : Int)) (hy : a.eval y = .int .u64 (n : Int)) (hm : m = p * 256) (hp : p < 72057594037927936) (hn : n < 256) (hz : z = p * 256 + n) (w : World) : (execOp a.eval o).run Tryz.prog w = .ok (.value (.int .u64 (z : Int))) w := by
  have h := u64_or_nat m n (by omega) (by omega)
  rw [hm, or_256 p n hn, Nat.mul_comm 256 p, ← hz, ← hm] at h
  unfold execOp
  simp only [ho, hx, hy]
  simp [go_sem]
  exact h
theorem arr_fromV {o : Oper} {a : Act} {x y : Operand} {g n k : Nat} {p : Option Addr} {t e : TypeId} (ho : o.op = .slice t x (some y) none none) (hx : a.eval x = .pointer (some ⟨g, 0, none⟩)) (hy : a.eval y = .int .i64 (k : Int)) (ht : Tryz.prog.underlying t = some (.array n e)) (sz : ∀ w, (sizeOf e).run Tryz.prog w = .ok 1 w) (hn : k ≤ n) (hp : p = if n = k then some ⟨g, 0, none⟩ else some ⟨g, k, none⟩) (w : World) :
    (execOp a.eval o).run Tryz.prog w = .ok (.value (.slice p (n - k) (n - k))) w := by
  subst hp
  have h1 : ((k : Int) ≤ (n : Int)) := by omega
  unfold execOp
  simp only [ho, hx, hy, Option.map_none, Option.map_some, Instr.sliceAt, Instr.slice, Instr.sliceBounds, Sem.run_bind, run_underlying ht, Result.andThen_ok]
  simp [Instr.sliceBound, asIntOf, sz, go_sem, h1, hn, Addr.add]
  by_cases h0 : k = 0
  · subst h0
    split <;> rfl
  · simp [h0]
    split <;> rfl
theorem set_zero : ∀ (k z : Nat) (D : List Nat), (List.replicate (k + 1) 0 ++ D).set k z = List.replicate k 0 ++ (z :: D)
  | 0, z, D => by simp
  | k + 1, z, D => by
    rw [List.replicate_succ, List.cons_append, List.set_cons_succ, set_zero k z D, List.replicate_succ, List.cons_append]
theorem z8_cells : (#[.int .u8 0, .int .u8 0, .int .u8 0, .int .u8 0, .int .u8 0, .int .u8 0, .int .u8 0, .int .u8 0] : Array Value) = ints .u8 (List.replicate 8 0 ++ []) := by kernel_rfl

set_option maxRecDepth 100000 in
set_option maxHeartbeats 1000000 in
theorem NumD {n : Nat} {w : World} (hn : n < 18446744073709551616) :
    Calls Tryz.prog 25 #[.int .u64 (n : Int)] w fun e w' => e = .returned (.string (strOf (numL n))) ∧ Below w.heap.size w w' := by
  obtain ⟨R, hR⟩ : ∃ R, R = numL n := ⟨_, rfl⟩
  rw [← hR]
  have E0 : Kept ((#[.int .u8 0, .int .u8 0, .int .u8 0, .int .u8 0, .int .u8 0, .int .u8 0, .int .u8 0, .int .u8 0] : Array Value) = ints .u8 (List.replicate 8 0 ++ [])) := ⟨z8_cells⟩
  have A0 : Blk (w.alloc (.cells #[.int .u8 0, .int .u8 0, .int .u8 0, .int .u8 0, .int .u8 0, .int .u8 0, .int .u8 0, .int .u8 0] 95)) w.heap.size 95 (ints .u8 (List.replicate 8 0 ++ [])) := by rw [E0.out]; exact blk_new w _ _
  have Q0 : Below w.heap.size w (w.alloc (.cells #[.int .u8 0, .int .u8 0, .int .u8 0, .int .u8 0, .int .u8 0, .int .u8 0, .int .u8 0, .int .u8 0] 95)) := (Below.refl _ _).alloc (Nat.le_refl _) _
  have KR : Kept (numT n 8 ++ [] = R) := ⟨by rw [hR, List.append_nil]; rfl⟩
  clear hR
  go_enter Tryz.func25, Tryz.ntmps25
  go_wp2_with fail
  generalize hW : w.alloc (.cells #[.int .u8 0, .int .u8 0, .int .u8 0, .int .u8 0, .int .u8 0, .int .u8 0, .int .u8 0, .int .u8 0] 95) = wa at *
  clear hW E0
  go_loopg [0, 4] 8 (fun k s0 s4 wr => ∃ (m : Nat) (D : List Nat), s0 = .int .u64 (m : Int) ∧ s4 = .int .i64 (k : Int) ∧ k ≤ 8 ∧ m < 18446744073709551616 ∧ Kept (m < 256 ^ k ∧ D.length + k = 8 ∧ Bytes D ∧ numT m k ++ D = R) ∧ Below w.heap.size w wr ∧ Blk wr w.heap.size 95 (ints .u8 (List.replicate k 0 ++ D)))
  case atStart => exact ⟨n, [], rfl, rfl, Nat.le_refl _, hn, ⟨hn, rfl, nil_bytes, KR.out⟩, Q0, A0⟩
  case round =>
    rename World => wz
    obtain ⟨m, D, rfl, rfl, hk8, hm, KD, HB, AZ⟩ := hrel
    clear A0 Q0 KR
    by_cases hm0 : m = 0
    case pos =>
      subst hm0
      have h0 : ¬ (0 : Int) < ((0 : Nat) : Int) := by omega
      have eD : Kept (D = R) := ⟨by have := KD.out.2.2.2; rwa [numT_zero, List.nil_append] at this⟩
      obtain ⟨p, hp⟩ : ∃ p : Option Addr, p = if 8 = gk then some ⟨w.heap.size, 0, none⟩ else some ⟨w.heap.size, gk, none⟩ := ⟨_, rfl⟩
      have KPP : Kept _ := ⟨hp⟩
      have sl : Kept (IntsV .u8 (.slice p (8 - gk) (8 - gk)) wz R) := ⟨by
        have hDl : D.length = 8 - gk := by have := KD.out.2.1; omega
        refine ⟨_, 8 - gk, by rw [← eD.out, hDl], by rw [← eD.out, hDl]; exact Nat.le_refl _, fun hne => ?_⟩
        have hg8 : ¬ 8 = gk := fun h => hne (List.eq_nil_of_length_eq_zero (by rw [← eD.out, hDl]; omega))
        refine ⟨⟨w.heap.size, gk, none⟩, by rw [hp, if_neg hg8], AZ.lt, fun j x hx => ?_⟩
        rw [addr_add]
        refine AZ.cell (ints_get ?_)
        rw [List.getElem?_append_right (by rw [List.length_replicate]; omega), List.length_replicate, show gk + j - gk = j by omega, eD.out]
        exact hx⟩
      clear hp
      go_wp2_with (first | ((with_reducible refine wv_val (d := 16) ?hd ?hw (.slice p (8 - gk) (8 - gk)) ?hr ?_); (case hd => rfl); (case hw => kernel_rfl); (case hr => intro w; exact arr_fromV rfl (by kernel_rfl) (by kernel_rfl) Tryz.underlying95 sz_u8 hk8 KPP.out w); simp only [Act.put, List.setIfInBounds_toArray, List.set_cons_succ, List.set_cons_zero]) | ((with_reducible refine wv_valW (d := 17) ?hd ?hw (.string (strOf R)) ?hr ?_); (case hd => rfl); (case hw => kernel_rfl); (case hr => exact run_str rfl (by kernel_rfl) sl.out); simp only [Act.put, List.setIfInBounds_toArray, List.set_cons_succ, List.set_cons_zero]))
      go_ret
      exact ⟨rfl, HB⟩
    case neg =>
      have h0 : (0 : Int) < (m : Int) := by omega
      obtain ⟨k, hk⟩ : ∃ k, gk = k + 1 := by
        cases gk with
        | zero => have := KD.out.1; simp at this; omega
        | succ k => exact ⟨k, rfl⟩
      obtain ⟨z, hz⟩ : ∃ z, z = m % 256 := ⟨_, rfl⟩
      obtain ⟨m2, hm2⟩ : ∃ m2, m2 = m / 256 := ⟨_, rfl⟩
      have KZ : Kept _ := ⟨hz⟩
      have K2 : Kept _ := ⟨hm2⟩
      have K1 : Kept (gk = k + 1) := ⟨hk⟩
      have hk7 : k < 8 := by omega
      have hm2' : m2 < 18446744073709551616 := by omega
      have EB : Kept ((ints .u8 (List.replicate gk 0 ++ D)).setIfInBounds k (.int .u8 (z : Int)) = ints .u8 (List.replicate k 0 ++ (z :: D))) := ⟨by rw [ints_set, hk, set_zero]⟩
      have SB : k < (ints .u8 (List.replicate gk 0 ++ D)).size := by rw [ints_size, List.length_append, List.length_replicate]; omega
      have KD2 : Kept (m2 < 256 ^ k ∧ (z :: D).length + k = 8 ∧ Bytes (z :: D) ∧ numT m2 k ++ (z :: D) = R) := ⟨by
        obtain ⟨d1, d2, d3, d4⟩ := KD.out
        rw [hk, Nat.pow_succ] at d1
        refine ⟨by omega, by rw [List.length_cons]; omega, (bytes_of_all (fun y hy => by simp at hy; omega) : Bytes [z]).append d3, ?_⟩
        rw [← d4, hk]
        show _ = (if m = 0 then [] else numT (m / 256) k ++ [m % 256]) ++ D
        rw [if_neg hm0, hm2, hz, List.append_assoc]
        rfl⟩
      clear hz hm2 hk hm0 KD
      go_wp2_with (first | ((with_reducible refine wv_val (d := 10) ?hd ?hw (.int .i64 (k : Int)) ?hr ?_); (case hd => rfl); (case hw => kernel_rfl); (case hr => intro w; exact run_subZ 1 rfl (by kernel_rfl) K1.out (by omega) w); simp only [Act.put, List.setIfInBounds_toArray, List.set_cons_succ, List.set_cons_zero]) | ((with_reducible refine wv_val (d := 13) ?hd ?hw (.int .u8 (z : Int)) ?hr ?_); (case hd => rfl); (case hw => kernel_rfl); (case hr => intro w; exact run_c64b rfl (by kernel_rfl) KZ.out w); simp only [Act.put, List.setIfInBounds_toArray, List.set_cons_succ, List.set_cons_zero]) | ((with_reducible refine wv_val (d := 14) ?hd ?hw (.pointer (some ⟨w.heap.size, k, none⟩)) ?hr ?_); (case hd => rfl); (case hw => kernel_rfl); (case hr => intro w; exact run_idx rfl (by kernel_rfl) (by kernel_rfl) Tryz.underlying95 hk7 sz_u8 w); simp only [Act.put, List.setIfInBounds_toArray, List.set_cons_succ, List.set_cons_zero]) | (refine wl_setElem rfl 5 sz_u8 (.tmp 14) (.tmp 13) rfl w.heap.size k .u8 (z : Int) rfl rfl _ AZ SB ?_))
      intro w4 A4 P4
      rw [EB.out] at A4
      have HB4 := HB.trans (P4.below (Nat.le_refl _))
      clear AZ HB P4 SB EB
      go_wp2_with (first | ((with_reducible refine wv_val (d := 8) ?hd ?hw (.int .u64 (m2 : Int)) ?hr ?_); (case hd => rfl); (case hw => kernel_rfl); (case hr => intro w; exact run_shr8u rfl (by kernel_rfl) K2.out hm w); simp only [Act.put, List.setIfInBounds_toArray, List.set_cons_succ, List.set_cons_zero]))
      go_roundg k
      case measure => have := K1.out; omega
      case rel => exact ⟨m2, z :: D, rfl, rfl, by omega, hm2', KD2, HB4, A4⟩

/-- What Read answers. -/
def Reads (s : List Nat) : Prop := s.length ≤ 8 ∧ s.head? ≠ some 0
instance decReads (s : List Nat) : Decidable (Reads s) := inferInstanceAs (Decidable (_ ∧ _))
def rdV (s : List Nat) : Nat := if Reads s then readT s else 0
def rdE (s : List Nat) : Nat := if Reads s then 0 else 4
theorem readT_take {s : List Nat} {i x : Nat} (h : s[i]? = some x) : readT (s.take (i + 1)) = readT (s.take i) * 256 + x := by
  rw [List.take_add_one, h, Option.toList_some, readT_snoc]
theorem readT_takeB {s : List Nat} {i : Nat} (hs : Bytes s) (hi : i ≤ 7) : readT (s.take i) < 72057594037927936 := by
  have h := readT_lt (s.take i).length (s.take i) rfl (hs.take i)
  have h2 : (s.take i).length ≤ 7 := by rw [List.length_take]; omega
  have h3 : 256 ^ (s.take i).length ≤ 256 ^ 7 := Nat.pow_le_pow_right (by decide) h2
  omega
set_option maxRecDepth 100000 in
set_option maxHeartbeats 1000000 in
theorem ReadD {s : List Nat} {w : World} (hs : Bytes s) (hL : s.length ≤ maxLen) :
    Calls Tryz.prog 67 #[.string (strOf s)] w fun e w' => e = .returned (.tuple #[.int .u64 (rdV s : Int), .int .i64 (rdE s : Int)]) ∧ w' = w := by
  obtain ⟨m, hm⟩ : ∃ m, m = s.length := ⟨_, rfl⟩
  have KM : Kept _ := ⟨hm⟩
  have bad : ¬ Reads s → Ending.returned (.tuple #[.int .u64 0, .int .i64 4]) = .returned (.tuple #[.int .u64 (rdV s : Int), .int .i64 (rdE s : Int)]) := fun h => by
    unfold rdV rdE
    rw [if_neg h, if_neg h]
    rfl
  have KB : Kept _ := ⟨bad⟩
  have KS : Kept _ := ⟨hs⟩
  clear bad
  by_cases h8 : 8 < m
  · have h' : (8 : Int) < (m : Int) := by omega
    have hN : ¬ Reads s := fun h => by have := h.1; omega
    clear hm
    go_enter Tryz.func67, Tryz.ntmps67
    go_wp2_with (first | ((with_reducible refine wv_val (d := 7) ?hd ?hw (.int .i64 (m : Int)) ?hr ?_); (case hd => rfl); (case hw => kernel_rfl); (case hr => intro w; exact run_slen rfl (by kernel_rfl) KM.out w); simp only [Act.put, List.setIfInBounds_toArray, List.set_cons_succ, List.set_cons_zero]))
    go_ret2
    exact ⟨KB.out hN, rfl⟩
  · have h' : ¬ (8 : Int) < (m : Int) := by omega
    have hH := sHas s [0] w
    have e0 : (([0] : List Nat).map fun n => UInt8.ofNat n).isPrefixOf (s.map fun n => UInt8.ofNat n) = decide (s.head? = some 0) := by
      cases s with
      | nil => rfl
      | cons x r =>
        have hx : x < 256 := hs 0 x rfl
        show (UInt8.ofNat 0 == UInt8.ofNat x && _) = _
        by_cases h : x = 0
        · subst h; simp
        · have : ¬ (UInt8.ofNat 0 = UInt8.ofNat x) := fun e => h (by
            have := congrArg UInt8.toNat e
            simp at this
            omega)
          simp [h, this]
          intro h5
          exact absurd h5 this
    rw [e0] at hH
    clear e0
    by_cases hz : s.head? = some 0
    · have hN : ¬ Reads s := fun h => h.2 hz
      rw [decide_eq_true hz] at hH
      clear hm hz
      go_enter Tryz.func67, Tryz.ntmps67
      go_wp2_with (first | ((with_reducible refine wv_val (d := 7) ?hd ?hw (.int .i64 (m : Int)) ?hr ?_); (case hd => rfl); (case hw => kernel_rfl); (case hr => intro w; exact run_slen rfl (by kernel_rfl) KM.out w); simp only [Act.put, List.setIfInBounds_toArray, List.set_cons_succ, List.set_cons_zero]))
      refine hH.mono ?_
      rintro e w1 ⟨rfl, hw1⟩
      obtain rfl := hw1.symm
      go_wp2_with fail
      go_ret2
      exact ⟨KB.out hN, rfl⟩
    · have hR : Reads s := ⟨by omega, hz⟩
      have KR : Kept (rdV s = readT s ∧ rdE s = 0) := ⟨by unfold rdV rdE; rw [if_pos hR, if_pos hR]; exact ⟨rfl, rfl⟩⟩
      rw [KR.out.1, KR.out.2]
      rw [decide_eq_false hz] at hH
      obtain ⟨V, hV⟩ : ∃ V, V = readT s := ⟨_, rfl⟩
      rw [← hV]
      have KV : Kept _ := ⟨hV⟩
      clear hm hz hR KR hV
      go_enter Tryz.func67, Tryz.ntmps67
      go_wp2_with (first | ((with_reducible refine wv_val (d := 7) ?hd ?hw (.int .i64 (m : Int)) ?hr ?_); (case hd => rfl); (case hw => kernel_rfl); (case hr => intro w; exact run_slen rfl (by kernel_rfl) KM.out w); simp only [Act.put, List.setIfInBounds_toArray, List.set_cons_succ, List.set_cons_zero]))
      refine hH.mono ?_
      rintro e w1 ⟨rfl, hw1⟩
      obtain rfl := hw1.symm
      go_wp2_with (first | ((with_reducible refine wv_val (d := 14) ?hd ?hw (.int .i64 (m : Int)) ?hr ?_); (case hd => rfl); (case hw => kernel_rfl); (case hr => intro w; exact run_slen rfl (by kernel_rfl) KM.out w); simp only [Act.put, List.setIfInBounds_toArray, List.set_cons_succ, List.set_cons_zero]))
      go_loopg [4, 15] m (fun k s4 s15 wr => ∃ i v : Nat, i + k = m ∧ s15 = .int .i64 (i : Int) ∧ s4 = .int .u64 (v : Int) ∧ Kept (v = readT (s.take i)) ∧ wr = w)
      case atStart => exact ⟨0, 0, by omega, rfl, rfl, ⟨rfl⟩, rfl⟩
      case round =>
        obtain ⟨i, v, hik, rfl, rfl, Kv, hwr⟩ := hrel
        obtain rfl := hwr.symm
        by_cases hk0 : gk = 0
        · obtain rfl : m = i := by omega
          have hvV : Kept (v = V) := ⟨by rw [Kv.out, KV.out, KM.out, List.take_length]⟩
          go_wp2_with fail
          go_ret2
          exact ⟨by rw [← hvV.out]; rfl, rfl⟩
        · have hin : i < m := by omega
          have hin' : (i : Int) < (m : Int) := by omega
          obtain ⟨x, hx⟩ : ∃ x, s[i]? = some x := ⟨_, List.getElem?_eq_getElem (by rw [← KM.out]; exact hin)⟩
          have hx8 : x < 256 := KS.out i x hx
          have KX : Kept _ := ⟨hx⟩
          have hv7 : v < 72057594037927936 := by rw [Kv.out]; exact readT_takeB KS.out (by omega)
          obtain ⟨p, hp⟩ : ∃ p, p = v * 256 := ⟨_, rfl⟩
          obtain ⟨q, hq⟩ : ∃ q, q = v * 256 + x := ⟨_, rfl⟩
          have KP : Kept _ := ⟨hp⟩
          have KQ : Kept _ := ⟨hq⟩
          clear hx hp hq
          go_wp2_with (first | ((with_reducible refine wv_val (d := 19) ?hd ?hw (.int .u64 (p : Int)) ?hr ?_); (case hd => rfl); (case hw => kernel_rfl); (case hr => intro w; exact run_shl8u rfl (by kernel_rfl) KP.out hv7 w); simp only [Act.put, List.setIfInBounds_toArray, List.set_cons_succ, List.set_cons_zero]) | ((with_reducible refine wv_val (d := 22) ?hd ?hw (.int .u8 (x : Int)) ?hr ?_); (case hd => rfl); (case hw => kernel_rfl); (case hr => intro w; exact run_sidx rfl (by kernel_rfl) (by kernel_rfl) KS.out KX.out w); simp only [Act.put, List.setIfInBounds_toArray, List.set_cons_succ, List.set_cons_zero]) | ((with_reducible refine wv_val (d := 23) ?hd ?hw (.int .u64 (x : Int)) ?hr ?_); (case hd => rfl); (case hw => kernel_rfl); (case hr => intro w; exact run_c864 rfl (by kernel_rfl) hx8 w); simp only [Act.put, List.setIfInBounds_toArray, List.set_cons_succ, List.set_cons_zero]) | ((with_reducible refine wv_val (d := 24) ?hd ?hw (.int .u64 (q : Int)) ?hr ?_); (case hd => rfl); (case hw => kernel_rfl); (case hr => intro w; exact run_or8u rfl (by kernel_rfl) (by kernel_rfl) KP.out hv7 hx8 KQ.out w); simp only [Act.put, List.setIfInBounds_toArray, List.set_cons_succ, List.set_cons_zero]))
          go_roundg (gk - 1)
          case measure => omega
          case rel => exact ⟨i + 1, q, by omega, by simp, rfl, ⟨by rw [KQ.out, Kv.out, readT_take KX.out]⟩, rfl⟩
end Go.Proofs.YtjkdonjcngmjeaaGreatDoor.sh
/-
  The reference's Same, Num, Read.
-/
namespace Go.Proofs.YtjkdonjcngmjeaaGreatDoor.sh
open Go Go.RowKit
set_option linter.unusedVariables false
set_option linter.unusedSimpArgs false

end Go.Proofs.YtjkdonjcngmjeaaGreatDoor.sh
/-
  The reference's Join.
-/
namespace Go.Proofs.YtjkdonjcngmjeaaGreatDoor.sh
open Go Go.RowKit
set_option linter.unusedVariables false
set_option linter.unusedSimpArgs false

section
variable {h : List Oper} {A0 A : Act} {W0 : World} {S : Nat → Option (Value → World → Prop)} {sp O : List Nat} {E : List (Nat × Nat)} {i : Nat} {o : Oper}
end
end Go.Proofs.YtjkdonjcngmjeaaGreatDoor.sh
/-
  The reference's Split.
-/
namespace Go.Proofs.YtjkdonjcngmjeaaGreatDoor.sh
open Go Go.RowKit
set_option linter.unusedVariables false
set_option linter.unusedSimpArgs false

end Go.Proofs.YtjkdonjcngmjeaaGreatDoor.sh
/-
  The statements' alive: answers that the document fixes.
-/
namespace Go.Proofs.YtjkdonjcngmjeaaGreatDoor.sh
open Go Go.RowKit
set_option linter.unusedVariables false
set_option linter.unusedSimpArgs false

def s8 : List Nat := [1, 7, 2, 0, 1, 97, 0, 0]
end Go.Proofs.YtjkdonjcngmjeaaGreatDoor.sh
/-
  What the statements of layer 8 take and compare; CodecKinds.
-/
namespace Go.Proofs.YtjkdonjcngmjeaaGreatDoor.sh
open Go Go.RowKit
set_option linter.unusedVariables false
set_option linter.unusedSimpArgs false

theorem run_eqII {o : Oper} {a : Act} {x y : Operand} {m n : Int} {b : Bool} (ho : o.op = .binOp .eql 3 x y 3) (hx : a.eval x = .int .i64 m) (hy : a.eval y = .int .i64 n) (hb : b = decide (m = n)) (w : World) : (execOp a.eval o).run Tryz.prog w = .ok (.value (.bool b)) w := by
  unfold execOp
  simp only [ho, hx, hy]
  rw [hb]
  by_cases h : m = n
  · subst h; simp [go_sem]
  · simp [go_sem, h]
theorem join_lenB {k : Nat} {ll : List (List Nat)} (hF : Fits ll) : (joinL k ll).length ≤ maxLen := by
  have := hF.2.2
  rw [joinL_len]
  unfold maxLen
  omega
end Go.Proofs.YtjkdonjcngmjeaaGreatDoor.sh
/-
  Terms as lists: names, what a table has, found, put, put together by two.
-/
namespace Go.Proofs.YtjkdonjcngmjeaaGreatDoor.sh
open Go Go.RowKit
set_option linter.unusedVariables false
set_option linter.unusedSimpArgs false

/-- A number's eight bytes, the highest first. -/
def bigL : Nat → Nat → List Nat
  | _, 0 => []
  | n, k + 1 => bigL (n / 256) k ++ [n % 256]
theorem bigL_len : ∀ (k n : Nat), (bigL n k).length = k
  | 0, _ => rfl
  | k + 1, n => by unfold bigL; rw [List.length_append, bigL_len k]; rfl
theorem bigL_bytes : ∀ (k n : Nat), Bytes (bigL n k)
  | 0, _ => nil_bytes
  | k + 1, n => by unfold bigL; exact (bigL_bytes k _).append (bytes_of_all (fun x hx => by simp at hx; omega))
theorem readT_bigL : ∀ (k n : Nat), n < 256 ^ k → readT (bigL n k) = n
  | 0, n, h => by simp at h; subst h; rfl
  | k + 1, n, h => by
    unfold bigL
    rw [readT_snoc, readT_bigL k (n / 256) (by rw [Nat.pow_succ] at h; omega)]
    omega
/-- The n-th name. -/
def termN (n : Nat) : List Nat := [116, 101, 114, 109] ++ List.replicate 20 0 ++ bigL n 8
theorem termN_len (n : Nat) : (termN n).length = 32 := by unfold termN; rw [List.length_append, bigL_len]; rfl
theorem termN_bytes (n : Nat) : Bytes (termN n) := by
  unfold termN
  exact (bytes_of_all (fun x hx => by
    rcases List.mem_append.1 hx with hx | hx
    · simp at hx; omega
    · have := List.eq_of_mem_replicate hx; omega)).append (bigL_bytes 8 n)
theorem termN_inj {n m : Nat} (hn : n < 18446744073709551616) (hm : m < 18446744073709551616) (h : termN n = termN m) : n = m := by
  have h1 := List.append_cancel_left h
  have h2 := congrArg readT h1
  rwa [readT_bigL 8 n hn, readT_bigL 8 m hm] at h2
/-- A term: its kind, its parts. -/
abbrev TermL := Nat × List (List Nat)
/-- The number of a name among so many; 0: it is none. -/
def findN : Nat → List Nat → Nat
  | 0, _ => 0
  | n + 1, s => if termN (n + 1) = s then n + 1 else findN n s
theorem findN_le : ∀ (n : Nat) (s : List Nat), findN n s ≤ n
  | 0, _ => Nat.le_refl _
  | n + 1, s => by
    unfold findN
    split
    · exact Nat.le_refl _
    · have := findN_le n s; omega
theorem findN_name : ∀ (n : Nat) (s : List Nat), findN n s ≠ 0 → termN (findN n s) = s
  | 0, _, h => absurd rfl h
  | n + 1, s, h => by
    unfold findN at h ⊢
    split
    · next h2 => exact h2
    · next h2 => rw [if_neg h2] at h; exact findN_name n s h
theorem findN_at : ∀ (n i : Nat), n < 18446744073709551616 → 0 < i → i ≤ n → findN n (termN i) = i
  | 0, i, _, h0, h1 => by omega
  | n + 1, i, hn, h0, h1 => by
    unfold findN
    by_cases h : i = n + 1
    · subst h; rw [if_pos rfl]
    · rw [if_neg (fun h2 => h (termN_inj hn (by omega) h2).symm), findN_at n i (by omega) h0 (by omega)]
theorem findN_none {n : Nat} {s : List Nat} (h : ∀ i, 0 < i → i ≤ n → termN i ≠ s) : findN n s = 0 := by
  rcases Nat.eq_zero_or_pos (findN n s) with h2 | h2
  · exact h2
  · exact absurd (findN_name n s (by omega)) (h _ h2 (findN_le n s))

theorem lessL_asym : ∀ (l m : List Nat), lessL l m = true → lessL m l = false
  | [], [], h => by simp [lessL] at h
  | [], _ :: _, _ => rfl
  | _ :: _, [], h => by simp [lessL] at h
  | a :: x, b :: y, h => by
    simp only [lessL, Bool.or_eq_true, decide_eq_true_eq, Bool.and_eq_true] at h
    simp only [lessL, Bool.or_eq_false_iff, decide_eq_false_iff_not, Bool.and_eq_false_iff]
    rcases h with h | ⟨h1, h2⟩
    · exact ⟨by omega, .inl (by omega)⟩
    · exact ⟨by omega, .inr (lessL_asym x y h2)⟩
theorem lessL_tri : ∀ (l m : List Nat), lessL l m = false → lessL m l = false → l = m
  | [], [], _, _ => rfl
  | [], _ :: _, h, _ => by simp [lessL] at h
  | _ :: _, [], _, h => by simp [lessL] at h
  | a :: x, b :: y, h1, h2 => by
    simp only [lessL, Bool.or_eq_false_iff, decide_eq_false_iff_not, Bool.and_eq_false_iff] at h1 h2
    have hab : a = b := by omega
    subst hab
    have e1 : lessL x y = false := by rcases h1.2 with h | h; exact absurd rfl h; exact h
    have e2 : lessL y x = false := by rcases h2.2 with h | h; exact absurd rfl h; exact h
    rw [lessL_tri x y e1 e2]
/-- Two, the lesser one first. -/
def sort2 (a y : List Nat) : List (List Nat) := if lessL y a = true then [y, a] else [a, y]
/-- What a list of terms is behind a term that is put, and its name. -/
def putL (ts : List TermL) (t : TermL) : List TermL × List Nat :=
  if Fits t.2 then (if t ∈ ts then (ts, termN (ts.idxOf t + 1)) else (ts ++ [t], termN (ts.length + 1))) else (ts, [])
theorem putL_not {ts : List TermL} {t : TermL} (h : ¬ Fits t.2) : putL ts t = (ts, []) := if_neg h
theorem putL_old {ts : List TermL} {t : TermL} (h : Fits t.2) (h2 : t ∈ ts) : putL ts t = (ts, termN (ts.idxOf t + 1)) := by unfold putL; rw [if_pos h, if_pos h2]
theorem putL_new {ts : List TermL} {t : TermL} (h : Fits t.2) (h2 : t ∉ ts) : putL ts t = (ts ++ [t], termN (ts.length + 1)) := by unfold putL; rw [if_pos h, if_neg h2]
/-- A list as tables have it: no term twice, each may be joined. -/
def Clean (ts : List TermL) : Prop := ts.Nodup ∧ ∀ t ∈ ts, Fits t.2
theorem clean_nil : Clean [] := ⟨List.nodup_nil, fun t h => by cases h⟩
theorem putL_clean {ts : List TermL} (h : Clean ts) (t : TermL) : Clean (putL ts t).1 := by
  by_cases hF : Fits t.2
  · by_cases hm : t ∈ ts
    · rw [putL_old hF hm]; exact h
    · rw [putL_new hF hm]
      refine ⟨List.nodup_append.2 ⟨h.1, by simp, fun a ha b hb => ?_⟩, fun x hx => ?_⟩
      · rw [List.mem_singleton] at hb
        subst hb
        exact fun e => hm (by rw [← e]; exact ha)
      · rcases List.mem_append.1 hx with hx | hx
        · exact h.2 x hx
        · rw [List.mem_singleton] at hx; rw [hx]; exact hF
  · rw [putL_not hF]; exact h
theorem putL_grows (ts : List TermL) (t : TermL) : ts <+: (putL ts t).1 := by
  by_cases hF : Fits t.2
  · by_cases hm : t ∈ ts
    · rw [putL_old hF hm]; exact List.prefix_rfl
    · rw [putL_new hF hm]; exact List.prefix_append _ _
  · rw [putL_not hF]; exact List.prefix_rfl
theorem putL_len (ts : List TermL) (t : TermL) : (putL ts t).1.length ≤ ts.length + 1 := by
  by_cases hF : Fits t.2
  · by_cases hm : t ∈ ts
    · rw [putL_old hF hm]; exact Nat.le_succ _
    · rw [putL_new hF hm]; simp
  · rw [putL_not hF]; exact Nat.le_succ _
theorem idx_get {ts : List TermL} {t : TermL} (h : t ∈ ts) : ts[ts.idxOf t]? = some t := by
  rw [List.getElem?_eq_getElem (List.idxOf_lt_length_of_mem h)]
  exact congrArg some (List.getElem_idxOf _)
/-- What two secrets come to: the list behind, the name, and whether there is one. -/
def dhL (ts : List TermL) (a b : List Nat) : List TermL × List Nat × Bool :=
  match ts[findN ts.length b - 1]? with
  | some (2, [y]) => if findN ts.length b = 0 then (ts, [], false) else
    let r := putL ts (3, sort2 a y)
    (r.1, r.2, decide (r.2 ≠ []))
  | _ => (ts, [], false)
end Go.Proofs.YtjkdonjcngmjeaaGreatDoor.sh
/-
  Terms as lists: names that stay, acts one behind the other, what two secrets come to.
-/
namespace Go.Proofs.YtjkdonjcngmjeaaGreatDoor.sh
open Go Go.RowKit
set_option linter.unusedVariables false
set_option linter.unusedSimpArgs false

/-- The name of a term that a list has. -/
def nameOf (ts : List TermL) (t : TermL) : List Nat := termN (ts.idxOf t + 1)
theorem putL_name {ts : List TermL} {t : TermL} (hF : Fits t.2) : (putL ts t).2 = nameOf (putL ts t).1 t ∧ t ∈ (putL ts t).1 := by
  by_cases hm : t ∈ ts
  · rw [putL_old hF hm]
    exact ⟨rfl, hm⟩
  · rw [putL_new hF hm]
    refine ⟨?_, by simp⟩
    unfold nameOf
    rw [List.idxOf_append, if_neg hm]
    simp
theorem nameOf_prefix {ts us : List TermL} {t : TermL} (h : t ∈ ts) (hp : ts <+: us) : nameOf us t = nameOf ts t := by
  obtain ⟨r, rfl⟩ := hp
  unfold nameOf
  rw [List.idxOf_append, if_pos h]
theorem find_nameOf {ts : List TermL} {t : TermL} (ht : t ∈ ts) (hl : ts.length < 18446744073709551615) : findN ts.length (nameOf ts t) = ts.idxOf t + 1 := by
  have h1 := List.idxOf_lt_length_of_mem ht
  exact findN_at _ _ (by omega) (by omega) (by omega)
theorem dhL_pub {ts : List TermL} {a y : List Nat} (h : ((2, [y]) : TermL) ∈ ts) (hl : ts.length < 18446744073709551615) : dhL ts a (nameOf ts (2, [y])) = ((putL ts (3, sort2 a y)).1, (putL ts (3, sort2 a y)).2, decide ((putL ts (3, sort2 a y)).2 ≠ [])) := by
  unfold dhL
  rw [find_nameOf h hl, Nat.add_sub_cancel, idx_get h]
  rfl
/-- An act. -/
structure ActL where
  kind : Nat
  a : Nat
  b : Nat
  n : Nat
  s : List Nat
  raw : Bool
/-- What terms a table has: of what kinds, of how many parts, of bytes. -/
def Formed (t : TermL) : Prop := (∀ p ∈ t.2, Bytes p) ∧ ((t.1 = 1 ∧ ∃ p, t.2 = [p]) ∨ (t.1 = 2 ∧ ∃ p, t.2 = [p]) ∨ (t.1 = 3 ∧ ∃ p q, t.2 = [p, q]) ∨ t.1 = 4 ∨ t.1 = 5)
def Terms (ts : List TermL) : Prop := Clean ts ∧ ∀ t ∈ ts, Formed t
theorem terms_nil : Terms [] := ⟨clean_nil, fun t h => by cases h⟩
theorem putL_terms {ts : List TermL} {t : TermL} (h : Terms ts) (ht : Formed t) : Terms (putL ts t).1 := by
  refine ⟨putL_clean h.1 t, ?_⟩
  by_cases hF : Fits t.2
  · by_cases hm : t ∈ ts
    · rw [putL_old hF hm]; exact h.2
    · rw [putL_new hF hm]
      intro x hx
      rcases List.mem_append.1 hx with hx | hx
      · exact h.2 x hx
      · rw [List.mem_singleton] at hx; rw [hx]; exact ht
  · rw [putL_not hF]; exact h.2
theorem sort2_bytes {a y : List Nat} (ha : Bytes a) (hy : Bytes y) : ∀ p ∈ sort2 a y, Bytes p := by
  intro p hp
  unfold sort2 at hp
  split at hp <;> (simp at hp; rcases hp with rfl | rfl <;> assumption)
theorem sort2_two (a y : List Nat) : ∃ p q, sort2 a y = [p, q] := by
  unfold sort2
  split
  · exact ⟨_, _, rfl⟩
  · exact ⟨_, _, rfl⟩
end Go.Proofs.YtjkdonjcngmjeaaGreatDoor.sh
/-
  The library's Repeat, CutPrefix and TrimLeft at one byte in this program: the shelf's contracts.
-/
namespace Go.Proofs.YtjkdonjcngmjeaaGreatDoor.sh
open Go Go.RowKit Go.Shelf
set_option linter.unusedVariables false
set_option linter.unusedSimpArgs false

theorem lay103 : Lays.n103 Tryz.prog ren := { mixed := by kernel_rfl, f103 := Tryz.func66.trans (congrArg some (by kernel_rfl)), f206 := Tryz.func130.trans (congrArg some (by kernel_rfl)), f210 := Tryz.func103.trans (congrArg some (by kernel_rfl)), t3 := Tryz.underlying3, a3 := Tryz.isAgg3, z3 := Tryz.sizeOf3, v3 := Tryz.zeroValue3, t4 := Tryz.underlying4, a4 := Tryz.isAgg4, z4 := Tryz.sizeOf4, v4 := Tryz.zeroValue4, t9 := Tryz.underlying9, a9 := Tryz.isAgg9, z9 := Tryz.sizeOf9, v9 := Tryz.zeroValue9, t24 := Tryz.underlying37, a24 := Tryz.isAgg37, z24 := Tryz.sizeOf37, v24 := Tryz.zeroValue37 }
theorem lay231 : Lays.n231 Tryz.prog ren := { mixed := by kernel_rfl, f231 := Tryz.func105.trans (congrArg some (by kernel_rfl)), t3 := Tryz.underlying3, a3 := Tryz.isAgg3, z3 := Tryz.sizeOf3, v3 := Tryz.zeroValue3, t4 := Tryz.underlying4, a4 := Tryz.isAgg4, z4 := Tryz.sizeOf4, v4 := Tryz.zeroValue4, t5 := Tryz.underlying5, a5 := Tryz.isAgg5, z5 := Tryz.sizeOf5, v5 := Tryz.zeroValue5, t9 := Tryz.underlying9, a9 := Tryz.isAgg9, z9 := Tryz.sizeOf9, v9 := Tryz.zeroValue9 }
theorem lay105 : Lays.n105 Tryz.prog ren := { mixed := by kernel_rfl, f99 := Tryz.func104.trans (congrArg some (by kernel_rfl)), f105 := Tryz.func102.trans (congrArg some (by kernel_rfl)), f165 := Tryz.func98.trans (congrArg some (by kernel_rfl)), f166 := Tryz.func100.trans (congrArg some (by kernel_rfl)), f169 := Tryz.func101.trans (congrArg some (by kernel_rfl)), f170 := Tryz.func129.trans (congrArg some (by kernel_rfl)), f206 := Tryz.func130.trans (congrArg some (by kernel_rfl)), f212 := Tryz.func128.trans (congrArg some (by kernel_rfl)), f240 := Tryz.func126.trans (congrArg some (by kernel_rfl)), f241 := Tryz.func127.trans (congrArg some (by kernel_rfl)), f263 := Tryz.func141.trans (congrArg some (by kernel_rfl)), f264 := Tryz.func137.trans (congrArg some (by kernel_rfl)), f276 := Tryz.func139.trans (congrArg some (by kernel_rfl)), f277 := Tryz.func140.trans (congrArg some (by kernel_rfl)), t0 := Tryz.underlying0, a0 := Tryz.isAgg0, z0 := Tryz.sizeOf0, v0 := Tryz.zeroValue0, t3 := Tryz.underlying3, a3 := Tryz.isAgg3, z3 := Tryz.sizeOf3, v3 := Tryz.zeroValue3, t4 := Tryz.underlying4, a4 := Tryz.isAgg4, z4 := Tryz.sizeOf4, v4 := Tryz.zeroValue4, t5 := Tryz.underlying5, a5 := Tryz.isAgg5, z5 := Tryz.sizeOf5, v5 := Tryz.zeroValue5, t9 := Tryz.underlying9, a9 := Tryz.isAgg9, z9 := Tryz.sizeOf9, v9 := Tryz.zeroValue9, t20 := Tryz.underlying20, a20 := Tryz.isAgg20, z20 := Tryz.sizeOf20, v20 := Tryz.zeroValue20, t37 := Tryz.underlying34, a37 := Tryz.isAgg34, z37 := Tryz.sizeOf34, v37 := Tryz.zeroValue34, t46 := Tryz.underlying96, a46 := Tryz.isAgg96, z46 := Tryz.sizeOf96, v46 := Tryz.zeroValue96, t51 := Tryz.underlying72, a51 := Tryz.isAgg72, z51 := Tryz.sizeOf72, v51 := Tryz.zeroValue72, t53 := Tryz.underlying22, a53 := Tryz.isAgg22, z53 := Tryz.sizeOf22, v53 := Tryz.zeroValue22, t70 := Tryz.underlying155, a70 := Tryz.isAgg155, z70 := Tryz.sizeOf155, v70 := Tryz.zeroValue155, t72 := Tryz.underlying157, a72 := Tryz.isAgg157, z72 := Tryz.sizeOf157, v72 := Tryz.zeroValue157, t75 := Tryz.underlying160, a75 := Tryz.isAgg160, z75 := Tryz.sizeOf160, v75 := Tryz.zeroValue160, t76 := Tryz.underlying162, a76 := Tryz.isAgg162, z76 := Tryz.sizeOf162, v76 := Tryz.zeroValue162, t109 := Tryz.underlying194, a109 := Tryz.isAgg194, z109 := Tryz.sizeOf194, v109 := Tryz.zeroValue194, t127 := Tryz.underlying193, a127 := Tryz.isAgg193, z127 := Tryz.sizeOf193, v127 := Tryz.zeroValue193, t146 := Tryz.underlying208, a146 := Tryz.isAgg208, z146 := Tryz.sizeOf208, v146 := Tryz.zeroValue208, t148 := Tryz.underlying179, a148 := Tryz.isAgg179, z148 := Tryz.sizeOf179, v148 := Tryz.zeroValue179, t164 := Tryz.underlying205, a164 := Tryz.isAgg205, z164 := Tryz.sizeOf205, v164 := Tryz.zeroValue205 }
theorem sRep {l : List Nat} {c : Nat} (w : World) (hl : l.length * c ≤ 140737488355328) (hc : c ≤ 9223372036854775807) :
    Calls Tryz.prog 102 #[.string (strOf l), .int .i64 (c : Int)] w fun e w' => e = .returned (.string ⟨(Lib.repeatL ((l.map fun n => UInt8.ofNat n)) c).toArray⟩) ∧ Below w.heap.size w w' := by
  have h := Any.strings_Repeat lay105 layX (strOf l) c w hc (by rw [strOf_size]; exact hl)
  rw [sa_data] at h
  exact h
theorem sCut (l m : List Nat) (w : World) :
    Calls Tryz.prog 66 #[.string (strOf l), .string (strOf m)] w fun e w' => e = .returned (.tuple #[.string ⟨(Lib.trimPrefix (l.map fun n => UInt8.ofNat n) (m.map fun n => UInt8.ofNat n)).toArray⟩, .bool (Lib.hasPrefix (l.map fun n => UInt8.ofNat n) (m.map fun n => UInt8.ofNat n))]) ∧ w' = w := by
  have h := Any.strings_CutPrefix lay103 (strOf l) (strOf m) w
  rw [sa_data, sa_data] at h
  exact h
theorem sTrimB (l : List Nat) (c : UInt8) (w : World) :
    Calls Tryz.prog 105 #[.string (strOf l), .int .u8 c.toNat] w fun e w' => e = .returned (.string ⟨(Lib.trimLeftB (l.map fun n => UInt8.ofNat n) c).toArray⟩) ∧ w' = w := by
  have h := Any.strings_trimLeftByte lay231 (strOf l) c w
  rw [sa_data] at h
  exact h
end Go.Proofs.YtjkdonjcngmjeaaGreatDoor.sh
