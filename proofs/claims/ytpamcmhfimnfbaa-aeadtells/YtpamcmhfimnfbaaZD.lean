/-
  Seal and Open whole; the answers that the document fixes for layer 7 are as they must be.
-/
import Derived.Test.YtpamcmhfimnfbaaZC
namespace Go.Proofs.Ytpamcmhfimnfbaa.sh
open Go Go.RowKit
set_option linter.unusedVariables false
set_option linter.unusedSimpArgs false

def sealP (key : List Nat) (n : Nat) (a b : List Nat) : List Nat × Nat := if 60000 < a.length ∨ 60000 < b.length then ([], 3) else (sealL key n a b, 0)
def openP (key : List Nat) (n : Nat) (a b : List Nat) : List Nat × Nat := if 60000 < a.length ∨ 60016 < b.length then ([], 3) else if b.length < 16 then ([], 4) else if markL key n a (b.take (b.length - 16)) = b.drop (b.length - 16) then (encL key (nonceL n) 1 (b.take (b.length - 16)), 0) else ([], 5)
theorem nil_bytesV (w : World) : BytesV (.slice none 0 0) w [] := ⟨none, 0, rfl, Nat.le_refl _, fun h => absurd rfl h⟩
theorem SealD (key : List Nat) (n : Nat) (a b : List Nat) (va vb : Value) (w : World) (hk : key.length = 32) (hy : Bytes key) (hn : n < 18446744073709551616) (hva : BytesV va w a) (hvb : BytesV vb w b) (hya : Bytes a) (hyb : Bytes b) :
    Calls Try.prog 9 #[.agg (ints .u8 key), .int .u64 (n : Int), va, vb] w fun e w' => ∃ v, e = .returned (.tuple #[v, .int .i64 ((sealP key n a b).2 : Int)]) ∧ BytesV v w' (sealP key n a b).1 ∧ Below w.heap.size w w' := by
  unfold sealP
  by_cases h : 60000 < a.length ∨ 60000 < b.length
  · rw [if_pos h]
    refine (Seal_big key n a b va vb w hva hvb h).mono ?_
    rintro e w' ⟨rfl, hb⟩
    exact ⟨_, rfl, nil_bytesV _, hb⟩
  · rw [if_neg h]
    refine (Seal_ok key n a b va vb w hk hy hn hva hvb hya hyb (by omega) (by omega)).mono ?_
    rintro e w' ⟨v, rfl, hr, hb⟩
    exact ⟨_, rfl, row_bytes hr, hb⟩
theorem OpenD (key : List Nat) (n : Nat) (a b : List Nat) (va vb : Value) (w : World) (hk : key.length = 32) (hy : Bytes key) (hn : n < 18446744073709551616) (hva : BytesV va w a) (hvb : BytesV vb w b) (hya : Bytes a) (hyb : Bytes b) :
    Calls Try.prog 11 #[.agg (ints .u8 key), .int .u64 (n : Int), va, vb] w fun e w' => ∃ v, e = .returned (.tuple #[v, .int .i64 ((openP key n a b).2 : Int)]) ∧ BytesV v w' (openP key n a b).1 ∧ Below w.heap.size w w' := by
  unfold openP
  by_cases h : 60000 < a.length ∨ 60016 < b.length
  · rw [if_pos h]
    refine (Open_big key n a b va vb w hva hvb h).mono ?_
    rintro e w' ⟨rfl, hb⟩
    exact ⟨_, rfl, nil_bytesV _, hb⟩
  · rw [if_neg h]
    by_cases h16 : b.length < 16
    · rw [if_pos h16]
      refine (Open_short key n a b va vb w hva hvb (by omega) h16).mono ?_
      rintro e w' ⟨rfl, hb⟩
      exact ⟨_, rfl, nil_bytesV _, hb⟩
    · rw [if_neg h16]
      refine (Open_any key n a b va vb w hk hy hn hva hvb hya hyb (by omega) (by omega) (by omega)).mono ?_
      rintro e w' ⟨hb, v, ⟨ht, rfl, hv⟩ | ⟨ht, rfl, rfl⟩⟩
      · rw [if_pos ht]; exact ⟨_, rfl, hv, hb⟩
      · rw [if_neg ht]; exact ⟨_, rfl, nil_bytesV _, hb⟩
theorem sealP_ok (key : List Nat) (n : Nat) (a b : List Nat) (la : a.length ≤ 60000) (lb : b.length ≤ 60000) : sealP key n a b = (sealL key n a b, 0) := by unfold sealP; rw [if_neg (by omega)]
theorem sealP_big (key : List Nat) (n : Nat) (a b : List Nat) (h : 60000 < a.length ∨ 60000 < b.length) : sealP key n a b = ([], 3) := by unfold sealP; rw [if_pos h]
theorem openP_big (key : List Nat) (n : Nat) (a b : List Nat) (h : 60000 < a.length ∨ 60016 < b.length) : openP key n a b = ([], 3) := by unfold openP; rw [if_pos h]
theorem openP_short (key : List Nat) (n : Nat) (a b : List Nat) (la : a.length ≤ 60000) (lb : b.length < 16) : openP key n a b = ([], 4) := by unfold openP; rw [if_neg (by omega), if_pos lb]
theorem seal_cut (key : List Nat) (n : Nat) (a b : List Nat) : (sealL key n a b).take ((sealL key n a b).length - 16) = encL key (nonceL n) 1 b ∧ (sealL key n a b).drop ((sealL key n a b).length - 16) = markL key n a (encL key (nonceL n) 1 b) := by
  rw [sealL_len, Nat.add_sub_cancel, sealL]
  exact ⟨List.take_left' (by rw [encL_len]), List.drop_left' (by rw [encL_len])⟩
/-- What is sealed is opened. -/
theorem openP_seal (key : List Nat) (n : Nat) (a b : List Nat) (la : a.length ≤ 60000) (lb : b.length ≤ 60000) : openP key n a (sealL key n a b) = (b, 0) := by
  have hl := sealL_len key n a b
  obtain ⟨h1, h2⟩ := seal_cut key n a b
  unfold openP
  rw [if_neg (by omega), if_neg (by omega), h1, h2, if_pos rfl, encL_back]
/-- With another tag it is not. -/
theorem openP_bad (key : List Nat) (n : Nat) (a b t : List Nat) (la : a.length ≤ 60000) (lb : b.length ≤ 60000) (ht : t.length = 16) (hne : markL key n a (encL key (nonceL n) 1 b) ≠ t) : openP key n a (encL key (nonceL n) 1 b ++ t) = ([], 5) := by
  have hl : (encL key (nonceL n) 1 b ++ t).length = b.length + 16 := by rw [List.length_append, encL_len, ht]
  unfold openP
  rw [if_neg (by omega), if_neg (by omega), hl, Nat.add_sub_cancel, List.take_left' (by rw [encL_len]), List.drop_left' (by rw [encL_len]), if_neg hne]

def keyQ : List Nat := [1, 2, 3] ++ List.replicate 29 0
theorem keyQ_bytes : Bytes keyQ := bytes_of_all (by decide)
theorem run_keyQ {o : Oper} {a : Act} (ho : o.op = .build 22 #[(0, .const (.int .u8 1)), (1, .const (.int .u8 2)), (2, .const (.int .u8 3))]) (w : World) : (execOp a.eval o).run Try.prog w = .ok (.value (.agg (ints .u8 keyQ))) w := by
  have hb : (Instr.build 22 #[(0, .int .u8 1), (1, .int .u8 2), (2, .int .u8 3)]).run Try.prog w = .ok (.agg (ints .u8 keyQ)) w := by kernel_rfl
  unfold execOp
  simp only [ho, List.map_toArray, List.map_cons, List.map_nil, Act.eval]
  simp [hb]
theorem run_eql_strC {o : Oper} {a : Act} {x : Operand} {u : TypeId} {s c : ByteArray} (ho : o.op = .binOp .eql 9 x (.const (.string c)) u) (hx : a.eval x = .string s) (hs : s = c) (w : World) : (execOp a.eval o).run Try.prog w = .ok (.value (.bool true)) w :=
  run_eql_str ho hx (by rw [hs]; rfl) w
theorem slice_form {v : Value} {w : World} {l : List Nat} {n : Nat} (h : BytesV v w l) (hn : l.length = n) : ∃ p c, v = .slice p n c := by
  obtain ⟨p, c, rfl, _, _⟩ := h
  exact ⟨p, c, by rw [hn]⟩

set_option maxRecDepth 100000 in
set_option maxHeartbeats 4000000 in
theorem alive7 (w : World) :
    Calls Try.prog 8 #[] w fun e w' => e = .returned (.bool true) ∧ Below w.heap.size w w' := by
  obtain ⟨KY, hKY⟩ : ∃ J, J = keyQ := ⟨_, rfl⟩
  obtain ⟨AD, hAD⟩ : ∃ l : List Nat, l = [97, 100] := ⟨_, rfl⟩
  obtain ⟨AB, hAB⟩ : ∃ l : List Nat, l = [97, 98, 99] := ⟨_, rfl⟩
  obtain ⟨X, hX⟩ : ∃ l, l = sealL KY 5 AD AB := ⟨_, rfl⟩
  have LKY : Kept (KY.length = 32) := ⟨by rw [hKY]; rfl⟩
  have YKY : Kept (Bytes KY) := ⟨by rw [hKY]; exact keyQ_bytes⟩
  have LAD : Kept (AD.length = 2) := ⟨by rw [hAD]; rfl⟩
  have LAB : Kept (AB.length = 3) := ⟨by rw [hAB]; rfl⟩
  have YAD : Kept (Bytes AD) := ⟨by rw [hAD]; exact bytes_of_all (by decide)⟩
  have YAB : Kept (Bytes AB) := ⟨by rw [hAB]; exact bytes_of_all (by decide)⟩
  have LX : Kept (X.length = 19) := ⟨by rw [hX, sealL_len, LAB.out]⟩
  have YX : Kept (Bytes X) := ⟨by rw [hX]; exact sealL_bytes _ _ _ YAB.out⟩
  have ES : Kept (strOf AB = { data := #[97, 98, 99] }) := ⟨by rw [hAB]; rfl⟩
  have HJ : Kept (∀ {o : Oper} {a : Act}, o.op = .build 22 #[(0, .const (.int .u8 1)), (1, .const (.int .u8 2)), (2, .const (.int .u8 3))] → ∀ w, (execOp a.eval o).run Try.prog w = .ok (.value (.agg (ints .u8 KY))) w) := ⟨fun {o a} ho w => by rw [hKY]; exact run_keyQ ho w⟩
  have NAD : Kept (∀ w : World, Const 5 .u8 AD (.slice (some ⟨w.heap.size, 0, none⟩) 2 2) (w.alloc (.cells #[.int .u8 97, .int .u8 100] 5))) := ⟨fun w => by
    have e : #[.int .u8 97, .int .u8 100] = ints .u8 AD := by rw [hAD]; rfl
    rw [e]; exact Const.new LAD.out⟩
  have NAB : Kept (∀ w : World, Const 5 .u8 AB (.slice (some ⟨w.heap.size, 0, none⟩) 3 3) (w.alloc (.cells #[.int .u8 97, .int .u8 98, .int .u8 99] 5))) := ⟨fun w => by
    have e : #[.int .u8 97, .int .u8 98, .int .u8 99] = ints .u8 AB := by rw [hAB]; rfl
    rw [e]; exact Const.new LAB.out⟩
  have CS : Kept (∀ (va vb : Value) (w' : World), BytesV va w' AD → BytesV vb w' AB → Calls Try.prog 9 #[.agg (ints .u8 KY), .int .u64 5, va, vb] w' fun e w2 => ∃ v, e = .returned (.tuple #[v, .int .i64 0]) ∧ BytesV v w2 X ∧ Below w'.heap.size w' w2) := ⟨fun va vb w' h1 h2 => by
    have h := SealD KY 5 AD AB va vb w' LKY.out YKY.out (by decide) h1 h2 YAD.out YAB.out
    rw [sealP_ok _ _ _ _ (by rw [LAD.out]; decide) (by rw [LAB.out]; decide), ← hX] at h
    exact h⟩
  have CO : Kept (∀ (va vb : Value) (w' : World), BytesV va w' AD → BytesV vb w' X → Calls Try.prog 11 #[.agg (ints .u8 KY), .int .u64 5, va, vb] w' fun e w2 => ∃ v, e = .returned (.tuple #[v, .int .i64 0]) ∧ BytesV v w2 AB ∧ Below w'.heap.size w' w2) := ⟨fun va vb w' h1 h2 => by
    have h := OpenD KY 5 AD X va vb w' LKY.out YKY.out (by decide) h1 h2 YAD.out YX.out
    rw [hX, openP_seal _ _ _ _ (by rw [LAD.out]; decide) (by rw [LAB.out]; decide)] at h
    exact h⟩
  have CN : Kept (∀ (w' : World), Calls Try.prog 11 #[.agg (ints .u8 KY), .int .u64 5, .slice none 0 0, .slice none 0 0] w' fun e w2 => ∃ v, e = .returned (.tuple #[v, .int .i64 4]) ∧ BytesV v w2 [] ∧ Below w'.heap.size w' w2) := ⟨fun w' => by
    have h := OpenD KY 5 [] [] (.slice none 0 0) (.slice none 0 0) w' LKY.out YKY.out (by decide) (nil_bytesV _) (nil_bytesV _) nil_bytes nil_bytes
    rw [openP_short _ _ _ _ (by decide) (by decide)] at h
    exact h⟩
  clear hKY hAD hAB hX
  go_enter Try.func8, Try.ntmps8
  go_wp2_with (first | ((with_reducible refine wv_val (d := 8) ?hd ?hw (.agg (ints .u8 KY)) ?hr ?_); (case hd => rfl); (case hw => kernel_rfl); (case hr => intro w; exact HJ.out rfl w); simp only [Act.put, List.setIfInBounds_toArray, List.set_cons_succ, List.set_cons_zero]) | (refine wl_store rfl 22 (.tmp 1) (.tmp 8) rfl w.heap.size (ints .u8 KY) rfl rfl _ (blk_new w _ _) (by rw [ints_size, LKY.out]; exact t32_info) (by rw [ints_size, LKY.out]; rfl) (ints_one _ _) ?_))
  intro w0 A0 P0
  have Q0 : Below w.heap.size w w0 := ((Below.refl _ _).alloc (Nat.le_refl _) _).trans (P0.below (Nat.le_refl _))
  clear P0 HJ
  go_wp2_with (first | ((with_reducible refine wv_row (d := 10) ?hd ?hw 22 (.tmp 1) ?ho (w.heap.size) ?hx (t' := 22) (ints .u8 KY) _ _ Try.underlying22 ?hs ?hg ?_); (case hd => rfl); (case hw => kernel_rfl); (case ho => rfl); (case hx => kernel_rfl); (case hs => rw [ints_size, LKY.out]; exact t32_info); (case hg => exact A0); simp only [Act.put, List.setIfInBounds_toArray, List.set_cons_succ, List.set_cons_zero]) | ((with_reducible refine wl_conv (d := 12) ?hd ?hw 24 5 (.tmp 11) ?ho _ ?hx Try.underlying24 Try.underlying5 AD (NAD.out w0) ?_); (case hd => rfl); (case hw => kernel_rfl); (case ho => rfl); (case hx => rfl)))
  intro w1 C1 G1
  have Q1 : Below w0.heap.size w0 w1 := ((Below.refl _ _).alloc (Nat.le_refl _) _).trans (grown_mono G1 (by simp) (fun b hb => by cases hb; exact Nat.le_refl _))
  have sz1 : w0.heap.size < w1.heap.size := by have := G1.size; simp at this; omega
  clear G1
  go_wp2_with (first | ((with_reducible refine wl_conv (d := 14) ?hd ?hw 24 5 (.tmp 13) ?ho _ ?hx Try.underlying24 Try.underlying5 AB (NAB.out w1) ?_); (case hd => rfl); (case hw => kernel_rfl); (case ho => rfl); (case hx => rfl)))
  intro w2 C2 G2
  have Q2 : Below w0.heap.size w0 w2 := (Q1.alloc Q1.size _).trans (grown_mono G2 (by simp; omega) (fun b hb => by cases hb; exact Nat.le_of_lt sz1))
  have C1' : Const 5 .u8 AD (.slice (some ⟨w0.heap.size, 0, none⟩) 2 2) w2 := (C1.alloc _).keeps G2 (.inr fun e => by simp [blkOf] at e; omega)
  have C := CS.out _ _ w2 C1'.ints C2.ints
  clear C1 C1' C2 G2 Q1 sz1
  go_wp2_with fail
  refine C.mono ?_
  rintro e w3 ⟨vx, rfl, hx, hb3⟩
  have Q3 := Q2.trans (hb3.mono Q2.size)
  have A3 := A0.under Q3
  have VX := hx
  obtain ⟨px, cx, rfl⟩ := slice_form hx LX.out
  have KX : Kept _ := ⟨VX⟩
  clear C Q2 hb3 hx VX
  go_wp2_with (first | ((with_reducible refine wv_row (d := 19) ?hd ?hw 22 (.tmp 1) ?ho (w.heap.size) ?hx (t' := 22) (ints .u8 KY) _ _ Try.underlying22 ?hs ?hg ?_); (case hd => rfl); (case hw => kernel_rfl); (case ho => rfl); (case hx => kernel_rfl); (case hs => rw [ints_size, LKY.out]; exact t32_info); (case hg => exact A3); simp only [Act.put, List.setIfInBounds_toArray, List.set_cons_succ, List.set_cons_zero]) | ((with_reducible refine wl_conv (d := 21) ?hd ?hw 24 5 (.tmp 20) ?ho _ ?hx Try.underlying24 Try.underlying5 AD (NAD.out w3) ?_); (case hd => rfl); (case hw => kernel_rfl); (case ho => rfl); (case hx => rfl)))
  intro w4 C4 G4
  have Q34 : Below w3.heap.size w3 w4 := ((Below.refl _ _).alloc (Nat.le_refl _) _).trans (grown_mono G4 (by simp) (fun b hb => by cases hb; exact Nat.le_refl _))
  have Q4 := Q3.trans (Q34.mono Q3.size)
  have C := CO.out _ _ w4 C4.ints (KX.out.under Q34)
  clear G4 C4 Q34 Q3 A3
  go_wp2_with fail
  refine C.mono ?_
  rintro e w5 ⟨vy, rfl, hy, hb5⟩
  have Q5 := Q4.trans (hb5.mono Q4.size)
  have A5 := A0.under Q5
  have VY := hy
  obtain ⟨py, cy, rfl⟩ := slice_form hy LAB.out
  have KVY : Kept _ := ⟨VY⟩
  clear C Q4 hb5 hy VY KX
  go_wp2_with (first | ((with_reducible refine wv_row (d := 27) ?hd ?hw 22 (.tmp 1) ?ho (w.heap.size) ?hx (t' := 22) (ints .u8 KY) _ _ Try.underlying22 ?hs ?hg ?_); (case hd => rfl); (case hw => kernel_rfl); (case ho => rfl); (case hx => kernel_rfl); (case hs => rw [ints_size, LKY.out]; exact t32_info); (case hg => exact A5); simp only [Act.put, List.setIfInBounds_toArray, List.set_cons_succ, List.set_cons_zero]))
  refine (CN.out w5).mono ?_
  rintro e w6 ⟨vz, rfl, hz, hb6⟩
  have Q6 := Q5.trans (hb6.mono Q5.size)
  have KVY6 : Kept _ := ⟨KVY.out.under hb6⟩
  have QQ := Q0.trans (Q6.mono Q0.size)
  clear Q5 hb6 hz KVY A5 A0
  go_wp2_with (first | ((with_reducible refine wv_str (d := 44) ?hd ?hw (.tmp 43) ?ho (.slice py 3 cy) ?hx (AB) ?hl ?_); (case hd => rfl); (case hw => kernel_rfl); (case ho => rfl); (case hx => kernel_rfl); (case hl => exact KVY6.out); simp only [Act.put, List.setIfInBounds_toArray, List.set_cons_succ, List.set_cons_zero]) | ((with_reducible refine wv_val (d := 45) ?hd ?hw (.bool true) ?hr ?_); (case hd => rfl); (case hw => kernel_rfl); (case hr => intro w; exact run_eql_strC rfl (by kernel_rfl) ES.out w); simp only [Act.put, List.setIfInBounds_toArray, List.set_cons_succ, List.set_cons_zero]))
  go_ret
  exact ⟨rfl, QQ⟩
end Go.Proofs.Ytpamcmhfimnfbaa.sh
