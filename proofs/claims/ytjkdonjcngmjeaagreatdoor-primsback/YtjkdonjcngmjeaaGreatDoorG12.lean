/-
  General pieces, joined: XB.
-/
import Derived.Test.YtjkdonjcngmjeaaGreatDoorG11
/-
  A word turned, and a quarter, by the program.
-/
namespace Go.Proofs.YtjkdonjcngmjeaaGreatDoor.sh
open Go Go.RowKit
set_option linter.unusedVariables false
set_option linter.unusedSimpArgs false

theorem run_conv3u {o : Oper} {a : Act} {x : Operand} {m : Nat} (ho : o.op = .convert 3 96 x) (hx : a.eval x = .int .i64 (m : Int)) (hm : m < 4611686018427387904) (w : World) : (execOp a.eval o).run Tryz.prog w = .ok (.value (.int .u64 (m : Int))) w := by
  unfold execOp
  simp only [ho, hx]
  simp [go_sem, IntKind.wrap_u64]
  omega
theorem run_and31 {o : Oper} {a : Act} {x : Operand} {m : Nat} (ho : o.op = .binOp .and 96 x (.const (.int .u64 31)) 96) (hx : a.eval x = .int .u64 (m : Int)) (hm : m < 32) (w : World) : (execOp a.eval o).run Tryz.prog w = .ok (.value (.int .u64 (m : Int))) w := by
  have e3 : a.eval (.const (.int .u64 31)) = .int .u64 31 := rfl
  have h := u64_and_nat m 31 (by omega) (by decide)
  rw [nat_mask5, Nat.mod_eq_of_lt hm] at h
  unfold execOp
  simp only [ho, hx, e3]
  simp [go_sem]
  exact h
theorem results_tmp4 {fn : Func} {t u v x : Tmp} (h : fn.results = #[.tmp t, .tmp u, .tmp v, .tmp x]) (tmps : Array Value) (P : Program) (w : World) :
    (results fn tmps).run P w = .ok (.tuple #[tmps.getD t undef, tmps.getD u undef, tmps.getD v undef, tmps.getD x undef]) w := by
  simp [results, h]

set_option maxHeartbeats 400000 in
theorem rotl_any (n m : Nat) (w : World) (hn : n < 4294967296) (h0 : 0 < m) (h1 : m < 32) :
    Calls Tryz.prog 138 #[.int .u32 (n : Int), .int .i64 (m : Int)] w fun e w' => e = .returned (.int .u32 (rotl n m : Nat)) ∧ w' = w := by
  go_enter Tryz.func138, Tryz.ntmps138
  go_wp2_with (first | ((with_reducible refine wv_val (d := 7) ?hd ?hw (.int .u64 (m : Int)) ?hr ?_); (case hd => rfl); (case hw => kernel_rfl); (case hr => intro w; exact run_conv3u rfl (by kernel_rfl) (by omega) w); simp only [Act.put, List.setIfInBounds_toArray, List.set_cons_succ, List.set_cons_zero]) | ((with_reducible refine wv_val (d := 8) ?hd ?hw (.int .u64 (m : Int)) ?hr ?_); (case hd => rfl); (case hw => kernel_rfl); (case hr => intro w; exact run_and31 rfl (by kernel_rfl) h1 w); simp only [Act.put, List.setIfInBounds_toArray, List.set_cons_succ, List.set_cons_zero]))
  go_ret
  refine ⟨ret_int ?_, rfl⟩
  have e1 : ((n : Int) * 2 ^ m % 4294967296) = ((n * 2 ^ m % 4294967296 : Nat) : Int) := by rw [Int.natCast_emod, Int.natCast_mul, Int.natCast_pow]; rfl
  have e2 : ((n : Int) / 2 ^ (32 - m)) = ((n / 2 ^ (32 - m) : Nat) : Int) := by rw [Int.natCast_ediv, Int.natCast_pow]; rfl
  rw [e1, e2, u32_or_nat _ _ (Nat.mod_lt _ (by decide)) (Nat.lt_of_le_of_lt (Nat.div_le_self _ _) hn)]
  rfl
theorem rotl_at (n m z : Nat) (w : World) (hn : n < 4294967296) (h0 : 0 < m) (h1 : m < 32) (hz : z = rotl n m) :
    Calls Tryz.prog 138 #[.int .u32 (n : Int), .int .i64 (m : Int)] w fun e w' => e = .returned (.int .u32 (z : Int)) ∧ w' = w := by rw [hz]; exact rotl_any n m w hn h0 h1

set_option maxRecDepth 100000 in
set_option maxHeartbeats 1000000 in
theorem quarter_any (a b c d : Nat) (w : World) (h : Four a b c d) :
    Calls Tryz.prog 121 #[.int .u32 (a : Int), .int .u32 (b : Int), .int .u32 (c : Int), .int .u32 (d : Int)] w fun e w' => e = .returned (.tuple #[.int .u32 (qa2 a b c d : Nat), .int .u32 (qb2 a b c d : Nat), .int .u32 (qc2 a b c d : Nat), .int .u32 (qd2 a b c d : Nat)]) ∧ w' = w := by
  have F0 : Kept _ := ⟨h⟩
  have F1 : Kept _ := ⟨four_q h⟩
  have F2 : Kept _ := ⟨four_q2 h⟩
  obtain ⟨a1, ha1⟩ : ∃ z, z = qa a b c d := ⟨_, rfl⟩
  obtain ⟨b1, hb1⟩ : ∃ z, z = qb a b c d := ⟨_, rfl⟩
  obtain ⟨c1, hc1⟩ : ∃ z, z = qc a b c d := ⟨_, rfl⟩
  obtain ⟨d1, hd1⟩ : ∃ z, z = qd a b c d := ⟨_, rfl⟩
  obtain ⟨a2, ha2⟩ : ∃ z, z = qa2 a b c d := ⟨_, rfl⟩
  obtain ⟨b2, hb2⟩ : ∃ z, z = qb2 a b c d := ⟨_, rfl⟩
  obtain ⟨c2, hc2⟩ : ∃ z, z = qc2 a b c d := ⟨_, rfl⟩
  obtain ⟨d2, hd2⟩ : ∃ z, z = qd2 a b c d := ⟨_, rfl⟩
  have Ea : Kept (a1 = (a + b) % 4294967296) := ⟨ha1⟩
  have Ed : Kept (d1 = rotl (d ^^^ a1) 16) := ⟨by rw [hd1, ha1]; rfl⟩
  have Ec : Kept (c1 = (c + d1) % 4294967296) := ⟨by rw [hc1, hd1]; rfl⟩
  have Eb : Kept (b1 = rotl (b ^^^ c1) 12) := ⟨by rw [hb1, hc1]; rfl⟩
  have Ea2 : Kept (a2 = (a1 + b1) % 4294967296) := ⟨by rw [ha2, ha1, hb1]; rfl⟩
  have Ed2 : Kept (d2 = rotl (d1 ^^^ a2) 8) := ⟨by rw [hd2, hd1, ha2]; rfl⟩
  have Ec2 : Kept (c2 = (c1 + d2) % 4294967296) := ⟨by rw [hc2, hc1, hd2]; rfl⟩
  have Eb2 : Kept (b2 = rotl (b1 ^^^ c2) 7) := ⟨by rw [hb2, hb1, hc2]; rfl⟩
  rw [← ha1, ← hb1, ← hc1, ← hd1] at F1
  rw [← ha2, ← hb2, ← hc2, ← hd2] at F2 ⊢
  obtain ⟨x1, hx1⟩ : ∃ z, z = d ^^^ a1 := ⟨_, rfl⟩
  obtain ⟨x2, hx2⟩ : ∃ z, z = b ^^^ c1 := ⟨_, rfl⟩
  obtain ⟨x3, hx3⟩ : ∃ z, z = d1 ^^^ a2 := ⟨_, rfl⟩
  obtain ⟨x4, hx4⟩ : ∃ z, z = b1 ^^^ c2 := ⟨_, rfl⟩
  have X1 : Kept _ := ⟨hx1⟩
  have X2 : Kept _ := ⟨hx2⟩
  have X3 : Kept _ := ⟨hx3⟩
  have X4 : Kept _ := ⟨hx4⟩
  rw [← hx1] at Ed
  rw [← hx2] at Eb
  rw [← hx3] at Ed2
  rw [← hx4] at Eb2
  have L1 : Kept (x1 < 4294967296) := ⟨by rw [hx1]; exact xor_lt32 F0.out.d F1.out.a⟩
  have L2 : Kept (x2 < 4294967296) := ⟨by rw [hx2]; exact xor_lt32 F0.out.b F1.out.c⟩
  have L3 : Kept (x3 < 4294967296) := ⟨by rw [hx3]; exact xor_lt32 F1.out.d F2.out.a⟩
  have L4 : Kept (x4 < 4294967296) := ⟨by rw [hx4]; exact xor_lt32 F1.out.b F2.out.c⟩
  clear h ha1 hb1 hc1 hd1 ha2 hb2 hc2 hd2 hx1 hx2 hx3 hx4
  go_enter Tryz.func121, Tryz.ntmps121
  go_wp2_with (first | ((with_reducible refine wv_val (d := 14) ?hd ?hw (.int .u32 (a1 : Int)) ?hr ?_); (case hd => rfl); (case hw => kernel_rfl); (case hr => intro w; exact run_add32 rfl (by kernel_rfl) (by kernel_rfl) Ea.out w); simp only [Act.put, List.setIfInBounds_toArray, List.set_cons_succ, List.set_cons_zero]) | ((with_reducible refine wv_val (d := 17) ?hd ?hw (.int .u32 (x1 : Int)) ?hr ?_); (case hd => rfl); (case hw => kernel_rfl); (case hr => intro w; exact run_xor32 rfl (by kernel_rfl) (by kernel_rfl) F0.out.d F1.out.a X1.out w); simp only [Act.put, List.setIfInBounds_toArray, List.set_cons_succ, List.set_cons_zero]))
  refine (rotl_at x1 16 d1 w L1.out (by decide) (by decide) Ed.out).mono ?_
  rintro e w1 ⟨rfl, rfl⟩
  go_wp2_with (first | ((with_reducible refine wv_val (d := 21) ?hd ?hw (.int .u32 (c1 : Int)) ?hr ?_); (case hd => rfl); (case hw => kernel_rfl); (case hr => intro w; exact run_add32 rfl (by kernel_rfl) (by kernel_rfl) Ec.out w); simp only [Act.put, List.setIfInBounds_toArray, List.set_cons_succ, List.set_cons_zero]) | ((with_reducible refine wv_val (d := 24) ?hd ?hw (.int .u32 (x2 : Int)) ?hr ?_); (case hd => rfl); (case hw => kernel_rfl); (case hr => intro w; exact run_xor32 rfl (by kernel_rfl) (by kernel_rfl) F0.out.b F1.out.c X2.out w); simp only [Act.put, List.setIfInBounds_toArray, List.set_cons_succ, List.set_cons_zero]))
  refine (rotl_at x2 12 b1 w1 L2.out (by decide) (by decide) Eb.out).mono ?_
  rintro e w2 ⟨rfl, rfl⟩
  go_wp2_with (first | ((with_reducible refine wv_val (d := 28) ?hd ?hw (.int .u32 (a2 : Int)) ?hr ?_); (case hd => rfl); (case hw => kernel_rfl); (case hr => intro w; exact run_add32 rfl (by kernel_rfl) (by kernel_rfl) Ea2.out w); simp only [Act.put, List.setIfInBounds_toArray, List.set_cons_succ, List.set_cons_zero]) | ((with_reducible refine wv_val (d := 31) ?hd ?hw (.int .u32 (x3 : Int)) ?hr ?_); (case hd => rfl); (case hw => kernel_rfl); (case hr => intro w; exact run_xor32 rfl (by kernel_rfl) (by kernel_rfl) F1.out.d F2.out.a X3.out w); simp only [Act.put, List.setIfInBounds_toArray, List.set_cons_succ, List.set_cons_zero]))
  refine (rotl_at x3 8 d2 w2 L3.out (by decide) (by decide) Ed2.out).mono ?_
  rintro e w3 ⟨rfl, rfl⟩
  go_wp2_with (first | ((with_reducible refine wv_val (d := 35) ?hd ?hw (.int .u32 (c2 : Int)) ?hr ?_); (case hd => rfl); (case hw => kernel_rfl); (case hr => intro w; exact run_add32 rfl (by kernel_rfl) (by kernel_rfl) Ec2.out w); simp only [Act.put, List.setIfInBounds_toArray, List.set_cons_succ, List.set_cons_zero]) | ((with_reducible refine wv_val (d := 38) ?hd ?hw (.int .u32 (x4 : Int)) ?hr ?_); (case hd => rfl); (case hw => kernel_rfl); (case hr => intro w; exact run_xor32 rfl (by kernel_rfl) (by kernel_rfl) F1.out.b F2.out.c X4.out w); simp only [Act.put, List.setIfInBounds_toArray, List.set_cons_succ, List.set_cons_zero]))
  refine (rotl_at x4 7 b2 w3 L4.out (by decide) (by decide) Eb2.out).mono ?_
  rintro e w4 ⟨rfl, rfl⟩
  go_wp2_with fail
  (try simp only [Exit.inBlock, Exit.then])
  exact bodyPost_ret (results_tmp4 Tryz.results121 _ _ _) rfl ⟨rfl, rfl⟩
end Go.Proofs.YtjkdonjcngmjeaaGreatDoor.sh
