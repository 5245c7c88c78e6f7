/-
  General pieces, joined: XD XE XF XG XH XI XJ XK XL XU XM XN XQ W1 RM R1 R2 YA YB SHL SHN YC YD YE YF YG YH YI YJ YK YO YP YR XR XS.
-/
import Derived.Test.YtjkdonjcngmjeaaGreatDoorG11
import Derived.Lib.BufferWrite
import Derived.Test.YtjkdonjcngmjeaaGreatDoorG12
import Derived.Test.YtjkdonjcngmjeaaGreatDoorG08
import Derived.Test.YtjkdonjcngmjeaaGreatDoorG09
import Derived.Test.YtjkdonjcngmjeaaGreatDoorG10
import Derived.Deep.Strs
import Derived.Test.YtjkdonjcngmjeaaGreatDoorRows
import Derived.Test.YtjkdonjcngmjeaaGreatDoorG01
import Derived.WalkKit
import Derived.WalkSpells
import Derived.WalkLawsBesides
import Derived.Laws.MathBits
import Derived.RegionTactic
import Derived.BigRegion
import Derived.Deep.QuietTactic
import Derived.BigQuiet
import Derived.Lib.AppendStr
/-
  The words' sums, and their bytes, by the program.
-/
namespace Go.Proofs.YtjkdonjcngmjeaaGreatDoor.sh
open Go Go.RowKit
set_option linter.unusedVariables false
set_option linter.unusedSimpArgs false

end Go.Proofs.YtjkdonjcngmjeaaGreatDoor.sh
/-
  Words of bytes, by the program.
-/
namespace Go.Proofs.YtjkdonjcngmjeaaGreatDoor.sh
open Go Go.RowKit
set_option linter.unusedVariables false
set_option linter.unusedSimpArgs false

end Go.Proofs.YtjkdonjcngmjeaaGreatDoor.sh
/-
  The words of a block at first, by the program.
-/
namespace Go.Proofs.YtjkdonjcngmjeaaGreatDoor.sh
open Go Go.RowKit
set_option linter.unusedVariables false
set_option linter.unusedSimpArgs false

end Go.Proofs.YtjkdonjcngmjeaaGreatDoor.sh
/-
  A block, by the program.
-/
namespace Go.Proofs.YtjkdonjcngmjeaaGreatDoor.sh
open Go Go.RowKit
set_option linter.unusedVariables false
set_option linter.unusedSimpArgs false

end Go.Proofs.YtjkdonjcngmjeaaGreatDoor.sh
/-
  Bytes turned by one block, by the program.
-/
namespace Go.Proofs.YtjkdonjcngmjeaaGreatDoor.sh
open Go Go.RowKit
set_option linter.unusedVariables false
set_option linter.unusedSimpArgs false

end Go.Proofs.YtjkdonjcngmjeaaGreatDoor.sh
/-
  Bytes turned by blocks, by the program.
-/
namespace Go.Proofs.YtjkdonjcngmjeaaGreatDoor.sh
open Go Go.RowKit
set_option linter.unusedVariables false
set_option linter.unusedSimpArgs false

theorem run_add64 {o : Oper} {a : Act} {x y : Operand} {m n z : Nat} (ho : o.op = .binOp .add 22 x y 22) (hx : a.eval x = .int .u64 (m : Int)) (hy : a.eval y = .int .u64 (n : Int)) (hz : z = m + n) (h62 : z < 4611686018427387904) (w : World) : (execOp a.eval o).run Tryz.prog w = .ok (.value (.int .u64 (z : Int))) w := by
  unfold execOp
  simp only [ho, hx, hy]
  simp [go_sem, IntKind.wrap_u64]
  omega
theorem run_subZ {o : Oper} {a : Act} {x : Operand} {i z : Nat} (c : Nat) (ho : o.op = .binOp .sub 3 x (.const (.int .i64 (c : Int))) 3) (hx : a.eval x = .int .i64 (i : Int)) (hz : i = z + c) (hi : i < 4611686018427387904) (w : World) : (execOp a.eval o).run Tryz.prog w = .ok (.value (.int .i64 (z : Int))) w := by
  have h := run_subI c ho hx (by omega) hi w
  rw [show i - c = z by omega] at h
  exact h
end Go.Proofs.YtjkdonjcngmjeaaGreatDoor.sh
/-
  Bytes turned by blocks, by the program: where nothing is refused.
-/
namespace Go.Proofs.YtjkdonjcngmjeaaGreatDoor.sh
open Go Go.RowKit
set_option linter.unusedVariables false
set_option linter.unusedSimpArgs false

section
variable {o : Oper} {a : Act} {x y z : Operand}
end
end Go.Proofs.YtjkdonjcngmjeaaGreatDoor.sh
/-
  The answers that the document fixes.
-/
namespace Go.Proofs.YtjkdonjcngmjeaaGreatDoor.sh
open Go Go.RowKit
set_option linter.unusedVariables false
set_option linter.unusedSimpArgs false

theorem run_c38 {o : Oper} {a : Act} {x : Operand} {z : Nat} (ho : o.op = .convert 3 5 x) (hx : a.eval x = .int .i64 (z : Int)) (hz : z < 256) (w : World) : (execOp a.eval o).run Tryz.prog w = .ok (.value (.int .u8 (z : Int))) w := run_conv38 ho hx (by omega) w
end Go.Proofs.YtjkdonjcngmjeaaGreatDoor.sh
/-
  An argument that is a key, a nonce and a count.
-/
namespace Go.Proofs.YtjkdonjcngmjeaaGreatDoor.sh
open Go Go.ChangeShapes Go.WideShapes Go.ChangeAt Go.RowKit
set_option linter.unusedVariables false
set_option linter.unusedSimpArgs false

section
variable {ops : Array Oper} {rest : List Oper} {o : Oper} {a : Act} {w : World} {Q : Exit → Act → World → Prop} {d : Nat}
/-- An array in the midst of a block is read. -/
theorem wv_partA (hd : o.dst = some d) (hw : Region.wanted o (yielded ops a.tmps) = true) (t : TypeId) (x : Operand) (ho : o.op = .load t x) (g off : Nat) (hx : a.eval x = .pointer (some ⟨g, off, none⟩)) {t' : TypeId} (cs es : Array Value) (len : Nat) (e : TypeId) (hu : Tryz.prog.underlying t = some (.array len e)) (hs : (Tryz.prog.info? t).map (·.size) = some es.size)
    (hg : Blk w g t' cs) (hp : ∀ j v, es[j]? = some v → cs[off + j]? = some v) (h : wpList Tryz.prog ops Q rest (a.put o.dst (.agg es)) w) : wpList Tryz.prog ops Q (o :: rest) a w :=
  BigFrame.wpList_want hw fun K hK => by
    unfold Oper.wp execOp
    simp only [ho, hx, Instr.loadAt, Instr.sureAddr, Sem.run_bind, Sem.run_pure, Result.andThen_ok, run_loadVar_at w g off t' t cs es (0, 0) _ hg hp hu rfl hs]
    exact hK _ _ h
end
section
variable {P : Program} {h : List Oper} {A0 A : Act} {W0 : World} {S : Nat → Option (Value → World → Prop)} {sp O : List Nat} {E : List (Nat × Nat)} {i : Nat} {o : Oper}
end
end Go.Proofs.YtjkdonjcngmjeaaGreatDoor.sh
/-
  Regions that draw their order, where no operation takes a block over: what a slot holds may be a pair whose slice is new.
-/
namespace Go.Proofs.YtjkdonjcngmjeaaGreatDoor.sh
open Go Go.RowKit
set_option linter.unusedVariables false
set_option linter.unusedSimpArgs false

theorem grown_empty {w w' : World} {row : Option Nat} (h : w.grownBy w' row) (hr : ∀ b, row = some b → False) : Below w.heap.size w w' := ⟨h.os, h.tape, h.output, h.size, fun k hk => h.block k hk (fun e => hr k e.symm)⟩
section
variable {P : Program} {h : List Oper} {A0 A : Act} {W0 : World} {S : Nat → Option (Value → World → Prop)} {sp O : List Nat} {E : List (Nat × Nat)} {i : Nat} {o : Oper}
end
/-- A pair of bytes and a number. -/
def PairV (r : Int) (U : List Nat) : Value → World → Prop := fun v w => ∃ u, v = .tuple #[u, .int .i64 r] ∧ BytesV u w U
theorem PairV.under {r : Int} {U : List Nat} {v : Value} {w w' : World} (h : PairV r U v w) (hb : Below w.heap.size w w') : PairV r U v w' := by
  obtain ⟨u, h1, h2⟩ := h
  exact ⟨u, h1, h2.under hb⟩
end Go.Proofs.YtjkdonjcngmjeaaGreatDoor.sh
/-
  StreamEnd: behind the last count there is no block more; more bytes than may be are refused.
-/
namespace Go.Proofs.YtjkdonjcngmjeaaGreatDoor.sh
open Go Go.RowKit
set_option linter.unusedVariables false
set_option linter.unusedSimpArgs false

theorem run_leqI {o : Oper} {a : Act} {x y : Operand} {m n : Nat} {b : Bool} (ho : o.op = .binOp .leq 3 x y 3) (hx : a.eval x = .int .i64 (m : Int)) (hy : a.eval y = .int .i64 (n : Int)) (hb : b = decide (m ≤ n)) (w : World) : (execOp a.eval o).run Tryz.prog w = .ok (.value (.bool b)) w := by
  unfold execOp
  simp only [ho, hx, hy]
  simp [go_sem, hb]
end Go.Proofs.YtjkdonjcngmjeaaGreatDoor.sh
/-
  StreamBlocks: bytes are turned by blocks that are told one by one.
-/
namespace Go.Proofs.YtjkdonjcngmjeaaGreatDoor.sh
open Go Go.RowKit
set_option linter.unusedVariables false
set_option linter.unusedSimpArgs false

end Go.Proofs.YtjkdonjcngmjeaaGreatDoor.sh
/-
  The reference: a word turned, a word of bytes, a quarter.
-/
namespace Go.Proofs.YtjkdonjcngmjeaaGreatDoor.sh
open Go Go.RowKit
set_option linter.unusedVariables false
set_option linter.unusedSimpArgs false

end Go.Proofs.YtjkdonjcngmjeaaGreatDoor.sh
/-
  What the small functions of package limb do: products of words, sums of four words, eight bytes as a word.
-/
namespace Go.Proofs.YtjkdonjcngmjeaaGreatDoor
open Go.RowKit

theorem call_add64 (x y c : Nat) (hc : c ≤ 1) : ∃ lo hi : Nat, (∀ w, (callFunc 123 #[.int .u64 (x : Int), .int .u64 (y : Int), .int .u64 (c : Int)]).run Tryz.prog w = .ok (.value (.tuple #[.int .u64 (lo : Int), .int .u64 (hi : Int)])) w) ∧
    Hid (lo < 18446744073709551616 ∧ lo + 18446744073709551616 * hi = x + y + c) := by
  refine ⟨(x + y + c) % 18446744073709551616, (x + y + c) / 18446744073709551616, fun w => ?_, ?_⟩
  · rw [run_callFunc_extern Tryz.func123 (by kernel_rfl) (by kernel_rfl) (by kernel_rfl) (e := add64Entry) (by kernel_rfl), run_add64 x y c (by omega) (by omega) (by omega) (by omega)]
    simp only [Result.andThen]
    congr 5 <;> omega
  · show _ ∧ _
    omega

theorem call_add64_0 (x y : Nat) : ∃ lo hi : Nat, (∀ w, (callFunc 123 #[.int .u64 (x : Int), .int .u64 (y : Int), .int .u64 0]).run Tryz.prog w = .ok (.value (.tuple #[.int .u64 (lo : Int), .int .u64 (hi : Int)])) w) ∧
    Hid (lo < 18446744073709551616 ∧ lo + 18446744073709551616 * hi = x + y) := by
  obtain ⟨lo, hi, h, H⟩ := call_add64 x y 0 (by omega)
  exact ⟨lo, hi, h, H⟩

def sub64Entry : Array Value → Sem Value := fun args => do
  let (x, y, b) ← Extern.MathBitsCarry.three "Sub64" args
  pure (Extern.MathBitsCarry.pair ((x + Extern.MathBitsCarry.m64 - y - b) % Extern.MathBitsCarry.m64) (if x < y + b then 1 else 0))

theorem call_sub64 (x y b : Nat) (hb : b ≤ 1) (hx : x < 18446744073709551616) (hy : y < 18446744073709551616) : ∃ lo hi : Nat, (∀ w, (callFunc 136 #[.int .u64 (x : Int), .int .u64 (y : Int), .int .u64 (b : Int)]).run Tryz.prog w = .ok (.value (.tuple #[.int .u64 (lo : Int), .int .u64 (hi : Int)])) w) ∧
    Hid (lo < 18446744073709551616 ∧ hi ≤ 1 ∧ x + 18446744073709551616 * hi = lo + y + b) := by
  refine ⟨(x + 18446744073709551616 - y - b) % 18446744073709551616, if x < y + b then 1 else 0, fun w => ?_, ?_⟩
  · rw [run_callFunc_extern Tryz.func136 (by kernel_rfl) (by kernel_rfl) (by kernel_rfl) (e := sub64Entry) (by kernel_rfl)]
    have : b = 0 ∨ b = 1 := by omega
    rcases this with rfl | rfl <;> rfl
  · show _ ∧ _ ∧ _
    split <;> omega

theorem call_sub64_0 (x y : Nat) (hx : x < 18446744073709551616) (hy : y < 18446744073709551616) : ∃ lo hi : Nat, (∀ w, (callFunc 136 #[.int .u64 (x : Int), .int .u64 (y : Int), .int .u64 0]).run Tryz.prog w = .ok (.value (.tuple #[.int .u64 (lo : Int), .int .u64 (hi : Int)])) w) ∧
    Hid (lo < 18446744073709551616 ∧ hi ≤ 1 ∧ x + 18446744073709551616 * hi = lo + y) := by
  obtain ⟨lo, hi, h, H⟩ := call_sub64 x y 0 (by omega) hx hy
  exact ⟨lo, hi, h, H⟩

set_option maxHeartbeats 400000 in
theorem mul64_walk (x y : Int) (w : World) (hx0 : 0 ≤ x) (hx : x < 18446744073709551616) (hy0 : 0 ≤ y) (hy : y < 18446744073709551616) :
    Calls Tryz.prog 137 #[.int .u64 x, .int .u64 y] w fun e w' => e = .returned (.tuple #[.int .u64 (x * y / 18446744073709551616), .int .u64 (x * y % 18446744073709551616)]) ∧ w' = w := by
  go_enter Tryz.func137, Tryz.ntmps137
  go_wp2
  go_ret2
  refine ⟨ret_two ?_ ?_, rfl⟩
  · have hm := mul64_arith x y hx0 hx hy0 hy
    simp only [IntKind.wrap_u64]
    rw [and_low32 x hx0 hx, and_low32 y hy0 hy, and_low32 _ (by omega) (by omega)]
    exact hm
  · rw [IntKind.wrap_u64]

theorem mul64_any (x y : Nat) (w : World) (hx : x < 18446744073709551616) (hy : y < 18446744073709551616) :
    Calls Tryz.prog 137 #[.int .u64 (x : Int), .int .u64 (y : Int)] w fun e w' => ∃ hi lo : Nat, e = .returned (.tuple #[.int .u64 (hi : Int), .int .u64 (lo : Int)]) ∧ w' = w ∧
      Hid (lo < 18446744073709551616 ∧ hi ≤ 18446744073709551614 ∧ lo + 18446744073709551616 * hi = x * y) := by
  refine (mul64_walk x y w (by omega) (by omega) (by omega) (by omega)).mono ?_
  rintro e w' ⟨rfl, rfl⟩
  refine ⟨x * y / 18446744073709551616, x * y % 18446744073709551616, ?_, rfl, ?_⟩
  · simp
  · have : x * y ≤ 18446744073709551615 * 18446744073709551615 := Nat.mul_le_mul (by omega) (by omega)
    show _ ∧ _ ∧ _
    omega

set_option maxHeartbeats 400000 in
theorem step_any (x y u m : Nat) (w : World) (hx : x < 18446744073709551616) (hy : y < 18446744073709551616) (hu : u < 18446744073709551616) (hm : m < 18446744073709551616) :
    Calls Tryz.prog 115 #[.int .u64 (x : Int), .int .u64 (y : Int), .int .u64 (u : Int), .int .u64 (m : Int)] w fun e w' => ∃ lo hi : Nat, e = .returned (.tuple #[.int .u64 (lo : Int), .int .u64 (hi : Int)]) ∧ w' = w ∧
      Hid (lo < 18446744073709551616 ∧ hi < 18446744073709551616 ∧ lo + 18446744073709551616 * hi = x + y * u + m) := by
  have hP : Hid (y * u ≤ 18446744073709551615 * 18446744073709551615) := Nat.mul_le_mul (by omega) (by omega)
  have HB : Hid (x < 18446744073709551616 ∧ m < 18446744073709551616) := ⟨hx, hm⟩
  go_enter Tryz.func115, Tryz.ntmps115
  go_wp2_with fail
  refine (mul64_any _ _ _ hy hu).mono ?_
  rintro e w' ⟨hi, lo, rfl, rfl, H⟩
  clear hx hy hu hm
  obtain ⟨z0, c0, h0, H0⟩ := call_add64_0 lo m
  obtain ⟨z1, c1, h1, H1⟩ := call_add64_0 z0 x
  go_wp2
  go_ret2
  have b1 := H.out; have b2 := H0.out; have b3 := H1.out; have b4 := HB.out; have b5 := hP.out
  generalize y * u = P at *
  refine ⟨z1, hi + c0 + c1, ret_two rfl ?_, rfl, ?_⟩
  · simp only [IntKind.wrap_u64]; omega
  · show _ ∧ _ ∧ _
    omega

set_option maxHeartbeats 1000000 in
theorem add_any (x0 x1 x2 x3 y0 y1 y2 y3 : Nat) (w : World) (hx : x0 < 18446744073709551616 ∧ x1 < 18446744073709551616 ∧ x2 < 18446744073709551616 ∧ x3 < 18446744073709551616) (hy : y0 < 18446744073709551616 ∧ y1 < 18446744073709551616 ∧ y2 < 18446744073709551616 ∧ y3 < 18446744073709551616) :
    Calls Tryz.prog 118 #[.agg #[.int .u64 (x0 : Int), .int .u64 (x1 : Int), .int .u64 (x2 : Int), .int .u64 (x3 : Int)], .agg #[.int .u64 (y0 : Int), .int .u64 (y1 : Int), .int .u64 (y2 : Int), .int .u64 (y3 : Int)]] w
      fun e w' => ∃ z0 z1 z2 z3 c : Nat, e = .returned (.tuple #[.agg #[.int .u64 (z0 : Int), .int .u64 (z1 : Int), .int .u64 (z2 : Int), .int .u64 (z3 : Int)], .int .u64 (c : Int)]) ∧
        Below w.heap.size w w' ∧ Hid (z0 < 18446744073709551616 ∧ z1 < 18446744073709551616 ∧ z2 < 18446744073709551616 ∧ z3 < 18446744073709551616 ∧ v4 z0 z1 z2 z3 + 115792089237316195423570985008687907853269984665640564039457584007913129639936 * c = v4 x0 x1 x2 x3 + v4 y0 y1 y2 y3) := by
  obtain ⟨z0, c0, h0, H0⟩ := call_add64_0 x0 y0
  obtain ⟨z1, c1, h1, H1⟩ := call_add64 x1 y1 c0 (by have := H0.out; omega)
  obtain ⟨z2, c2, h2, H2⟩ := call_add64 x2 y2 c1 (by have := H1.out; have := H0.out; omega)
  obtain ⟨z3, c3, h3, H3⟩ := call_add64 x3 y3 c2 (by have := H2.out; have := H1.out; have := H0.out; omega)
  have HF : Hid (z0 < 18446744073709551616 ∧ z1 < 18446744073709551616 ∧ z2 < 18446744073709551616 ∧ z3 < 18446744073709551616 ∧ v4 z0 z1 z2 z3 + 115792089237316195423570985008687907853269984665640564039457584007913129639936 * c3 = v4 x0 x1 x2 x3 + v4 y0 y1 y2 y3) := by
    have := H0.out; have := H1.out; have := H2.out; have := H3.out
    show _ ∧ _
    unfold v4
    omega
  clear H0 H1 H2 H3 hx hy
  go_enter Tryz.func118, Tryz.ntmps118
  go_wp2
  refine wp_loop_rounds 5 ?_
  rw [rounds_succ]
  go_wp2
  go_region
  go_wp2
  rw [rounds_succ]
  go_wp2
  go_region
  go_wp2
  rw [rounds_succ]
  go_wp2
  go_region
  go_wp2
  rw [rounds_succ]
  go_wp2
  go_region
  go_wp2
  rw [rounds_succ]
  go_wp2
  refine bodyPost_ret (v := .tuple #[.agg #[.int .u64 (z0 : Int), .int .u64 (z1 : Int), .int .u64 (z2 : Int), .int .u64 (z3 : Int)], .int .u64 (c3 : Int)]) (by simp [results, Tryz.results118, go_sem]) rfl ⟨z0, z1, z2, z3, c3, rfl, ?_, HF⟩
  repeat (first | exact Below.refl _ _ | refine Below.drew ?_ | refine Below.alloc ?_ (by simp <;> omega) _ | refine Below.setCell ?_ (by simp <;> omega) _)

set_option maxHeartbeats 1000000 in
theorem word_walk (g off cap : Nat) (b0 b1 b2 b3 b4 b5 b6 b7 : Nat) (w : World)
   (c0 : w.cell? ⟨g, off, none⟩ = some (.int .u8 (b0 : Int))) (c1 : w.cell? ⟨g, off + 1, none⟩ = some (.int .u8 (b1 : Int))) (c2 : w.cell? ⟨g, off + 2, none⟩ = some (.int .u8 (b2 : Int))) (c3 : w.cell? ⟨g, off + 3, none⟩ = some (.int .u8 (b3 : Int)))
   (c4 : w.cell? ⟨g, off + 4, none⟩ = some (.int .u8 (b4 : Int))) (c5 : w.cell? ⟨g, off + 5, none⟩ = some (.int .u8 (b5 : Int))) (c6 : w.cell? ⟨g, off + 6, none⟩ = some (.int .u8 (b6 : Int))) (c7 : w.cell? ⟨g, off + 7, none⟩ = some (.int .u8 (b7 : Int)))
   (hb : Hid (b0 < 256 ∧ b1 < 256 ∧ b2 < 256 ∧ b3 < 256 ∧ b4 < 256 ∧ b5 < 256 ∧ b6 < 256 ∧ b7 < 256)) :
    Calls Tryz.prog 117 #[.slice (some ⟨g, off, none⟩) 8 cap] w
      fun e w' => e = .returned (.int .u64 ((b0 + b1 * 256 + b2 * 65536 + b3 * 16777216 + b4 * 4294967296 + b5 * 1099511627776 + b6 * 281474976710656 + b7 * 72057594037927936 : Nat) : Int)) ∧ Below w.heap.size w w' := by
  go_enter Tryz.func117, Tryz.ntmps117
  go_wp2
  go_quiet (fail)
  go_wp2
  go_ret
  obtain ⟨h0, h1, h2, h3, h4, h5, h6, h7⟩ := hb.out
  refine ⟨ret_int (word_bits b0 b1 b2 b3 b4 b5 b6 b7 h0 h1 h2 h3 h4 h5 h6 h7), ?_⟩
  exact ⟨rfl, rfl, rfl, Nat.le_refl _, fun _ _ => rfl⟩

theorem word_any (g off cap n : Nat) (w : World) (hc : ∀ i, i < 8 → w.cell? ⟨g, off + i, none⟩ = some (.int .u8 ((n / 256 ^ (off + i) % 256 : Nat) : Int))) :
    Calls Tryz.prog 117 #[.slice (some ⟨g, off, none⟩) 8 cap] w
      fun e w' => e = .returned (.int .u64 ((n / 256 ^ off % 18446744073709551616 : Nat) : Int)) ∧ Below w.heap.size w w' := by
  have hp : ∀ i, n / 256 ^ (off + i) = n / 256 ^ off / 256 ^ i := div_pow_add n off
  refine (word_walk g off cap _ _ _ _ _ _ _ _ w (hc 0 (by omega)) (hc 1 (by omega)) (hc 2 (by omega)) (hc 3 (by omega)) (hc 4 (by omega)) (hc 5 (by omega)) (hc 6 (by omega)) (hc 7 (by omega)) ?_).mono ?_
  · show _ ∧ _
    omega
  · rintro e w' ⟨rfl, hb⟩
    refine ⟨ret_int ?_, hb⟩
    rw [hp 0, hp 1, hp 2, hp 3, hp 4, hp 5, hp 6, hp 7, ← word_of (n / 256 ^ off)]
    simp only [Nat.reducePow, Nat.div_one]
end Go.Proofs.YtjkdonjcngmjeaaGreatDoor
/-
  Plain arithmetic of digits of base 256: values of rows, carries, folding, borrowing. Nothing of the program is named here.
-/
namespace Go.Proofs.YtjkdonjcngmjeaaGreatDoor

/-- A fact set aside, that no unifier looks into. -/
structure Kept (p : Prop) : Prop where
  out : p

/-- The number of a row of digits, the lowest first. -/
def val : List Nat → Nat
  | [] => 0
  | d :: r => d + 256 * val r

end Go.Proofs.YtjkdonjcngmjeaaGreatDoor
/-
  What the small functions of the reference package of layer 1 do: the digits of a number, the digits of p.
-/
namespace Go.Proofs.YtjkdonjcngmjeaaGreatDoor
open Go.RowKit
set_option linter.unusedSimpArgs false
set_option linter.unusedVariables false

/-- The first k digits of a number. -/
def digs (n k : Nat) : List Nat := (List.range k).map fun i => n / 256 ^ i % 256
theorem digs_len (n k : Nat) : (digs n k).length = k := by simp [digs]

theorem cell_row {w : World} {g : Nat} {A : Array Value} {t : TypeId} {fr : Nat × Nat} {j : Nat} {v : Value} (hg : w.heap[g]? = some (.cells A t fr)) (hv : A[j]? = some v) : w.cell? ⟨g, j, none⟩ = some v := by
  simp [World.cell?, hg, hv]

theorem heap_new (w : World) (o : Obj) : (w.alloc o).heap[w.heap.size]? = some o := by
  show (w.heap.push o)[w.heap.size]? = some o
  simp

/-- A block holds a row of ints at its head. -/
def Holds (w : World) (g : Nat) (l : List Nat) : Prop := g < w.heap.size ∧ ∀ j, j < l.length → w.cell? ⟨g, j, none⟩ = some (.int .i64 ((l.getD j 0 : Nat) : Int))
theorem Holds.below {w w' : World} {g B : Nat} {l : List Nat} (h : Holds w g l) (hb : Below B w w') (hB : g < B) : Holds w' g l :=
  ⟨Nat.lt_of_lt_of_le h.1 hb.size, fun j hj => (hb.cell (p := ⟨g, j, none⟩) hB).trans (h.2 j hj)⟩
theorem Holds.under {w w' : World} {g : Nat} {l : List Nat} (h : Holds w g l) (hb : Below w.heap.size w w') : Holds w' g l := h.below hb h.1
end Go.Proofs.YtjkdonjcngmjeaaGreatDoor
/-
  What the reference package's carry and high do: the same number in digits below 256; has it a digit above the 32nd.
-/
namespace Go.Proofs.YtjkdonjcngmjeaaGreatDoor
open Go.RowKit
set_option linter.unusedSimpArgs false
set_option linter.unusedVariables false

end Go.Proofs.YtjkdonjcngmjeaaGreatDoor
/-
  Poly1305 as plain numbers: words of a number, a product modulo 2^130 - 5, the tag of bytes.
-/
namespace Go.Proofs.YtjkdonjcngmjeaaGreatDoor.sh
open Go Go.RowKit
set_option linter.unusedVariables false
set_option linter.unusedSimpArgs false

/-- The word i of a number. -/
def wd (N i : Nat) : Nat := N / 18446744073709551616 ^ i % 18446744073709551616
/-- What is over behind i words of X + Y w. -/
def cy (X Y w i : Nat) : Nat := (X % 18446744073709551616 ^ i + Y % 18446744073709551616 ^ i * w) / 18446744073709551616 ^ i
theorem Bytes.all {l : List Nat} (h : Bytes l) : ∀ x ∈ l, x < 256 := fun x hx => by
  obtain ⟨i, hi⟩ := List.mem_iff_getElem?.1 hx
  exact h i x hi
theorem bytes_of_all {l : List Nat} (h : ∀ x ∈ l, x < 256) : Bytes l := fun i x hx => h x (List.mem_of_getElem? hx)

theorem val_lt : ∀ (a : List Nat), (∀ x ∈ a, x < 256) → val a < 256 ^ a.length
  | [], _ => by simp [val]
  | x :: a, h => by
    have h1 := val_lt a (fun z hz => h z (by simp [hz]))
    have h2 := h x (by simp)
    simp only [val, List.length_cons, Nat.pow_succ]
    omega
theorem digs_get (N n i : Nat) (h : i < n) : (digs N n)[i]? = some (N / 256 ^ i % 256) := by simp [digs, h]
theorem digs_bytes (N n : Nat) : Bytes (digs N n) := bytes_of_all fun x hx => by
  simp only [digs, List.mem_map] at hx
  obtain ⟨i, _, rfl⟩ := hx
  exact Nat.mod_lt _ (by decide)
theorem val_digit : ∀ (a : List Nat), (∀ x ∈ a, x < 256) → ∀ i, i < a.length → val a / 256 ^ i % 256 = a.getD i 0
  | [], _, i, h => by simp at h
  | x :: a, ha, 0, _ => by
    have := ha x (by simp)
    simp [val]
    omega
  | x :: a, ha, i + 1, h => by
    have h0 := ha x (by simp)
    have := val_digit a (fun z hz => ha z (by simp [hz])) i (by simpa using h)
    simp only [val, Nat.pow_succ, List.getD_cons_succ]
    rw [Nat.mul_comm _ 256, ← Nat.div_div_eq_div_mul, show (x + 256 * val a) / 256 = val a by omega]
    exact this
theorem digs_val (a : List Nat) (h : ∀ x ∈ a, x < 256) : digs (val a) a.length = a := by
  apply List.ext_getElem?
  intro i
  by_cases hi : i < a.length
  · rw [digs_get _ _ _ hi, val_digit a h i hi, List.getD_eq_getElem?_getD, List.getElem?_eq_getElem hi]
    rfl
  · rw [List.getElem?_eq_none (by rw [digs_len]; omega), List.getElem?_eq_none (by omega)]
end Go.Proofs.YtjkdonjcngmjeaaGreatDoor.sh
/-
  Sums and products of words, and the word of eight bytes, by the program.
-/
namespace Go.Proofs.YtjkdonjcngmjeaaGreatDoor.sh
open Go Go.RowKit
set_option linter.unusedVariables false
set_option linter.unusedSimpArgs false

theorem stepD (x y u m : Nat) (hx : x < 18446744073709551616) (hy : y < 18446744073709551616) (hu : u < 18446744073709551616) (hm : m < 18446744073709551616) (w : World) :
    Calls Tryz.prog 125 #[.int .u64 (x : Int), .int .u64 (y : Int), .int .u64 (u : Int), .int .u64 (m : Int)] w fun e w' => e = .returned (.tuple #[.int .u64 (((x + y * u + m) % 18446744073709551616 : Nat) : Int), .int .u64 (((x + y * u + m) / 18446744073709551616 : Nat) : Int)]) ∧ w' = w := by
  have hP : Kept (y * u ≤ 18446744073709551615 * 18446744073709551615) := ⟨Nat.mul_le_mul (by omega) (by omega)⟩
  have HB : Kept (x < 18446744073709551616 ∧ m < 18446744073709551616) := ⟨hx, hm⟩
  go_enter Tryz.func125, Tryz.ntmps125
  go_wp2_with fail
  refine (mul64_any _ _ _ hy hu).mono ?_
  rintro e w' ⟨hi, lo, rfl, rfl, H⟩
  clear hx hy hu hm
  obtain ⟨z0, c0, h0, H0⟩ := call_add64_0 lo m
  obtain ⟨z1, c1, h1, H1⟩ := call_add64_0 z0 x
  go_wp2
  go_ret2
  have b1 := H.out; have b2 := H0.out; have b3 := H1.out; have b4 := HB.out; have b5 := hP.out
  generalize y * u = P at *
  refine ⟨ret_two ?_ ?_, rfl⟩
  · congr 1; omega
  · simp only [IntKind.wrap_u64]; omega

set_option maxHeartbeats 1000000 in
theorem word_walk (g off cap : Nat) (b0 b1 b2 b3 b4 b5 b6 b7 : Nat) (w : World)
   (c0 : w.cell? ⟨g, off, none⟩ = some (.int .u8 (b0 : Int))) (c1 : w.cell? ⟨g, off + 1, none⟩ = some (.int .u8 (b1 : Int))) (c2 : w.cell? ⟨g, off + 2, none⟩ = some (.int .u8 (b2 : Int))) (c3 : w.cell? ⟨g, off + 3, none⟩ = some (.int .u8 (b3 : Int)))
   (c4 : w.cell? ⟨g, off + 4, none⟩ = some (.int .u8 (b4 : Int))) (c5 : w.cell? ⟨g, off + 5, none⟩ = some (.int .u8 (b5 : Int))) (c6 : w.cell? ⟨g, off + 6, none⟩ = some (.int .u8 (b6 : Int))) (c7 : w.cell? ⟨g, off + 7, none⟩ = some (.int .u8 (b7 : Int)))
   (hb : Kept (b0 < 256 ∧ b1 < 256 ∧ b2 < 256 ∧ b3 < 256 ∧ b4 < 256 ∧ b5 < 256 ∧ b6 < 256 ∧ b7 < 256)) :
    Calls Tryz.prog 122 #[.slice (some ⟨g, off, none⟩) 8 cap] w
      fun e w' => e = .returned (.int .u64 ((b0 + b1 * 256 + b2 * 65536 + b3 * 16777216 + b4 * 4294967296 + b5 * 1099511627776 + b6 * 281474976710656 + b7 * 72057594037927936 : Nat) : Int)) ∧ Below w.heap.size w w' := by
  go_enter Tryz.func122, Tryz.ntmps122
  go_wp2
  go_quiet (fail)
  go_wp2
  go_ret
  obtain ⟨h0, h1, h2, h3, h4, h5, h6, h7⟩ := hb.out
  refine ⟨ret_int (word_bits b0 b1 b2 b3 b4 b5 b6 b7 h0 h1 h2 h3 h4 h5 h6 h7), ?_⟩
  exact ⟨rfl, rfl, rfl, Nat.le_refl _, fun _ _ => rfl⟩
end Go.Proofs.YtjkdonjcngmjeaaGreatDoor.sh
/-
  A region that draws its order, with one store among its operations that does not wait for all of them: 'x[i], c = f(..)'. Those that the store waits for read memory as it was; the others read none.
-/
namespace Go.Proofs.YtjkdonjcngmjeaaGreatDoor.sh
open Go Go.RowKit
set_option linter.unusedVariables false
set_option linter.unusedSimpArgs false

end Go.Proofs.YtjkdonjcngmjeaaGreatDoor.sh
/-
  A region that draws its order, in which operations may be left out by their guards; no operation takes a block over.
-/
namespace Go.Proofs.YtjkdonjcngmjeaaGreatDoor.sh
open Go Go.RowKit
set_option linter.unusedVariables false
set_option linter.unusedSimpArgs false

end Go.Proofs.YtjkdonjcngmjeaaGreatDoor.sh
/-
  Sums of numbers, what is left modulo p, and the bytes of a number, by the program.
-/
namespace Go.Proofs.YtjkdonjcngmjeaaGreatDoor.sh
open Go Go.RowKit
set_option linter.unusedVariables false
set_option linter.unusedSimpArgs false

end Go.Proofs.YtjkdonjcngmjeaaGreatDoor.sh
/-
  Products of numbers, by the program.
-/
namespace Go.Proofs.YtjkdonjcngmjeaaGreatDoor.sh
open Go Go.RowKit
set_option linter.unusedVariables false
set_option linter.unusedSimpArgs false

theorem step_at (X Y U M : Value) (x y u m : Nat) (w : World) (hX : X = .int .u64 (x : Int)) (hY : Y = .int .u64 (y : Int)) (hU : U = .int .u64 (u : Int)) (hM : M = .int .u64 (m : Int)) (hx : x < 18446744073709551616) (hy : y < 18446744073709551616) (hu : u < 18446744073709551616) (hm : m < 18446744073709551616) :
    Calls Tryz.prog 125 #[X, Y, U, M] w fun e w' => ∃ lo hi : Nat, e = .returned (.tuple #[.int .u64 (lo : Int), .int .u64 (hi : Int)]) ∧ w' = w ∧
      Kept (lo < 18446744073709551616 ∧ hi < 18446744073709551616 ∧ lo + 18446744073709551616 * hi = x + y * u + m) := by
  subst hX hY hU hM
  refine (stepD x y u m hx hy hu hm w).mono ?_
  rintro e w' ⟨rfl, rfl⟩
  have hP : y * u ≤ 18446744073709551615 * 18446744073709551615 := Nat.mul_le_mul (by omega) (by omega)
  refine ⟨_, _, rfl, rfl, ⟨?_⟩⟩
  generalize y * u = P at *
  omega
theorem wide_arith (n0 n1 n2 r0 r1 l00 u00 l01 u01 l02 u02 l10 u10 l11 u11 l12 u12 : Nat) (h2 : n2 < 8) (hn0 : n0 < 18446744073709551616) (hn1 : n1 < 18446744073709551616) (hr0 : r0 < 1152921504606846976) (hr1 : r1 < 1152921504606846976)
    (H00 : l00 < 18446744073709551616 ∧ u00 < 18446744073709551616 ∧ l00 + 18446744073709551616 * u00 = 0 + n0 * r0 + 0) (H01 : l01 < 18446744073709551616 ∧ u01 < 18446744073709551616 ∧ l01 + 18446744073709551616 * u01 = 0 + n1 * r0 + u00) (H02 : l02 < 18446744073709551616 ∧ u02 < 18446744073709551616 ∧ l02 + 18446744073709551616 * u02 = 0 + n2 * r0 + u01)
    (H10 : l10 < 18446744073709551616 ∧ u10 < 18446744073709551616 ∧ l10 + 18446744073709551616 * u10 = l01 + n0 * r1 + 0) (H11 : l11 < 18446744073709551616 ∧ u11 < 18446744073709551616 ∧ l11 + 18446744073709551616 * u11 = l02 + n1 * r1 + u10) (H12 : l12 < 18446744073709551616 ∧ u12 < 18446744073709551616 ∧ l12 + 18446744073709551616 * u12 = 0 + n2 * r1 + u11) :
    l00 + 18446744073709551616 * l10 + 340282366920938463463374607431768211456 * l11 + 6277101735386680763835789423207666416102355444464034512896 * l12 = (n0 + 18446744073709551616 * n1 + 340282366920938463463374607431768211456 * n2) * (r0 + 18446744073709551616 * r1) := by
  have e : (n0 + 18446744073709551616 * n1 + 340282366920938463463374607431768211456 * n2) * (r0 + 18446744073709551616 * r1) = n0 * r0 + 18446744073709551616 * (n1 * r0) + 340282366920938463463374607431768211456 * (n2 * r0) + 18446744073709551616 * (n0 * r1) + 340282366920938463463374607431768211456 * (n1 * r1) + 6277101735386680763835789423207666416102355444464034512896 * (n2 * r1) := by grind
  rw [e]
  have b00 : n0 * r0 ≤ 18446744073709551615 * 1152921504606846975 := Nat.mul_le_mul (by omega) (by omega)
  have b10 : n1 * r0 ≤ 18446744073709551615 * 1152921504606846975 := Nat.mul_le_mul (by omega) (by omega)
  have b20 : n2 * r0 ≤ 7 * 1152921504606846975 := Nat.mul_le_mul (by omega) (by omega)
  have b01 : n0 * r1 ≤ 18446744073709551615 * 1152921504606846975 := Nat.mul_le_mul (by omega) (by omega)
  have b11 : n1 * r1 ≤ 18446744073709551615 * 1152921504606846975 := Nat.mul_le_mul (by omega) (by omega)
  have b21 : n2 * r1 ≤ 7 * 1152921504606846975 := Nat.mul_le_mul (by omega) (by omega)
  clear e
  generalize n0 * r0 = p00 at *
  generalize n1 * r0 = p10 at *
  generalize n2 * r0 = p20 at *
  generalize n0 * r1 = p01 at *
  generalize n1 * r1 = p11 at *
  generalize n2 * r1 = p21 at *
  have c0 : u00 < 1152921504606846976 := by omega
  have c1 : u01 < 1152921504606846976 := by omega
  have c2 : u02 = 0 := by omega
  have c3 : u10 ≤ 1152921504606846976 := by omega
  have c4 : u11 ≤ 1152921504606846977 := by omega
  have c5 : u12 = 0 := by omega
  omega

set_option maxHeartbeats 4000000 in
theorem wide_any (n0 n1 n2 r0 r1 : Nat) (w : World) (hn0 : n0 < 18446744073709551616) (hn1 : n1 < 18446744073709551616) (h2 : n2 < 8) (hr0 : r0 < 1152921504606846976) (hr1 : r1 < 1152921504606846976) :
    Calls Tryz.prog 124 #[.agg #[.int .u64 (n0 : Int), .int .u64 (n1 : Int), .int .u64 (n2 : Int)], .agg #[.int .u64 (r0 : Int), .int .u64 (r1 : Int)]] w
      fun e w' => ∃ z0 z1 z2 z3 : Nat, e = .returned (.agg #[.int .u64 (z0 : Int), .int .u64 (z1 : Int), .int .u64 (z2 : Int), .int .u64 (z3 : Int)]) ∧ Below w.heap.size w w' ∧
        Kept (z0 < 18446744073709551616 ∧ z1 < 18446744073709551616 ∧ z2 < 18446744073709551616 ∧ z3 < 18446744073709551616 ∧ z0 + 18446744073709551616 * z1 + 340282366920938463463374607431768211456 * z2 + 6277101735386680763835789423207666416102355444464034512896 * z3 = (n0 + 18446744073709551616 * n1 + 340282366920938463463374607431768211456 * n2) * (r0 + 18446744073709551616 * r1)) := by
  have Bn0 : Kept _ := ⟨hn0⟩
  have Bn1 : Kept _ := ⟨hn1⟩
  have Bn2 : Kept (n2 < 18446744073709551616) := ⟨by omega⟩
  have Br0 : Kept (r0 < 18446744073709551616) := ⟨by omega⟩
  have Br1 : Kept (r1 < 18446744073709551616) := ⟨by omega⟩
  have BB : Kept _ := ⟨And.intro h2 (And.intro hr0 hr1)⟩
  clear hn0 hn1 h2 hr0 hr1
  have ixn0 : ∀ w, (Instr.index 144 (.agg #[.int .u64 (n0 : Int), .int .u64 (n1 : Int), .int .u64 (n2 : Int)]) (.int .i64 0)).run Tryz.prog w = .ok (.int .u64 (n0 : Int)) w := fun _ => by kernel_rfl
  have ixn1 : ∀ w, (Instr.index 144 (.agg #[.int .u64 (n0 : Int), .int .u64 (n1 : Int), .int .u64 (n2 : Int)]) (.int .i64 1)).run Tryz.prog w = .ok (.int .u64 (n1 : Int)) w := fun _ => by kernel_rfl
  have ixn2 : ∀ w, (Instr.index 144 (.agg #[.int .u64 (n0 : Int), .int .u64 (n1 : Int), .int .u64 (n2 : Int)]) (.int .i64 2)).run Tryz.prog w = .ok (.int .u64 (n2 : Int)) w := fun _ => by kernel_rfl
  have ixr0 : ∀ w, (Instr.index 141 (.agg #[.int .u64 (r0 : Int), .int .u64 (r1 : Int)]) (.int .i64 0)).run Tryz.prog w = .ok (.int .u64 (r0 : Int)) w := fun _ => by kernel_rfl
  have ixr1 : ∀ w, (Instr.index 141 (.agg #[.int .u64 (r0 : Int), .int .u64 (r1 : Int)]) (.int .i64 1)).run Tryz.prog w = .ok (.int .u64 (r1 : Int)) w := fun _ => by kernel_rfl
  go_enter Tryz.func124, Tryz.ntmps124
  go_wp2_with fail
  refine wp_loop_rounds 3 ?_
  rw [rounds_succ]
  go_wp2_with fail
  refine wp_loop_rounds 4 ?_
  rw [rounds_succ]
  go_wp2_with fail
  refine (step_at _ _ _ _ 0 n0 r0 0 _ rfl rfl rfl rfl (by omega) Bn0.out Br0.out (by omega)).mono ?_
  rintro e w_ ⟨l00, u00, rfl, rfl, H00⟩
  have Bl00 : Kept _ := ⟨H00.out.1⟩
  have Bu00 : Kept _ := ⟨H00.out.2.1⟩
  go_wp2_with fail
  rw [rounds_succ]
  go_wp2_with fail
  refine (step_at _ _ _ _ 0 n1 r0 u00 _ rfl rfl rfl rfl (by omega) Bn1.out Br0.out Bu00.out).mono ?_
  rintro e w_ ⟨l01, u01, rfl, rfl, H01⟩
  have Bl01 : Kept _ := ⟨H01.out.1⟩
  have Bu01 : Kept _ := ⟨H01.out.2.1⟩
  go_wp2_with fail
  rw [rounds_succ]
  go_wp2_with fail
  refine (step_at _ _ _ _ 0 n2 r0 u01 _ rfl rfl rfl rfl (by omega) Bn2.out Br0.out Bu01.out).mono ?_
  rintro e w_ ⟨l02, u02, rfl, rfl, H02⟩
  have Bl02 : Kept _ := ⟨H02.out.1⟩
  have Bu02 : Kept _ := ⟨H02.out.2.1⟩
  go_wp2_with fail
  rw [rounds_succ]
  go_wp2_with fail
  rw [rounds_succ]
  go_wp2_with fail
  refine wp_loop_rounds 4 ?_
  rw [rounds_succ]
  go_wp2_with fail
  refine (step_at _ _ _ _ l01 n0 r1 0 _ rfl rfl rfl rfl Bl01.out Bn0.out Br1.out (by omega)).mono ?_
  rintro e w_ ⟨l10, u10, rfl, rfl, H10⟩
  have Bl10 : Kept _ := ⟨H10.out.1⟩
  have Bu10 : Kept _ := ⟨H10.out.2.1⟩
  go_wp2_with fail
  rw [rounds_succ]
  go_wp2_with fail
  refine (step_at _ _ _ _ l02 n1 r1 u10 _ rfl rfl rfl rfl Bl02.out Bn1.out Br1.out Bu10.out).mono ?_
  rintro e w_ ⟨l11, u11, rfl, rfl, H11⟩
  have Bl11 : Kept _ := ⟨H11.out.1⟩
  have Bu11 : Kept _ := ⟨H11.out.2.1⟩
  go_wp2_with fail
  rw [rounds_succ]
  go_wp2_with fail
  refine (step_at _ _ _ _ 0 n2 r1 u11 _ rfl rfl rfl rfl (by omega) Bn2.out Br1.out Bu11.out).mono ?_
  rintro e w_ ⟨l12, u12, rfl, rfl, H12⟩
  have Bl12 : Kept _ := ⟨H12.out.1⟩
  have Bu12 : Kept _ := ⟨H12.out.2.1⟩
  go_wp2_with fail
  rw [rounds_succ]
  go_wp2_with fail
  rw [rounds_succ]
  go_wp2
  refine bodyPost_ret (v := .agg #[.int .u64 (l00 : Int), .int .u64 (l10 : Int), .int .u64 (l11 : Int), .int .u64 (l12 : Int)]) (by simp [results, Tryz.results124, go_sem]) rfl ⟨l00, l10, l11, l12, rfl, ?_, ⟨H00.out.1, H10.out.1, H11.out.1, H12.out.1, wide_arith _ _ _ _ _ _ _ _ _ _ _ _ _ _ _ _ _ BB.out.1 Bn0.out Bn1.out BB.out.2.1 BB.out.2.2 H00.out H01.out H02.out H10.out H11.out H12.out⟩⟩
  repeat (first | with_reducible exact Below.refl _ _ | with_reducible assumption | with_reducible refine Below.drew ?_ | (with_reducible refine Below.alloc ?_ ?hB _; (case hB => first | omega | (simp <;> omega))) | (with_reducible refine Below.setCell ?_ ?hB _; (case hB => first | omega | (simp <;> omega))))
end Go.Proofs.YtjkdonjcngmjeaaGreatDoor.sh
/-
  Products modulo p, and the bytes of a number, by the program.
-/
namespace Go.Proofs.YtjkdonjcngmjeaaGreatDoor.sh
open Go Go.RowKit
set_option linter.unusedVariables false
set_option linter.unusedSimpArgs false

end Go.Proofs.YtjkdonjcngmjeaaGreatDoor.sh
/-
  The words of a key and of a piece of a text, by the program.
-/
namespace Go.Proofs.YtjkdonjcngmjeaaGreatDoor.sh
open Go Go.RowKit
set_option linter.unusedVariables false
set_option linter.unusedSimpArgs false

end Go.Proofs.YtjkdonjcngmjeaaGreatDoor.sh
/-
  The tag of bytes, by the program.
-/
namespace Go.Proofs.YtjkdonjcngmjeaaGreatDoor.sh
open Go Go.RowKit
set_option linter.unusedVariables false
set_option linter.unusedSimpArgs false

end Go.Proofs.YtjkdonjcngmjeaaGreatDoor.sh
/-
  Texts compared, and the difference of two tags.
-/
namespace Go.Proofs.YtjkdonjcngmjeaaGreatDoor.sh
open Go Go.RowKit
set_option linter.unusedVariables false
set_option linter.unusedSimpArgs false

end Go.Proofs.YtjkdonjcngmjeaaGreatDoor.sh
/-
  The answers that the document fixes for layer 6 are as they must be.
-/
namespace Go.Proofs.YtjkdonjcngmjeaaGreatDoor.sh
open Go Go.RowKit
set_option linter.unusedVariables false
set_option linter.unusedSimpArgs false

end Go.Proofs.YtjkdonjcngmjeaaGreatDoor.sh
/-
  TagBlocks and TagOne, walked.
-/
namespace Go.Proofs.YtjkdonjcngmjeaaGreatDoor.sh
open Go Go.RowKit
set_option linter.unusedVariables false
set_option linter.unusedSimpArgs false

end Go.Proofs.YtjkdonjcngmjeaaGreatDoor.sh
/-
  TagBits, walked.
-/
namespace Go.Proofs.YtjkdonjcngmjeaaGreatDoor.sh
open Go Go.RowKit
set_option linter.unusedVariables false
set_option linter.unusedSimpArgs false

end Go.Proofs.YtjkdonjcngmjeaaGreatDoor.sh
/-
  Arguments: sixteen bytes; two slices of bytes; two slices, a number of 16 bits and a byte.
-/
namespace Go.Proofs.YtjkdonjcngmjeaaGreatDoor.sh
open Go Go.ChangeShapes Go.WideShapes Go.ChangeAt Go.RowKit
set_option linter.unusedVariables false
set_option linter.unusedSimpArgs false

end Go.Proofs.YtjkdonjcngmjeaaGreatDoor.sh
/-
  Slices of ints that a call owns; the reference's carry.
-/
namespace Go.Proofs.YtjkdonjcngmjeaaGreatDoor.sh
open Go Go.RowKit
set_option linter.unusedVariables false
set_option linter.unusedSimpArgs false

/-- A slice of ints in a block of its own. -/
def OI (base g n cap : Nat) (l : List Nat) (w : World) : Prop := base ≤ g ∧ l.length = n ∧ n ≤ cap ∧ cap ≤ maxLen ∧ ∃ cur, Blk w g 3 cur ∧ cur.size = cap ∧ ∀ (i x : Nat), l[i]? = some x → cur[i]? = some (.int .i64 (x : Int))
theorem OI.len {base g n cap : Nat} {l : List Nat} {w : World} (h : OI base g n cap l w) : l.length = n := h.2.1
theorem OI.lt {base g n cap : Nat} {l : List Nat} {w : World} (h : OI base g n cap l w) : g < w.heap.size := by obtain ⟨_, _, _, _, cur, hB, _⟩ := h; exact hB.lt
theorem OI.cell {base g n cap : Nat} {l : List Nat} {w : World} (h : OI base g n cap l w) {i x : Nat} (hx : l[i]? = some x) : w.cell? ⟨g, i, none⟩ = some (.int .i64 (x : Int)) := by
  obtain ⟨_, _, _, _, cur, hB, _, hc⟩ := h
  exact hB.cell (hc i x hx)
theorem OI.under {base g n cap : Nat} {l : List Nat} {w w' : World} (h : OI base g n cap l w) (hb : Below w.heap.size w w') : OI base g n cap l w' := by
  obtain ⟨h1, h2, h3, h4, cur, hB, hs, hc⟩ := h
  exact ⟨h1, h2, h3, h4, cur, hB.under hb, hs, hc⟩
theorem OI.alloc {base g n cap : Nat} {l : List Nat} {w : World} (h : OI base g n cap l w) (o : Obj) : OI base g n cap l (w.alloc o) := by
  obtain ⟨h1, h2, h3, h4, cur, hB, hs, hc⟩ := h
  exact ⟨h1, h2, h3, h4, cur, hB.alloc o, hs, hc⟩
theorem OI.put {base g n cap k : Nat} {l : List Nat} {w w' : World} (h : OI base g n cap l w) (hp : Put w w' k) (hne : g ≠ k) : OI base g n cap l w' := by
  obtain ⟨h1, h2, h3, h4, cur, hB, hs, hc⟩ := h
  exact ⟨h1, h2, h3, h4, cur, hp.blk hB hne, hs, hc⟩
theorem OI.mono {base b' g n cap : Nat} {l : List Nat} {w : World} (h : OI base g n cap l w) (hb : b' ≤ base) : OI b' g n cap l w := ⟨Nat.le_trans hb h.1, h.2⟩
theorem OI.ints {base g n cap : Nat} {l : List Nat} {w : World} (h : OI base g n cap l w) : IntsV .i64 (.slice (some ⟨g, 0, none⟩) n cap) w l := by
  have hl := h.len
  subst hl
  refine ⟨some ⟨g, 0, none⟩, cap, rfl, h.2.2.1, fun _ => ⟨⟨g, 0, none⟩, rfl, h.lt, fun j x hx => ?_⟩⟩
  rw [addr_add, Nat.zero_add]
  exact h.cell hx
section
variable {ops : Array Oper} {rest : List Oper} {o : Oper} {a : Act} {w : World} {Q : Exit → Act → World → Prop}
end
end Go.Proofs.YtjkdonjcngmjeaaGreatDoor.sh
/-
  What the reference's Sum wants, as plain numbers; its single operations.
-/
namespace Go.Proofs.YtjkdonjcngmjeaaGreatDoor.sh
open Go Go.RowKit
set_option linter.unusedVariables false
set_option linter.unusedSimpArgs false

end Go.Proofs.YtjkdonjcngmjeaaGreatDoor.sh
/-
  The reference's block: pieces.
-/
namespace Go.Proofs.YtjkdonjcngmjeaaGreatDoor.sh
open Go Go.RowKit
set_option linter.unusedVariables false
set_option linter.unusedSimpArgs false

end Go.Proofs.YtjkdonjcngmjeaaGreatDoor.sh
/-
  The reference: bytes turned by blocks.
-/
namespace Go.Proofs.YtjkdonjcngmjeaaGreatDoor.sh
open Go Go.RowKit
set_option linter.unusedVariables false
set_option linter.unusedSimpArgs false

end Go.Proofs.YtjkdonjcngmjeaaGreatDoor.sh
