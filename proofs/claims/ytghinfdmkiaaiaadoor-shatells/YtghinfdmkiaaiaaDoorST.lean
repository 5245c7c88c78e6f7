/-
  What a word comes to that is turned to the right, by one amount and by some.
-/
import Derived.Test.YtghinfdmkiaaiaaDoorSB
namespace Go.Proofs.YtghinfdmkiaaiaaDoor.sh
open Go Go.RowKit
set_option linter.unusedVariables false
set_option linter.unusedSimpArgs false

theorem wl_at {ops : Array Oper} {rest : List Oper} {o : Oper} {a : Act} {w : World} {Q : Exit → Act → World → Prop} {d : Nat} (hd : o.dst = some d) (hg : o.guard = none) (v : Value) (hrun : (execOp a.eval o).run Tryd.prog w = .ok (.value v) w) (h : wpList Tryd.prog ops Q rest (a.put o.dst v) w) : wpList Tryd.prog ops Q (o :: rest) a w := wl_val hg v hrun h

def rotr (n m : Nat) : Nat := (n * 2 ^ (32 - m) % 4294967296) ||| (n / 2 ^ m)
theorem rotr_lt (n m : Nat) (hn : n < 4294967296) : rotr n m < 4294967296 := by
  unfold rotr
  exact Nat.or_lt_two_pow (n := 32) (Nat.mod_lt _ (by decide)) (Nat.lt_of_le_of_lt (Nat.div_le_self _ _) hn)
theorem count_of (m : Nat) (h0 : 0 < m) (h1 : m < 32) : bits .and .u64 (IntKind.u64.wrap (-(m : Int))) 31 = ((32 - m : Nat) : Int) := by
  rw [IntKind.wrap_u64, show (-(m : Int)) % 18446744073709551616 = ((18446744073709551616 - m : Nat) : Int) from by omega, show (31 : Int) = ((31 : Nat) : Int) from rfl, u64_and_nat _ _ (by omega) (by decide), nat_mask5]
  omega

set_option maxHeartbeats 400000 in
theorem rot_any (n m : Nat) (w : World) (hn : n < 4294967296) (h0 : 0 < m) (h1 : m < 32) :
    Calls Tryd.prog 33 #[.int .u32 (n : Int), .int .i64 (-(m : Int))] w fun e w' => e = .returned (.int .u32 (rotr n m : Nat)) ∧ w' = w := by
  have hS := count_of m h0 h1
  go_enter Tryd.func33, Tryd.ntmps33
  go_wp2_with (refine wl_at (d := 8) rfl rfl (.int .u64 ((32 - m : Nat) : Int)) ?h1 ?_; (case h1 => simp [execOp, Act.eval, go_sem, hS]))
  go_ret
  refine ⟨ret_int ?_, rfl⟩
  have e1 : ((n : Int) * 2 ^ (32 - m) % 4294967296) = ((n * 2 ^ (32 - m) % 4294967296 : Nat) : Int) := by rw [Int.natCast_emod, Int.natCast_mul, Int.natCast_pow]; rfl
  have e2 : ((n : Int) / 2 ^ (32 - (32 - m))) = ((n / 2 ^ m : Nat) : Int) := by rw [show 32 - (32 - m) = m from by omega, Int.natCast_ediv, Int.natCast_pow]; rfl
  rw [e1, e2, u32_or_nat _ _ (Nat.mod_lt _ (by decide)) (Nat.lt_of_le_of_lt (Nat.div_le_self _ _) hn)]
  rfl

theorem rot_at (n m : Nat) (X : Int) (w : World) (hn : n < 4294967296) (h0 : 0 < m) (h1 : m < 32) (hX : X = -(m : Int)) :
    Calls Tryd.prog 33 #[.int .u32 (n : Int), .int .i64 X] w fun e w' => e = .returned (.int .u32 (rotr n m : Nat)) ∧ w' = w := by rw [hX]; exact rot_any n m w hn h0 h1
/-- A word turned by each of the amounts, all of that by exclusive or. -/
def turnN (n : Nat) (ms : List Nat) : Nat := ms.foldl (fun x m => x ^^^ rotr n m) 0
theorem turnN_snoc (n : Nat) (ms : List Nat) (m : Nat) : turnN n (ms ++ [m]) = turnN n ms ^^^ rotr n m := by simp [turnN]
theorem fold_lt (n : Nat) (hn : n < 4294967296) : ∀ (ms : List Nat) (x : Nat), x < 4294967296 → ms.foldl (fun x m => x ^^^ rotr n m) x < 4294967296
  | [], x, h => h
  | m :: r, x, h => fold_lt n hn r _ (Nat.xor_lt_two_pow (n := 32) h (rotr_lt n m hn))
theorem turnN_lt (n : Nat) (ms : List Nat) (hn : n < 4294967296) : turnN n ms < 4294967296 := fold_lt n hn ms 0 (by decide)

set_option maxHeartbeats 400000 in
theorem turned_any (n : Nat) (ms : List Nat) (g cap : Nat) (t : TypeId) (w : World) (hn : n < 4294967296) (hms : ∀ (i m : Nat), ms[i]? = some m → 0 < m ∧ m < 32) (hb : Blk w g t (ints .i64 ms)) (hl : ms.length < 100) :
    Calls Tryd.prog 30 #[.int .u32 (n : Int), .slice (some ⟨g, 0, none⟩) ms.length cap] w fun e w' => e = .returned (.int .u32 (turnN n ms : Nat)) ∧ w' = w := by
  obtain ⟨len, hlen⟩ : ∃ len, len = ms.length := ⟨_, rfl⟩
  rw [← hlen] at hl ⊢
  have KL : Kept _ := ⟨hlen⟩
  clear hlen
  have KM : Kept _ := ⟨hms⟩
  have KB : Kept _ := ⟨hb⟩
  clear hms hb
  go_enter Tryd.func30, Tryd.ntmps30
  go_wp2_with fail
  go_loopg [10, 5] len (fun k s10 s5 wr => ∃ i x : Nat, i + k = len ∧ s10 = .int .i64 (i : Int) ∧ s5 = .int .u32 (x : Int) ∧ wr = w ∧ Kept (x = turnN n (ms.take i)))
  case atStart => exact ⟨0, 0, by omega, rfl, rfl, rfl, ⟨rfl⟩⟩
  case round =>
    obtain ⟨i, x, hik, rfl, rfl, rfl, KX⟩ := hrel
    by_cases hk0 : gk = 0
    · obtain rfl : i = len := by omega
      have e : x = turnN n ms := by rw [KX.out, KL.out, List.take_length]
      go_wp2_with fail
      go_ret
      exact ⟨by rw [e]; rfl, rfl⟩
    · have hil : i < len := by omega
      have hlt : ((i : Int) < (len : Int)) := by omega
      obtain ⟨m, hm⟩ : ∃ m, ms[i]? = some m := ⟨_, List.getElem?_eq_getElem (by have := KL.out; omega)⟩
      have hx : x < 4294967296 := by rw [KX.out]; exact turnN_lt n _ hn
      go_wp2_with (refine wl_elem rfl 3 ag_int (.tmp 12) rfl g i rfl (ints .i64 ms) (.int .i64 (m : Int)) KB.out (ints_get hm) ?_)
      refine (rot_at n m _ wr hn (KM.out i m hm).1 (KM.out i m hm).2 ?hX).mono ?_
      case hX => have := (KM.out i m hm).2; unfold wrap64; omega
      rintro e w1 ⟨rfl, rfl⟩
      have hbx : bits .xor .u32 (x : Int) (rotr n m : Nat) = ((x ^^^ rotr n m : Nat) : Int) := u32_xor_nat _ _ hx (rotr_lt n m hn)
      go_wp2_with fail
      go_roundg (gk - 1)
      case measure => omega
      case rel => exact ⟨i + 1, x ^^^ rotr n m, by omega, by simp, rfl, rfl, ⟨by rw [List.take_add_one, hm]; simp [turnN_snoc, KX.out]⟩⟩
end Go.Proofs.YtghinfdmkiaaiaaDoor.sh
