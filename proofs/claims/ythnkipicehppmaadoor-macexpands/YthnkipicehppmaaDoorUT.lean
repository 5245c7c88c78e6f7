/-
  Pieces of what is expanded; a byte in a slice of its own.
-/
import Derived.Test.YthnkipicehppmaaDoorUJ
import Derived.Test.YthnkipicehppmaaDoorUS
namespace Go.Proofs.YthnkipicehppmaaDoor.sh
open Go Go.RowKit
set_option linter.unusedVariables false
set_option linter.unusedSimpArgs false

theorem tsL_cut (key info : List Nat) (k i : Nat) (hi : i < k) : ((tsL key info k).drop (32 * i)).take 32 = tL key info (i + 1) := by
  obtain ⟨r, hr⟩ := tsL_pre key info (i + 1) (k - (i + 1))
  rw [show k = i + 1 + (k - (i + 1)) from by omega, hr, tsL_succ, List.append_assoc, List.drop_append, tsL_len, Nat.sub_self, List.drop_of_length_le (by rw [tsL_len]; exact Nat.le_refl _), List.nil_append, List.drop_zero, List.take_append_of_le_length (by rw [tL_len]; exact Nat.le_refl _), List.take_of_length_le (by rw [tL_len]; exact Nat.le_refl _)]
/-- A piece of a slice of bytes. -/
theorem BytesV.piece {p : Option Addr} {n c k m : Nat} {w : World} {bs : List Nat} (h : BytesV (.slice p n c) w bs) (hm : k + m ≤ bs.length) : BytesV (.slice (if c = k then p else p.map (·.add k)) m (c - k)) w ((bs.drop k).take m) := by
  have hn : n = bs.length := by obtain ⟨_, _, h1, _⟩ := h; cases h1; rfl
  subst hn
  have h2 := BytesV.cut h (k := k) (by omega)
  exact IntsV.take h2 (by rw [List.length_drop]; omega)
theorem run_byte (b : Nat) (w : World) : (Instr.buildSlice 22 1 #[(0, .int .u8 (b : Int))]).run Tryd.prog w = .ok (.slice (some ⟨w.heap.size, 0, none⟩) 1 1) (w.alloc (.cells (ints .u8 [b]) 5)) := by kernel_rfl
section
variable {h : List Oper} {A0 A : Act} {W0 : World} {S : Nat → Option (Value → World → Prop)} {sp O : List Nat} {E : List (Nat × Nat)} {i : Nat} {o : Oper}
/-- A byte in a slice of its own, in a region that draws its order. -/
theorem ow_byte (hA : Full h A0 A S sp) (hw : Wants h A0 A S O E W0.heap.size i o) (d x b : Nat) (hd : o.dst = some d) (ho : o.op = .buildSlice 22 1 #[(0, .tmp x)]) (hwx : waitsFor h o x = true) (hx : A.tmps[x]? = some (.int .u8 (b : Int))) (hsx : sp.contains x = false) (hE : (E.all fun q => q.2 != x || q.1 == i) = true) (hp : S d = some (Const 5 .u8 [b])) : OwnOk Tryd.prog h A0 W0 (relR A S) O E i o :=
  ow_run hw d hd fun a w hF hB hgot => by
    have e := gotE_det hA hgot hwx hsx hE hx
    refine ⟨_, _, none, ?_, rel_spec _ hp (Const.new (n := 1) rfl), grown_none ((Below.refl _ _).alloc (Nat.le_refl _) _), fun b hb => (by cases hb), fun _ b hb => .inl ?_⟩
    · unfold execOp
      simp only [ho]
      simp [e, run_byte]
    · cases hb
      exact ⟨Nat.le_refl _, by simp⟩
end
end Go.Proofs.YthnkipicehppmaaDoor.sh
