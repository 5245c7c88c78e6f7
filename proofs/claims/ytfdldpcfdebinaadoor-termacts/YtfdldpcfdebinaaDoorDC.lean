/-
  The library's Repeat, CutPrefix and TrimLeft at one byte in this program: the shelf's contracts.
-/
import Derived.Test.YtfdldpcfdebinaaDoorBase
import Derived.Shelf.Strings.Repeat
import Derived.Shelf.Small.Wraps
import Derived.Shelf.Strings.Trim
namespace Go.Proofs.YtfdldpcfdebinaaDoor.sh
open Go Go.RowKit Go.Shelf
set_option linter.unusedVariables false
set_option linter.unusedSimpArgs false

theorem lay103 : Lays.n103 Tryd.prog ren := { mixed := by kernel_rfl, f103 := Tryd.func37.trans (congrArg some (by kernel_rfl)), f206 := Tryd.func60.trans (congrArg some (by kernel_rfl)), f210 := Tryd.func48.trans (congrArg some (by kernel_rfl)), t3 := Tryd.underlying3, a3 := Tryd.isAgg3, z3 := Tryd.sizeOf3, v3 := Tryd.zeroValue3, t4 := Tryd.underlying4, a4 := Tryd.isAgg4, z4 := Tryd.sizeOf4, v4 := Tryd.zeroValue4, t9 := Tryd.underlying9, a9 := Tryd.isAgg9, z9 := Tryd.sizeOf9, v9 := Tryd.zeroValue9, t24 := Tryd.underlying33, a24 := Tryd.isAgg33, z24 := Tryd.sizeOf33, v24 := Tryd.zeroValue33 }
theorem lay231 : Lays.n231 Tryd.prog ren := { mixed := by kernel_rfl, f231 := Tryd.func49.trans (congrArg some (by kernel_rfl)), t3 := Tryd.underlying3, a3 := Tryd.isAgg3, z3 := Tryd.sizeOf3, v3 := Tryd.zeroValue3, t4 := Tryd.underlying4, a4 := Tryd.isAgg4, z4 := Tryd.sizeOf4, v4 := Tryd.zeroValue4, t5 := Tryd.underlying5, a5 := Tryd.isAgg5, z5 := Tryd.sizeOf5, v5 := Tryd.zeroValue5, t9 := Tryd.underlying9, a9 := Tryd.isAgg9, z9 := Tryd.sizeOf9, v9 := Tryd.zeroValue9 }
theorem lay105 : Lays.n105 Tryd.prog ren := { mixed := by kernel_rfl, f99 := Tryd.func43.trans (congrArg some (by kernel_rfl)), f105 := Tryd.func36.trans (congrArg some (by kernel_rfl)), f165 := Tryd.func44.trans (congrArg some (by kernel_rfl)), f166 := Tryd.func45.trans (congrArg some (by kernel_rfl)), f169 := Tryd.func47.trans (congrArg some (by kernel_rfl)), f170 := Tryd.func46.trans (congrArg some (by kernel_rfl)), f206 := Tryd.func60.trans (congrArg some (by kernel_rfl)), f212 := Tryd.func42.trans (congrArg some (by kernel_rfl)), f240 := Tryd.func61.trans (congrArg some (by kernel_rfl)), f241 := Tryd.func62.trans (congrArg some (by kernel_rfl)), f263 := Tryd.func58.trans (congrArg some (by kernel_rfl)), f264 := Tryd.func59.trans (congrArg some (by kernel_rfl)), f276 := Tryd.func68.trans (congrArg some (by kernel_rfl)), f277 := Tryd.func69.trans (congrArg some (by kernel_rfl)), t0 := Tryd.underlying0, a0 := Tryd.isAgg0, z0 := Tryd.sizeOf0, v0 := Tryd.zeroValue0, t3 := Tryd.underlying3, a3 := Tryd.isAgg3, z3 := Tryd.sizeOf3, v3 := Tryd.zeroValue3, t4 := Tryd.underlying4, a4 := Tryd.isAgg4, z4 := Tryd.sizeOf4, v4 := Tryd.zeroValue4, t5 := Tryd.underlying5, a5 := Tryd.isAgg5, z5 := Tryd.sizeOf5, v5 := Tryd.zeroValue5, t9 := Tryd.underlying9, a9 := Tryd.isAgg9, z9 := Tryd.sizeOf9, v9 := Tryd.zeroValue9, t20 := Tryd.underlying20, a20 := Tryd.isAgg20, z20 := Tryd.sizeOf20, v20 := Tryd.zeroValue20, t37 := Tryd.underlying47, a37 := Tryd.isAgg47, z37 := Tryd.sizeOf47, v37 := Tryd.zeroValue47, t46 := Tryd.underlying77, a46 := Tryd.isAgg77, z46 := Tryd.sizeOf77, v46 := Tryd.zeroValue77, t51 := Tryd.underlying103, a51 := Tryd.isAgg103, z51 := Tryd.sizeOf103, v51 := Tryd.zeroValue103, t53 := Tryd.underlying28, a53 := Tryd.isAgg28, z53 := Tryd.sizeOf28, v53 := Tryd.zeroValue28, t70 := Tryd.underlying81, a70 := Tryd.isAgg81, z70 := Tryd.sizeOf81, v70 := Tryd.zeroValue81, t72 := Tryd.underlying83, a72 := Tryd.isAgg83, z72 := Tryd.sizeOf83, v72 := Tryd.zeroValue83, t75 := Tryd.underlying86, a75 := Tryd.isAgg86, z75 := Tryd.sizeOf86, v75 := Tryd.zeroValue86, t76 := Tryd.underlying87, a76 := Tryd.isAgg87, z76 := Tryd.sizeOf87, v76 := Tryd.zeroValue87, t109 := Tryd.underlying78, a109 := Tryd.isAgg78, z109 := Tryd.sizeOf78, v109 := Tryd.zeroValue78, t127 := Tryd.underlying108, a127 := Tryd.isAgg108, z127 := Tryd.sizeOf108, v127 := Tryd.zeroValue108, t146 := Tryd.underlying104, a146 := Tryd.isAgg104, z146 := Tryd.sizeOf104, v146 := Tryd.zeroValue104, t148 := Tryd.underlying106, a148 := Tryd.isAgg106, z148 := Tryd.sizeOf106, v148 := Tryd.zeroValue106, t164 := Tryd.underlying114, a164 := Tryd.isAgg114, z164 := Tryd.sizeOf114, v164 := Tryd.zeroValue114 }
theorem sRep {l : List Nat} {c : Nat} (w : World) (hl : l.length * c ≤ 140737488355328) (hc : c ≤ 9223372036854775807) :
    Calls Tryd.prog 36 #[.string (strOf l), .int .i64 (c : Int)] w fun e w' => e = .returned (.string ⟨(Lib.repeatL ((l.map fun n => UInt8.ofNat n)) c).toArray⟩) ∧ Below w.heap.size w w' := by
  have h := Any.strings_Repeat lay105 layX (strOf l) c w hc (by rw [strOf_size]; exact hl)
  rw [sa_data] at h
  exact h
theorem sCut (l m : List Nat) (w : World) :
    Calls Tryd.prog 37 #[.string (strOf l), .string (strOf m)] w fun e w' => e = .returned (.tuple #[.string ⟨(Lib.trimPrefix (l.map fun n => UInt8.ofNat n) (m.map fun n => UInt8.ofNat n)).toArray⟩, .bool (Lib.hasPrefix (l.map fun n => UInt8.ofNat n) (m.map fun n => UInt8.ofNat n))]) ∧ w' = w := by
  have h := Any.strings_CutPrefix lay103 (strOf l) (strOf m) w
  rw [sa_data, sa_data] at h
  exact h
theorem sTrimB (l : List Nat) (c : UInt8) (w : World) :
    Calls Tryd.prog 49 #[.string (strOf l), .int .u8 c.toNat] w fun e w' => e = .returned (.string ⟨(Lib.trimLeftB (l.map fun n => UInt8.ofNat n) c).toArray⟩) ∧ w' = w := by
  have h := Any.strings_trimLeftByte lay231 (strOf l) c w
  rw [sa_data] at h
  exact h
end Go.Proofs.YtfdldpcfdebinaaDoor.sh
