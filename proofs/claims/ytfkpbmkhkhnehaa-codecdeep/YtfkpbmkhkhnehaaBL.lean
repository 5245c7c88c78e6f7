/-
  The library's builder, its Clone and its HasPrefix in this program: the shelf's contracts, over one table of numbers.
-/
import Derived.Test.YtfkpbmkhkhnehaaSC
import Derived.Shelf.Strings.Builder1
import Derived.Shelf.Strings.Builder2
import Derived.Shelf.Strconv.Clone
import Derived.Shelf.Strings.Prefix
import Derived.Shelf.LaysM
namespace Go.Proofs.Ytfkpbmkhkhnehaa.sh
open Go Go.RowKit Go.Shelf
set_option linter.unusedVariables false
set_option linter.unusedSimpArgs false

def ren : Ren := { f := fun n => if n = 165 then 23 else if n = 166 then 25 else if n = 167 then 24 else if n = 169 then 26 else if n = 240 then 29 else if n = 241 then 30 else if n = 276 then 35 else if n = 277 then 36 else if n = 316 then 39 else if n = 99 then 28 else if n = 206 then 34 else n, t := fun n => if n = 70 then 54 else if n = 3 then 3 else if n = 0 then 0 else if n = 4 then 4 else if n = 9 then 9 else if n = 20 then 20 else if n = 72 then 56 else if n = 37 then 46 else if n = 164 then 73 else if n = 5 then 5 else if n = 75 then 59 else if n = 80 then 64 else if n = 127 then 69 else n, g := fun n => n }
theorem lay240 : Lays.n240 Try.prog ren := { mixed := by kernel_rfl, f240 := Try.func29.trans (congrArg some (by kernel_rfl)), f276 := Try.func35.trans (congrArg some (by kernel_rfl)), t0 := Try.underlying0, a0 := Try.isAgg0, z0 := Try.sizeOf0, v0 := Try.zeroValue0, t4 := Try.underlying4, a4 := Try.isAgg4, z4 := Try.sizeOf4, v4 := Try.zeroValue4, t9 := Try.underlying9, a9 := Try.isAgg9, z9 := Try.sizeOf9, v9 := Try.zeroValue9, t20 := Try.underlying20, a20 := Try.isAgg20, z20 := Try.sizeOf20, v20 := Try.zeroValue20, t70 := Try.underlying54, a70 := Try.isAgg54, z70 := Try.sizeOf54, v70 := Try.zeroValue54, t72 := Try.underlying56, a72 := Try.isAgg56, z72 := Try.sizeOf56, v72 := Try.zeroValue56, t164 := Try.underlying73, a164 := Try.isAgg73, z164 := Try.sizeOf73, v164 := Try.zeroValue73 }
theorem lay165 : Lays.n165 Try.prog ren := { mixed := by kernel_rfl, f165 := Try.func23.trans (congrArg some (by kernel_rfl)), f240 := Try.func29.trans (congrArg some (by kernel_rfl)), f241 := Try.func30.trans (congrArg some (by kernel_rfl)), f276 := Try.func35.trans (congrArg some (by kernel_rfl)), f277 := Try.func36.trans (congrArg some (by kernel_rfl)), t0 := Try.underlying0, a0 := Try.isAgg0, z0 := Try.sizeOf0, v0 := Try.zeroValue0, t3 := Try.underlying3, a3 := Try.isAgg3, z3 := Try.sizeOf3, v3 := Try.zeroValue3, t4 := Try.underlying4, a4 := Try.isAgg4, z4 := Try.sizeOf4, v4 := Try.zeroValue4, t9 := Try.underlying9, a9 := Try.isAgg9, z9 := Try.sizeOf9, v9 := Try.zeroValue9, t20 := Try.underlying20, a20 := Try.isAgg20, z20 := Try.sizeOf20, v20 := Try.zeroValue20, t37 := Try.underlying46, a37 := Try.isAgg46, z37 := Try.sizeOf46, v37 := Try.zeroValue46, t70 := Try.underlying54, a70 := Try.isAgg54, z70 := Try.sizeOf54, v70 := Try.zeroValue54, t72 := Try.underlying56, a72 := Try.isAgg56, z72 := Try.sizeOf56, v72 := Try.zeroValue56, t164 := Try.underlying73, a164 := Try.isAgg73, z164 := Try.sizeOf73, v164 := Try.zeroValue73 }
theorem lay166 : Lays.n166 Try.prog ren := { mixed := by kernel_rfl, f166 := Try.func25.trans (congrArg some (by kernel_rfl)), f240 := Try.func29.trans (congrArg some (by kernel_rfl)), f276 := Try.func35.trans (congrArg some (by kernel_rfl)), t0 := Try.underlying0, a0 := Try.isAgg0, z0 := Try.sizeOf0, v0 := Try.zeroValue0, t3 := Try.underlying3, a3 := Try.isAgg3, z3 := Try.sizeOf3, v3 := Try.zeroValue3, t4 := Try.underlying4, a4 := Try.isAgg4, z4 := Try.sizeOf4, v4 := Try.zeroValue4, t9 := Try.underlying9, a9 := Try.isAgg9, z9 := Try.sizeOf9, v9 := Try.zeroValue9, t20 := Try.underlying20, a20 := Try.isAgg20, z20 := Try.sizeOf20, v20 := Try.zeroValue20, t37 := Try.underlying46, a37 := Try.isAgg46, z37 := Try.sizeOf46, v37 := Try.zeroValue46, t70 := Try.underlying54, a70 := Try.isAgg54, z70 := Try.sizeOf54, v70 := Try.zeroValue54, t72 := Try.underlying56, a72 := Try.isAgg56, z72 := Try.sizeOf56, v72 := Try.zeroValue56, t75 := Try.underlying59, a75 := Try.isAgg59, z75 := Try.sizeOf59, v75 := Try.zeroValue59, t164 := Try.underlying73, a164 := Try.isAgg73, z164 := Try.sizeOf73, v164 := Try.zeroValue73 }
theorem lay167 : Lays.n167 Try.prog ren := { mixed := by kernel_rfl, f167 := Try.func24.trans (congrArg some (by kernel_rfl)), f240 := Try.func29.trans (congrArg some (by kernel_rfl)), f276 := Try.func35.trans (congrArg some (by kernel_rfl)), t0 := Try.underlying0, a0 := Try.isAgg0, z0 := Try.sizeOf0, v0 := Try.zeroValue0, t4 := Try.underlying4, a4 := Try.isAgg4, z4 := Try.sizeOf4, v4 := Try.zeroValue4, t5 := Try.underlying5, a5 := Try.isAgg5, z5 := Try.sizeOf5, v5 := Try.zeroValue5, t9 := Try.underlying9, a9 := Try.isAgg9, z9 := Try.sizeOf9, v9 := Try.zeroValue9, t20 := Try.underlying20, a20 := Try.isAgg20, z20 := Try.sizeOf20, v20 := Try.zeroValue20, t37 := Try.underlying46, a37 := Try.isAgg46, z37 := Try.sizeOf46, v37 := Try.zeroValue46, t70 := Try.underlying54, a70 := Try.isAgg54, z70 := Try.sizeOf54, v70 := Try.zeroValue54, t72 := Try.underlying56, a72 := Try.isAgg56, z72 := Try.sizeOf56, v72 := Try.zeroValue56, t75 := Try.underlying59, a75 := Try.isAgg59, z75 := Try.sizeOf59, v75 := Try.zeroValue59, t164 := Try.underlying73, a164 := Try.isAgg73, z164 := Try.sizeOf73, v164 := Try.zeroValue73 }
theorem lay169 : Lays.n169 Try.prog ren := { mixed := by kernel_rfl, f169 := Try.func26.trans (congrArg some (by kernel_rfl)), t0 := Try.underlying0, a0 := Try.isAgg0, z0 := Try.sizeOf0, v0 := Try.zeroValue0, t3 := Try.underlying3, a3 := Try.isAgg3, z3 := Try.sizeOf3, v3 := Try.zeroValue3, t9 := Try.underlying9, a9 := Try.isAgg9, z9 := Try.sizeOf9, v9 := Try.zeroValue9, t37 := Try.underlying46, a37 := Try.isAgg46, z37 := Try.sizeOf46, v37 := Try.zeroValue46, t70 := Try.underlying54, a70 := Try.isAgg54, z70 := Try.sizeOf54, v70 := Try.zeroValue54, t72 := Try.underlying56, a72 := Try.isAgg56, z72 := Try.sizeOf56, v72 := Try.zeroValue56, t127 := Try.underlying69, a127 := Try.isAgg69, z127 := Try.sizeOf69, v127 := Try.zeroValue69 }
theorem lay316 : LaysM.n316 Try.prog ren := { mixed := by kernel_rfl, f316 := Try.func39.trans (congrArg some (by kernel_rfl)), t0 := Try.underlying0, a0 := Try.isAgg0, z0 := Try.sizeOf0, v0 := Try.zeroValue0, t3 := Try.underlying3, a3 := Try.isAgg3, z3 := Try.sizeOf3, v3 := Try.zeroValue3, t4 := Try.underlying4, a4 := Try.isAgg4, z4 := Try.sizeOf4, v4 := Try.zeroValue4, t9 := Try.underlying9, a9 := Try.isAgg9, z9 := Try.sizeOf9, v9 := Try.zeroValue9, t37 := Try.underlying46, a37 := Try.isAgg46, z37 := Try.sizeOf46, v37 := Try.zeroValue46, t127 := Try.underlying69, a127 := Try.isAgg69, z127 := Try.sizeOf69, v127 := Try.zeroValue69, t5 := Try.underlying5, a5 := Try.isAgg5, z5 := Try.sizeOf5, v5 := Try.zeroValue5, i0 := by kernel_rfl, i3 := by kernel_rfl, i4 := by kernel_rfl, i5 := by kernel_rfl, i9 := by kernel_rfl, i37 := by kernel_rfl, i127 := by kernel_rfl }
theorem lay99 : Lays.n99 Try.prog ren := { mixed := by kernel_rfl, f99 := Try.func28.trans (congrArg some (by kernel_rfl)), f206 := Try.func34.trans (congrArg some (by kernel_rfl)), t3 := Try.underlying3, a3 := Try.isAgg3, z3 := Try.sizeOf3, v3 := Try.zeroValue3, t4 := Try.underlying4, a4 := Try.isAgg4, z4 := Try.sizeOf4, v4 := Try.zeroValue4, t9 := Try.underlying9, a9 := Try.isAgg9, z9 := Try.sizeOf9, v9 := Try.zeroValue9 }
theorem layX : Builder.Extra Try.prog ren := { sizeBuilder := by kernel_rfl, liesBuilder := by kernel_rfl, t5 := Try.underlying5, a5 := Try.isAgg5, z5 := Try.sizeOf5, v5 := Try.zeroValue5, infoByte := by kernel_rfl, cellsByte := by kernel_rfl, sizeByte := by kernel_rfl, neB5 := by decide }

/-- Bytes as cells. -/
def cellsL (l : List Nat) : List Value := l.map fun n : Nat => Value.int .u8 (n : Int)
theorem cellsL_len (l : List Nat) : (cellsL l).length = l.length := by simp [cellsL]
theorem cellsL_append (l m : List Nat) : cellsL (l ++ m) = cellsL l ++ cellsL m := by simp [cellsL]
theorem cellsL_bytes {l : List Nat} (h : Bytes l) : Lib.byteCells (l.map fun n => UInt8.ofNat n) = cellsL l := by
  unfold Lib.byteCells cellsL
  rw [List.map_map]
  refine List.map_congr_left fun x hx => ?_
  have := h.all x hx
  simp
  omega
theorem cellsL_str {l : List Nat} (h : Bytes l) : Lib.strCells (strOf l) = cellsL l := by
  rw [Lib.strCells_eq, sa_data]
  exact cellsL_bytes h
theorem strOf_mk (l : List Nat) : (⟨(l.map fun n => UInt8.ofNat n).toArray⟩ : ByteArray) = strOf l := str_ext (by rw [sa_data])

/-- A builder of the call's own that holds these bytes. -/
def Bld (B b : Nat) (l : List Nat) (w : World) : Prop := Lib.IsBuilder 56 5 B b (cellsL l) w
theorem bld_new (w : World) (B : Nat) (h : B ≤ w.heap.size) : Bld B w.heap.size [] (w.alloc (.cells #[.pointer none, .slice none 0 0] 56)) :=
  .inl ⟨h, .slice none 0 0, heap_alloc_new w _, World.ownsRow_nil _ _ _ _, by simp [Value.ownBlock]⟩
theorem bGrow {B n : Nat} (w : World) (hB : B ≤ w.heap.size) (hn : n ≤ 281474976710656) :
    Calls Try.prog 23 #[.pointer (some ⟨w.heap.size, 0, none⟩), .int .i64 (n : Int)] (w.alloc (.cells #[.pointer none, .slice none 0 0] 56)) fun e w' => e = .returned (.tuple #[]) ∧ Bld B w.heap.size [] w' ∧ Below B w w' := by
  refine (Any.Builder_Grow_fresh lay165 layX B w.heap.size n _ hB (heap_alloc_new w _) (by simp; omega) hn).mono ?_
  rintro e w' ⟨rfl, h1, h2⟩
  exact ⟨rfl, .inr h1, ((Below.refl B w).alloc hB _).trans h2⟩
theorem bByte {B b c : Nat} {l : List Nat} {w : World} (h : Bld B b l w) (hl : l.length + 1 ≤ 140737488355328) (hB : B ≤ w.heap.size) :
    Calls Try.prog 24 #[.pointer (some ⟨b, 0, none⟩), .int .u8 (c : Int)] w fun e w' => e = .returned .nilIface ∧ Bld B b (l ++ [c]) w' ∧ Below B w w' := by
  refine (Any.Builder_WriteByte lay167 layX B b (cellsL l) (c : Int) w h (by rw [cellsL_len]; exact hl) hB).mono ?_
  rintro e w' ⟨rfl, h1, h2⟩
  exact ⟨rfl, by unfold Bld; rw [cellsL_append]; exact .inr h1, h2⟩
theorem bStr {B b : Nat} {l m : List Nat} {w : World} (h : Bld B b l w) (hm : Bytes m) (hl : l.length + m.length ≤ 140737488355328) (hB : B ≤ w.heap.size) :
    Calls Try.prog 25 #[.pointer (some ⟨b, 0, none⟩), .string (strOf m)] w fun e w' => (∃ n, e = .returned (.tuple #[n, .nilIface])) ∧ Bld B b (l ++ m) w' ∧ Below B w w' := by
  refine (Any.Builder_WriteString lay166 layX B b (cellsL l) (strOf m) w h (by rw [cellsL_len, strOf_size]; exact hl) hB).mono ?_
  rintro e w' ⟨rfl, h1, h2⟩
  exact ⟨⟨_, rfl⟩, by unfold Bld; rw [cellsL_append, ← cellsL_str hm]; exact .inr h1, h2⟩
theorem bString {B b : Nat} {l : List Nat} {w : World} (h : Bld B b l w) (hl : Bytes l) (hB : B ≤ w.heap.size) :
    Calls Try.prog 26 #[.pointer (some ⟨b, 0, none⟩)] w fun e w' => e = .returned (.string (strOf l)) ∧ Below B w w' := by
  refine (Any.Builder_String_any lay169 layX B b (l.map fun n => UInt8.ofNat n) w (by rw [cellsL_bytes hl]; exact h) hB).mono ?_
  rintro e w' ⟨rfl, h1⟩
  exact ⟨by rw [strOf_mk], h1⟩
theorem sClone (l : List Nat) (w : World) (hl : l.length ≤ 281474976710656) :
    Calls Try.prog 39 #[.string (strOf l)] w fun e w' => e = .returned (.string (strOf l)) ∧ Below w.heap.size w w' :=
  Any.stringslite_Clone lay316 (strOf l) w (by rw [strOf_size]; exact hl)
theorem sHas (l m : List Nat) (w : World) :
    Calls Try.prog 28 #[.string (strOf l), .string (strOf m)] w fun e w' => e = .returned (.bool ((m.map fun n => UInt8.ofNat n).isPrefixOf (l.map fun n => UInt8.ofNat n))) ∧ w' = w := by
  have h := Any.strings_HasPrefix lay99 (strOf l) (strOf m) w
  rw [sa_data, sa_data] at h
  exact h
end Go.Proofs.Ytfkpbmkhkhnehaa.sh
