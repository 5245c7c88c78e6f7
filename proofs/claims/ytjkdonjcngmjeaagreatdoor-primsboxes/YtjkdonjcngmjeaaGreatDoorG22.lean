/-
  General pieces, joined: BL SE CA CB CC.
-/
import Derived.Test.YtjkdonjcngmjeaaGreatDoorG21
import Derived.Shelf.Strings.Builder1
import Derived.Shelf.Strings.Builder2
import Derived.Shelf.Strconv.Clone
import Derived.Shelf.Strings.Prefix
import Derived.Shelf.LaysM
import Derived.SliceStrings
import Derived.ProofKit
import Derived.LaidMore
import Derived.OpenShut
import Derived.ChangeOld
/-
  The library's builder, its Clone and its HasPrefix in this program: the shelf's contracts, over one table of numbers.
-/
namespace Go.Proofs.YtjkdonjcngmjeaaGreatDoor.sh
open Go Go.RowKit Go.Shelf
set_option linter.unusedVariables false
set_option linter.unusedSimpArgs false

def ren : Ren := { f := fun n => if n = 165 then 98 else if n = 166 then 100 else if n = 167 then 99 else if n = 169 then 101 else if n = 240 then 126 else if n = 241 then 127 else if n = 276 then 139 else if n = 277 then 140 else if n = 316 then 144 else if n = 99 then 104 else if n = 206 then 130 else if n = 103 then 66 else if n = 210 then 103 else if n = 231 then 105 else if n = 105 then 102 else if n = 170 then 129 else if n = 212 then 128 else if n = 263 then 141 else if n = 264 then 137 else n, t := fun n => if n = 70 then 155 else if n = 3 then 3 else if n = 0 then 0 else if n = 4 then 4 else if n = 9 then 9 else if n = 20 then 20 else if n = 72 then 157 else if n = 37 then 34 else if n = 164 then 205 else if n = 5 then 5 else if n = 75 then 160 else if n = 80 then 164 else if n = 127 then 193 else if n = 24 then 37 else if n = 46 then 96 else if n = 51 then 72 else if n = 53 then 22 else if n = 76 then 162 else if n = 109 then 194 else if n = 146 then 208 else if n = 148 then 179 else n, g := fun n => n }
theorem lay165 : Lays.n165 Tryz.prog ren := { mixed := by kernel_rfl, f165 := Tryz.func98.trans (congrArg some (by kernel_rfl)), f240 := Tryz.func126.trans (congrArg some (by kernel_rfl)), f241 := Tryz.func127.trans (congrArg some (by kernel_rfl)), f276 := Tryz.func139.trans (congrArg some (by kernel_rfl)), f277 := Tryz.func140.trans (congrArg some (by kernel_rfl)), t0 := Tryz.underlying0, a0 := Tryz.isAgg0, z0 := Tryz.sizeOf0, v0 := Tryz.zeroValue0, t3 := Tryz.underlying3, a3 := Tryz.isAgg3, z3 := Tryz.sizeOf3, v3 := Tryz.zeroValue3, t4 := Tryz.underlying4, a4 := Tryz.isAgg4, z4 := Tryz.sizeOf4, v4 := Tryz.zeroValue4, t9 := Tryz.underlying9, a9 := Tryz.isAgg9, z9 := Tryz.sizeOf9, v9 := Tryz.zeroValue9, t20 := Tryz.underlying20, a20 := Tryz.isAgg20, z20 := Tryz.sizeOf20, v20 := Tryz.zeroValue20, t37 := Tryz.underlying34, a37 := Tryz.isAgg34, z37 := Tryz.sizeOf34, v37 := Tryz.zeroValue34, t70 := Tryz.underlying155, a70 := Tryz.isAgg155, z70 := Tryz.sizeOf155, v70 := Tryz.zeroValue155, t72 := Tryz.underlying157, a72 := Tryz.isAgg157, z72 := Tryz.sizeOf157, v72 := Tryz.zeroValue157, t164 := Tryz.underlying205, a164 := Tryz.isAgg205, z164 := Tryz.sizeOf205, v164 := Tryz.zeroValue205 }
theorem lay166 : Lays.n166 Tryz.prog ren := { mixed := by kernel_rfl, f166 := Tryz.func100.trans (congrArg some (by kernel_rfl)), f240 := Tryz.func126.trans (congrArg some (by kernel_rfl)), f276 := Tryz.func139.trans (congrArg some (by kernel_rfl)), t0 := Tryz.underlying0, a0 := Tryz.isAgg0, z0 := Tryz.sizeOf0, v0 := Tryz.zeroValue0, t3 := Tryz.underlying3, a3 := Tryz.isAgg3, z3 := Tryz.sizeOf3, v3 := Tryz.zeroValue3, t4 := Tryz.underlying4, a4 := Tryz.isAgg4, z4 := Tryz.sizeOf4, v4 := Tryz.zeroValue4, t9 := Tryz.underlying9, a9 := Tryz.isAgg9, z9 := Tryz.sizeOf9, v9 := Tryz.zeroValue9, t20 := Tryz.underlying20, a20 := Tryz.isAgg20, z20 := Tryz.sizeOf20, v20 := Tryz.zeroValue20, t37 := Tryz.underlying34, a37 := Tryz.isAgg34, z37 := Tryz.sizeOf34, v37 := Tryz.zeroValue34, t70 := Tryz.underlying155, a70 := Tryz.isAgg155, z70 := Tryz.sizeOf155, v70 := Tryz.zeroValue155, t72 := Tryz.underlying157, a72 := Tryz.isAgg157, z72 := Tryz.sizeOf157, v72 := Tryz.zeroValue157, t75 := Tryz.underlying160, a75 := Tryz.isAgg160, z75 := Tryz.sizeOf160, v75 := Tryz.zeroValue160, t164 := Tryz.underlying205, a164 := Tryz.isAgg205, z164 := Tryz.sizeOf205, v164 := Tryz.zeroValue205 }
theorem lay167 : Lays.n167 Tryz.prog ren := { mixed := by kernel_rfl, f167 := Tryz.func99.trans (congrArg some (by kernel_rfl)), f240 := Tryz.func126.trans (congrArg some (by kernel_rfl)), f276 := Tryz.func139.trans (congrArg some (by kernel_rfl)), t0 := Tryz.underlying0, a0 := Tryz.isAgg0, z0 := Tryz.sizeOf0, v0 := Tryz.zeroValue0, t4 := Tryz.underlying4, a4 := Tryz.isAgg4, z4 := Tryz.sizeOf4, v4 := Tryz.zeroValue4, t5 := Tryz.underlying5, a5 := Tryz.isAgg5, z5 := Tryz.sizeOf5, v5 := Tryz.zeroValue5, t9 := Tryz.underlying9, a9 := Tryz.isAgg9, z9 := Tryz.sizeOf9, v9 := Tryz.zeroValue9, t20 := Tryz.underlying20, a20 := Tryz.isAgg20, z20 := Tryz.sizeOf20, v20 := Tryz.zeroValue20, t37 := Tryz.underlying34, a37 := Tryz.isAgg34, z37 := Tryz.sizeOf34, v37 := Tryz.zeroValue34, t70 := Tryz.underlying155, a70 := Tryz.isAgg155, z70 := Tryz.sizeOf155, v70 := Tryz.zeroValue155, t72 := Tryz.underlying157, a72 := Tryz.isAgg157, z72 := Tryz.sizeOf157, v72 := Tryz.zeroValue157, t75 := Tryz.underlying160, a75 := Tryz.isAgg160, z75 := Tryz.sizeOf160, v75 := Tryz.zeroValue160, t164 := Tryz.underlying205, a164 := Tryz.isAgg205, z164 := Tryz.sizeOf205, v164 := Tryz.zeroValue205 }
theorem lay169 : Lays.n169 Tryz.prog ren := { mixed := by kernel_rfl, f169 := Tryz.func101.trans (congrArg some (by kernel_rfl)), t0 := Tryz.underlying0, a0 := Tryz.isAgg0, z0 := Tryz.sizeOf0, v0 := Tryz.zeroValue0, t3 := Tryz.underlying3, a3 := Tryz.isAgg3, z3 := Tryz.sizeOf3, v3 := Tryz.zeroValue3, t9 := Tryz.underlying9, a9 := Tryz.isAgg9, z9 := Tryz.sizeOf9, v9 := Tryz.zeroValue9, t37 := Tryz.underlying34, a37 := Tryz.isAgg34, z37 := Tryz.sizeOf34, v37 := Tryz.zeroValue34, t70 := Tryz.underlying155, a70 := Tryz.isAgg155, z70 := Tryz.sizeOf155, v70 := Tryz.zeroValue155, t72 := Tryz.underlying157, a72 := Tryz.isAgg157, z72 := Tryz.sizeOf157, v72 := Tryz.zeroValue157, t127 := Tryz.underlying193, a127 := Tryz.isAgg193, z127 := Tryz.sizeOf193, v127 := Tryz.zeroValue193 }
theorem lay316 : LaysM.n316 Tryz.prog ren := { mixed := by kernel_rfl, f316 := Tryz.func144.trans (congrArg some (by kernel_rfl)), t0 := Tryz.underlying0, a0 := Tryz.isAgg0, z0 := Tryz.sizeOf0, v0 := Tryz.zeroValue0, t3 := Tryz.underlying3, a3 := Tryz.isAgg3, z3 := Tryz.sizeOf3, v3 := Tryz.zeroValue3, t4 := Tryz.underlying4, a4 := Tryz.isAgg4, z4 := Tryz.sizeOf4, v4 := Tryz.zeroValue4, t9 := Tryz.underlying9, a9 := Tryz.isAgg9, z9 := Tryz.sizeOf9, v9 := Tryz.zeroValue9, t37 := Tryz.underlying34, a37 := Tryz.isAgg34, z37 := Tryz.sizeOf34, v37 := Tryz.zeroValue34, t127 := Tryz.underlying193, a127 := Tryz.isAgg193, z127 := Tryz.sizeOf193, v127 := Tryz.zeroValue193, t5 := Tryz.underlying5, a5 := Tryz.isAgg5, z5 := Tryz.sizeOf5, v5 := Tryz.zeroValue5, i0 := by kernel_rfl, i3 := by kernel_rfl, i4 := by kernel_rfl, i5 := by kernel_rfl, i9 := by kernel_rfl, i37 := by kernel_rfl, i127 := by kernel_rfl }
theorem lay99 : Lays.n99 Tryz.prog ren := { mixed := by kernel_rfl, f99 := Tryz.func104.trans (congrArg some (by kernel_rfl)), f206 := Tryz.func130.trans (congrArg some (by kernel_rfl)), t3 := Tryz.underlying3, a3 := Tryz.isAgg3, z3 := Tryz.sizeOf3, v3 := Tryz.zeroValue3, t4 := Tryz.underlying4, a4 := Tryz.isAgg4, z4 := Tryz.sizeOf4, v4 := Tryz.zeroValue4, t9 := Tryz.underlying9, a9 := Tryz.isAgg9, z9 := Tryz.sizeOf9, v9 := Tryz.zeroValue9 }
theorem layX : Builder.Extra Tryz.prog ren := { sizeBuilder := by kernel_rfl, liesBuilder := by kernel_rfl, t5 := Tryz.underlying5, a5 := Tryz.isAgg5, z5 := Tryz.sizeOf5, v5 := Tryz.zeroValue5, infoByte := by kernel_rfl, cellsByte := by kernel_rfl, sizeByte := by kernel_rfl, neB5 := by decide }

/-- Bytes as cells. -/
def cellsL (l : List Nat) : List Value := l.map fun n : Nat => Value.int .u8 (n : Int)
theorem cellsL_len (l : List Nat) : (cellsL l).length = l.length := by simp [cellsL]
theorem cellsL_append (l m : List Nat) : cellsL (l ++ m) = cellsL l ++ cellsL m := by simp [cellsL]
theorem cellsL_bytes {l : List Nat} (h : Bytes l) : Lib.byteCells (l.map fun n => UInt8.ofNat n) = cellsL l := by
  unfold Lib.byteCells cellsL
  rw [List.map_map]
  refine List.map_congr_left fun x hx => ?_
  have := h.all x hx
  simp
  omega
theorem cellsL_str {l : List Nat} (h : Bytes l) : Lib.strCells (strOf l) = cellsL l := by
  rw [Lib.strCells_eq, sa_data]
  exact cellsL_bytes h
theorem strOf_mk (l : List Nat) : (⟨(l.map fun n => UInt8.ofNat n).toArray⟩ : ByteArray) = strOf l := str_ext (by rw [sa_data])

/-- A builder of the call's own that holds these bytes. -/
def Bld (B b : Nat) (l : List Nat) (w : World) : Prop := Lib.IsBuilder 157 5 B b (cellsL l) w
theorem bGrow {B n : Nat} (w : World) (hB : B ≤ w.heap.size) (hn : n ≤ 281474976710656) :
    Calls Tryz.prog 98 #[.pointer (some ⟨w.heap.size, 0, none⟩), .int .i64 (n : Int)] (w.alloc (.cells #[.pointer none, .slice none 0 0] 157)) fun e w' => e = .returned (.tuple #[]) ∧ Bld B w.heap.size [] w' ∧ Below B w w' := by
  refine (Any.Builder_Grow_fresh lay165 layX B w.heap.size n _ hB (heap_alloc_new w _) (by simp; omega) hn).mono ?_
  rintro e w' ⟨rfl, h1, h2⟩
  exact ⟨rfl, .inr h1, ((Below.refl B w).alloc hB _).trans h2⟩
theorem bByte {B b c : Nat} {l : List Nat} {w : World} (h : Bld B b l w) (hl : l.length + 1 ≤ 140737488355328) (hB : B ≤ w.heap.size) :
    Calls Tryz.prog 99 #[.pointer (some ⟨b, 0, none⟩), .int .u8 (c : Int)] w fun e w' => e = .returned .nilIface ∧ Bld B b (l ++ [c]) w' ∧ Below B w w' := by
  refine (Any.Builder_WriteByte lay167 layX B b (cellsL l) (c : Int) w h (by rw [cellsL_len]; exact hl) hB).mono ?_
  rintro e w' ⟨rfl, h1, h2⟩
  exact ⟨rfl, by unfold Bld; rw [cellsL_append]; exact .inr h1, h2⟩
theorem bStr {B b : Nat} {l m : List Nat} {w : World} (h : Bld B b l w) (hm : Bytes m) (hl : l.length + m.length ≤ 140737488355328) (hB : B ≤ w.heap.size) :
    Calls Tryz.prog 100 #[.pointer (some ⟨b, 0, none⟩), .string (strOf m)] w fun e w' => (∃ n, e = .returned (.tuple #[n, .nilIface])) ∧ Bld B b (l ++ m) w' ∧ Below B w w' := by
  refine (Any.Builder_WriteString lay166 layX B b (cellsL l) (strOf m) w h (by rw [cellsL_len, strOf_size]; exact hl) hB).mono ?_
  rintro e w' ⟨rfl, h1, h2⟩
  exact ⟨⟨_, rfl⟩, by unfold Bld; rw [cellsL_append, ← cellsL_str hm]; exact .inr h1, h2⟩
theorem bString {B b : Nat} {l : List Nat} {w : World} (h : Bld B b l w) (hl : Bytes l) (hB : B ≤ w.heap.size) :
    Calls Tryz.prog 101 #[.pointer (some ⟨b, 0, none⟩)] w fun e w' => e = .returned (.string (strOf l)) ∧ Below B w w' := by
  refine (Any.Builder_String_any lay169 layX B b (l.map fun n => UInt8.ofNat n) w (by rw [cellsL_bytes hl]; exact h) hB).mono ?_
  rintro e w' ⟨rfl, h1⟩
  exact ⟨by rw [strOf_mk], h1⟩
theorem sClone (l : List Nat) (w : World) (hl : l.length ≤ 281474976710656) :
    Calls Tryz.prog 144 #[.string (strOf l)] w fun e w' => e = .returned (.string (strOf l)) ∧ Below w.heap.size w w' :=
  Any.stringslite_Clone lay316 (strOf l) w (by rw [strOf_size]; exact hl)
theorem sHas (l m : List Nat) (w : World) :
    Calls Tryz.prog 104 #[.string (strOf l), .string (strOf m)] w fun e w' => e = .returned (.bool ((m.map fun n => UInt8.ofNat n).isPrefixOf (l.map fun n => UInt8.ofNat n))) ∧ w' = w := by
  have h := Any.strings_HasPrefix lay99 (strOf l) (strOf m) w
  rw [sa_data, sa_data] at h
  exact h
end Go.Proofs.YtjkdonjcngmjeaaGreatDoor.sh
/-
  Arguments that are strings, and slices of strings.
-/
namespace Go.Proofs.YtjkdonjcngmjeaaGreatDoor.sh
open Go Go.ChangeShapes Go.WideShapes Go.ChangeAt Go.RowKit
set_option linter.unusedVariables false
set_option linter.unusedSimpArgs false

end Go.Proofs.YtjkdonjcngmjeaaGreatDoor.sh
/-
  Texts of texts in one form, as lists of bytes: joined, cut; numbers, the highest byte first.
-/
namespace Go.Proofs.YtjkdonjcngmjeaaGreatDoor.sh
open Go Go.RowKit
set_option linter.unusedVariables false
set_option linter.unusedSimpArgs false

/-- A text, with how many bytes it has ahead of it. -/
def itemL (l : List Nat) : List Nat := l.length / 256 :: l.length % 256 :: l
def itemsL (ll : List (List Nat)) : List Nat := (ll.map itemL).flatten
def joinL (kind : Nat) (ll : List (List Nat)) : List Nat := 1 :: kind :: ll.length :: itemsL ll
def Fits (ll : List (List Nat)) : Prop := ll.length ≤ 255 ∧ (∀ l ∈ ll, l.length ≤ 4000) ∧ (itemsL ll).length ≤ 29997
theorem itemL_len (l : List Nat) : (itemL l).length = l.length + 2 := rfl
theorem itemsL_cons (l : List Nat) (ll : List (List Nat)) : itemsL (l :: ll) = itemL l ++ itemsL ll := by simp [itemsL]
theorem itemsL_append (ll mm : List (List Nat)) : itemsL (ll ++ mm) = itemsL ll ++ itemsL mm := by simp [itemsL]
theorem itemsL_snoc (ll : List (List Nat)) (l : List Nat) : itemsL (ll ++ [l]) = itemsL ll ++ itemL l := by simp [itemsL]
theorem itemL_bytes {l : List Nat} (h : Bytes l) (hl : l.length < 65536) : Bytes (itemL l) := bytes_of_all (fun x hx => by
  rcases List.mem_cons.1 hx with rfl | hx
  · omega
  rcases List.mem_cons.1 hx with rfl | hx
  · omega
  · exact h.all x hx)
theorem itemsL_bytes : ∀ {ll : List (List Nat)}, (∀ l ∈ ll, Bytes l ∧ l.length < 65536) → Bytes (itemsL ll)
  | [], _ => nil_bytes
  | l :: ll, h => by
    rw [itemsL_cons]
    exact (itemL_bytes (h l List.mem_cons_self).1 (h l List.mem_cons_self).2).append (itemsL_bytes fun x hx => h x (List.mem_cons_of_mem _ hx))
theorem joinL_len (kind : Nat) (ll : List (List Nat)) : (joinL kind ll).length = (itemsL ll).length + 3 := rfl
theorem itemsL_len : ∀ ll : List (List Nat), (itemsL ll).length = (ll.map fun l => l.length + 2).sum
  | [] => rfl
  | l :: ll => by rw [itemsL_cons, List.length_append, itemL_len, itemsL_len ll]; rfl
theorem joinL_bytes {kind : Nat} {ll : List (List Nat)} (hk : kind < 256) (h : ∀ l ∈ ll, Bytes l) (hf : Fits ll) : Bytes (joinL kind ll) := bytes_of_all (fun x hx => by
  rcases List.mem_cons.1 hx with rfl | hx
  · decide
  rcases List.mem_cons.1 hx with rfl | hx
  · exact hk
  rcases List.mem_cons.1 hx with rfl | hx
  · have := hf.1; omega
  · exact (itemsL_bytes fun l hl => ⟨h l hl, by have := hf.2.1 l hl; omega⟩).all x hx)

/-- So many texts, and nothing behind them. -/
def cutL : Nat → List Nat → Option (List (List Nat))
  | 0, s => if s = [] then some [] else none
  | n + 1, a :: b :: r => if r.length < 256 * a + b then none else (cutL n (r.drop (256 * a + b))).map (r.take (256 * a + b) :: ·)
  | _ + 1, _ => none
theorem cutL_items : ∀ ll : List (List Nat), cutL ll.length (itemsL ll) = some ll
  | [] => rfl
  | l :: ll => by
    have hm : 256 * (l.length / 256) + l.length % 256 = l.length := Nat.div_add_mod _ _
    rw [itemsL_cons, List.length_cons]
    show cutL (ll.length + 1) (l.length / 256 :: l.length % 256 :: (l ++ itemsL ll)) = _
    rw [cutL, hm, if_neg (by rw [List.length_append]; omega), List.drop_left, List.take_left, cutL_items ll]
    rfl
theorem cutL_some : ∀ {n : Nat} {s : List Nat} {ll : List (List Nat)}, cutL n s = some ll → Bytes s → ll.length = n ∧ itemsL ll = s ∧ ∀ l ∈ ll, Bytes l
  | 0, s, ll, h, _ => by
    unfold cutL at h
    by_cases hs : s = []
    · rw [if_pos hs] at h
      cases h
      exact ⟨rfl, by rw [hs]; rfl, fun l hl => by cases hl⟩
    · rw [if_neg hs] at h; cases h
  | n + 1, [], ll, h, _ => by simp [cutL] at h
  | n + 1, [a], ll, h, _ => by simp [cutL] at h
  | n + 1, a :: b :: r, ll, h, hy => by
    rw [cutL] at h
    by_cases hm : r.length < 256 * a + b
    · rw [if_pos hm] at h; cases h
    · rw [if_neg hm] at h
      obtain ⟨mm, h1, h2⟩ := Option.map_eq_some_iff.1 h
      subst h2
      have hb : b < 256 := hy 1 b rfl
      have hr : Bytes r := fun i x hx => hy (i + 2) x hx
      obtain ⟨e1, e2, e3⟩ := cutL_some h1 (hr.drop _)
      have hl : (r.take (256 * a + b)).length = 256 * a + b := by rw [List.length_take]; omega
      refine ⟨by rw [List.length_cons, e1], ?_, fun l hl2 => ?_⟩
      · rw [itemsL_cons, e2, itemL, hl, show (256 * a + b) / 256 = a by omega, show (256 * a + b) % 256 = b by omega]
        simp
      · rcases List.mem_cons.1 hl2 with rfl | hl2
        · exact hr.take _
        · exact e3 l hl2
theorem items_one {ll mm : List (List Nat)} (hn : ll.length = mm.length) (h : itemsL ll = itemsL mm) : ll = mm := by
  have h1 := cutL_items ll
  have h2 := cutL_items mm
  rw [hn, h, h2] at h1
  exact (Option.some.inj h1).symm
theorem join_one {k j : Nat} {ll mm : List (List Nat)} (h : joinL k ll = joinL j mm) : k = j ∧ ll = mm := by
  unfold joinL at h
  simp only [List.cons.injEq, true_and] at h
  exact ⟨h.1, items_one h.2.1 h.2.2⟩

/-- What a text of texts says, if it is one. -/
def Says (s : List Nat) (k : Nat) (ll : List (List Nat)) : Prop := s = joinL k ll ∧ Fits ll
theorem says_len {s : List Nat} {k : Nat} {ll : List (List Nat)} (h : Says s k ll) : 3 ≤ s.length ∧ s.length ≤ 30000 := by
  have := h.2.2.2
  rw [h.1, joinL_len]
  omega

/-- A number's bytes, the highest first. -/
def numT (n : Nat) : Nat → List Nat
  | 0 => []
  | k + 1 => if n = 0 then [] else numT (n / 256) k ++ [n % 256]
def numL (n : Nat) : List Nat := numT n 8
def readT (s : List Nat) : Nat := s.foldl (fun a x => a * 256 + x) 0
theorem readT_snoc (s : List Nat) (x : Nat) : readT (s ++ [x]) = readT s * 256 + x := by simp [readT]
theorem numT_zero (k : Nat) : numT 0 k = [] := by cases k <;> simp [numT]
theorem readT_numT : ∀ (k n : Nat), n < 256 ^ k → readT (numT n k) = n
  | 0, n, h => by simp at h; subst h; rfl
  | k + 1, n, h => by
    unfold numT
    by_cases h0 : n = 0
    · rw [if_pos h0, h0]; rfl
    · rw [if_neg h0, readT_snoc, readT_numT k (n / 256) (by rw [Nat.pow_succ] at h; omega)]
      omega
theorem numT_len : ∀ (k n : Nat), (numT n k).length ≤ k
  | 0, _ => Nat.le_refl _
  | k + 1, n => by
    unfold numT
    split
    · exact Nat.zero_le _
    · rw [List.length_append]; have := numT_len k (n / 256); simp; omega
theorem numT_bytes : ∀ (k n : Nat), Bytes (numT n k)
  | 0, _ => nil_bytes
  | k + 1, n => by
    unfold numT
    split
    · exact nil_bytes
    · exact (numT_bytes k _).append (bytes_of_all (fun x hx => by simp at hx; omega))
theorem numT_more : ∀ (k m n : Nat), n < 256 ^ k → numT n (k + m) = numT n k
  | 0, m, n, h => by simp at h; subst h; rw [numT_zero, numT_zero]
  | k + 1, m, n, h => by
    rw [show k + 1 + m = (k + m) + 1 by omega]
    unfold numT
    by_cases h0 : n = 0
    · rw [if_pos h0, if_pos h0]
    · rw [if_neg h0, if_neg h0, numT_more k m (n / 256) (by rw [Nat.pow_succ] at h; omega)]
/-- Bytes without bytes 0 ahead are those of their number. -/
theorem numT_readN : ∀ (n : Nat) (s : List Nat), s.length = n → Bytes s → s.head? ≠ some 0 → numT (readT s) n = s
  | 0, s, hn, _, _ => by
    have : s = [] := List.eq_nil_of_length_eq_zero hn
    subst this
    rfl
  | n + 1, s', hn, hy, h0 => by
    have hne : s' ≠ [] := by intro e; rw [e] at hn; cases hn
    obtain ⟨s, x, rfl⟩ : ∃ s x, s' = s ++ [x] := ⟨_, _, (List.dropLast_concat_getLast hne).symm⟩
    have hsn : s.length = n := by rw [List.length_append] at hn; simpa using hn
    have hx : x < 256 := hy s.length x (by simp)
    have hs : Bytes s := fun i y hi => hy i y (by rw [List.getElem?_append_left (List.getElem?_eq_some_iff.1 hi).1]; exact hi)
    rw [readT_snoc]
    unfold numT
    cases s with
    | nil =>
      have hx0 : x ≠ 0 := fun e => h0 (by rw [e]; rfl)
      have e1 : readT ([] : List Nat) = 0 := rfl
      rw [e1, if_neg (by omega), show (0 * 256 + x) / 256 = 0 by omega, show (0 * 256 + x) % 256 = x by omega, numT_zero]
    | cons y r =>
      have ih' := numT_readN n (y :: r) hsn hs (fun e => h0 (by simpa using e))
      have hz : readT (y :: r) ≠ 0 := fun e => by
        rw [e, numT_zero] at ih'
        cases ih'
      rw [if_neg (by omega), show (readT (y :: r) * 256 + x) / 256 = readT (y :: r) by omega, show (readT (y :: r) * 256 + x) % 256 = x by omega, ih']
theorem readT_lt : ∀ (n : Nat) (s : List Nat), s.length = n → Bytes s → readT s < 256 ^ n
  | 0, s, hn, _ => by
    have : s = [] := List.eq_nil_of_length_eq_zero hn
    subst this
    decide
  | n + 1, s', hn, hy => by
    have hne : s' ≠ [] := by intro e; rw [e] at hn; cases hn
    obtain ⟨s, x, rfl⟩ : ∃ s x, s' = s ++ [x] := ⟨_, _, (List.dropLast_concat_getLast hne).symm⟩
    have hsn : s.length = n := by rw [List.length_append] at hn; simpa using hn
    have hx : x < 256 := hy s.length x (by simp)
    have hs : Bytes s := fun i y hi => hy i y (by rw [List.getElem?_append_left (List.getElem?_eq_some_iff.1 hi).1]; exact hi)
    have := readT_lt n s hsn hs
    rw [readT_snoc, Nat.pow_succ]
    omega
theorem numL_read (n : Nat) (h : n < 18446744073709551616) : readT (numL n) = n := readT_numT 8 n h
theorem numL_len (n : Nat) : (numL n).length ≤ 8 := numT_len 8 n
theorem numL_bytes (n : Nat) : Bytes (numL n) := numT_bytes 8 n
theorem numT_head : ∀ (k n : Nat), n < 256 ^ k → (numT n k).head? ≠ some 0
  | 0, _, _ => by simp [numT]
  | k + 1, n, h => by
    have hd : n / 256 < 256 ^ k := by rw [Nat.pow_succ] at h; omega
    unfold numT
    by_cases h0 : n = 0
    · rw [if_pos h0]; simp
    · rw [if_neg h0]
      have ih := numT_head k (n / 256) hd
      have hr := readT_numT k (n / 256) hd
      cases hq : numT (n / 256) k with
      | nil =>
        rw [hq] at hr
        have hr0 : 0 = n / 256 := hr
        rw [List.nil_append]
        intro e
        simp at e
        omega
      | cons y r => rw [hq] at ih; simpa using ih
theorem numL_head (n : Nat) (h : n < 18446744073709551616) : (numL n).head? ≠ some 0 := numT_head 8 n h
/-- Bytes are those of a number just if there are at most eight, and no byte 0 ahead. -/
theorem numL_of (s : List Nat) (hy : Bytes s) (hl : s.length ≤ 8) (h0 : s.head? ≠ some 0) : numL (readT s) = s := by
  have h1 := numT_readN s.length s rfl hy h0
  have h2 := numT_more s.length (8 - s.length) (readT s) (readT_lt s.length s rfl hy)
  rw [show s.length + (8 - s.length) = 8 by omega] at h2
  unfold numL
  rw [h2, h1]
theorem lessL_irrefl : ∀ l : List Nat, lessL l l = false
  | [] => rfl
  | x :: l => by simp [lessL, lessL_irrefl l]
end Go.Proofs.YtjkdonjcngmjeaaGreatDoor.sh
/-
  Texts of texts: cut one after another; a byte more or fewer is none; what is split is what is said.
-/
namespace Go.Proofs.YtjkdonjcngmjeaaGreatDoor.sh
open Go Go.RowKit
set_option linter.unusedVariables false
set_option linter.unusedSimpArgs false

theorem item_prefix {l m r q : List Nat} (h : itemL l ++ r = itemL m ++ q) : l = m ∧ r = q := by
  simp only [itemL, List.cons_append, List.cons.injEq] at h
  obtain ⟨h1, h2, h3⟩ := h
  have hl : l.length = m.length := by omega
  exact List.append_inj h3 hl
theorem items_prefix : ∀ {ll mm : List (List Nat)} {r q : List Nat}, ll.length = mm.length → itemsL ll ++ r = itemsL mm ++ q → ll = mm ∧ r = q
  | [], [], r, q, _, h => ⟨rfl, by simpa [itemsL] using h⟩
  | [], m :: mm, r, q, hn, _ => by simp at hn
  | l :: ll, [], r, q, hn, _ => by simp at hn
  | l :: ll, m :: mm, r, q, hn, h => by
    rw [itemsL_cons, itemsL_cons, List.append_assoc, List.append_assoc] at h
    obtain ⟨h1, h2⟩ := item_prefix h
    obtain ⟨h3, h4⟩ := items_prefix (by simpa using hn) h2
    exact ⟨by rw [h1, h3], h4⟩
/-- Texts that were cut, and what lies behind them: the next one. -/
theorem cut_next {done ll : List (List Nat)} {rest q : List Nat} (h : itemsL ll ++ q = itemsL done ++ rest) (hn : done.length < ll.length) : ∃ l more, ll = done ++ l :: more ∧ rest = itemL l ++ (itemsL more ++ q) := by
  have h1 : itemsL (ll.take done.length) ++ (itemsL (ll.drop done.length) ++ q) = itemsL done ++ rest := by
    rw [← List.append_assoc, ← itemsL_append, List.take_append_drop]
    exact h
  obtain ⟨h2, h3⟩ := items_prefix (by rw [List.length_take]; omega) h1
  cases hd : ll.drop done.length with
  | nil =>
    have := congrArg List.length hd
    simp at this
    omega
  | cons l more =>
    refine ⟨l, more, ?_, ?_⟩
    · rw [← hd]
      conv => lhs; rw [← List.take_append_drop done.length ll, h2]
    · rw [← h3, hd, itemsL_cons, List.append_assoc]
theorem cut_stuck {done ll : List (List Nat)} {rest q : List Nat} (h : itemsL ll ++ q = itemsL done ++ rest) (hn : done.length < ll.length) : ∃ l : List Nat, rest[0]? = some (l.length / 256) ∧ rest[1]? = some (l.length % 256) ∧ l.length + 2 ≤ rest.length ∧ (rest.drop 2).take l.length = l := by
  obtain ⟨l, more, _, h2⟩ := cut_next h hn
  subst h2
  refine ⟨l, rfl, rfl, ?_, ?_⟩
  · rw [List.length_append, itemL_len]; omega
  · simp [itemL]
/-- The next text, as it is cut. -/
theorem cut_step {done : List (List Nat)} {rest : List Nat} {a b n : Nat} (h0 : rest[0]? = some a) (h1 : rest[1]? = some b) (hb : b < 256) (hn : n = 256 * a + b) (hl : n + 2 ≤ rest.length) : itemsL done ++ rest = itemsL (done ++ [(rest.drop 2).take n]) ++ rest.drop (n + 2) := by
  cases rest with
  | nil => cases h0
  | cons x r1 =>
  cases r1 with
  | nil => simp at hl
  | cons y r =>
  simp only [List.getElem?_cons_zero, List.getElem?_cons_succ, Option.some.injEq] at h0 h1
  subst h0 h1
  simp only [List.length_cons] at hl
  have hl2 : (r.take n).length = n := by rw [List.length_take]; omega
  simp only [List.drop_succ_cons, List.drop_zero]
  rw [itemsL_snoc, List.append_assoc]
  unfold itemL
  rw [hl2, hn, show (256 * x + y) / 256 = x by omega, show (256 * x + y) % 256 = y by omega, ← hn]
  simp
instance decFits (ll : List (List Nat)) : Decidable (Fits ll) := inferInstanceAs (Decidable (_ ∧ _ ∧ _))
/-- What a text of texts says. -/
def splitL (s : List Nat) : Option (Nat × List (List Nat)) :=
  if s[0]? = some 1 then
    match s[1]?, s[2]? with
    | some k, some n => match cutL n (s.drop 3) with
      | some ll => if Fits ll then some (k, ll) else none
      | none => none
    | _, _ => none
  else none
theorem splitL_join {k : Nat} {ll : List (List Nat)} (hf : Fits ll) : splitL (joinL k ll) = some (k, ll) := by
  unfold splitL joinL
  simp [cutL_items, hf]
theorem splitL_says {s : List Nat} (hy : Bytes s) {k : Nat} {ll : List (List Nat)} : splitL s = some (k, ll) ↔ Says s k ll := by
  constructor
  · intro h
    unfold splitL at h
    by_cases h0 : s[0]? = some 1
    · rw [if_pos h0] at h
      cases s with
      | nil => cases h0
      | cons a r =>
      cases r with
      | nil => simp at h
      | cons b r =>
      cases r with
      | nil => simp at h
      | cons n r =>
      simp only [List.getElem?_cons_zero, List.getElem?_cons_succ, List.drop_succ_cons, List.drop_zero, Option.some.injEq] at h h0
      cases hc : cutL n r with
      | none => rw [hc] at h; cases h
      | some mm =>
        rw [hc] at h
        simp only at h
        by_cases hf : Fits mm
        · rw [if_pos hf] at h
          cases h
          obtain ⟨e1, e2, _⟩ := cutL_some hc (fun i x hx => hy (i + 3) x hx)
          refine ⟨?_, hf⟩
          unfold joinL
          rw [h0, e1, e2]
        · rw [if_neg hf] at h; cases h
    · rw [if_neg h0] at h; cases h
  · intro h
    rw [h.1]
    exact splitL_join h.2
end Go.Proofs.YtjkdonjcngmjeaaGreatDoor.sh
/-
  How many bytes texts have as one: codec.sizeOf; the statements' few.
-/
namespace Go.Proofs.YtjkdonjcngmjeaaGreatDoor.sh
open Go Go.RowKit
set_option linter.unusedVariables false
set_option linter.unusedSimpArgs false

theorem run_nadd {o : Oper} {a : Act} {x y : Operand} {i j z : Nat} (ho : o.op = .binOp .add 3 x y 3) (hx : a.eval x = .int .i64 (i : Int)) (hy : a.eval y = .int .i64 (j : Int)) (hz : z = i + j) (hi : z < 4611686018427387904) (w : World) : (execOp a.eval o).run Tryz.prog w = .ok (.value (.int .i64 (z : Int))) w := by
  have e : ((i : Int) + (j : Int)) = (z : Int) := by omega
  unfold execOp
  simp only [ho, hx, hy]
  simp [go_sem, IntKind.wrap_i64, e]
  omega
theorem ag_str : ∀ w, (isAgg 9).run Tryz.prog w = .ok false w := Tryz.isAgg9
theorem strs_put {ll : List (List Nat)} {i : Nat} (h : i < ll.length) : ∃ l, ll[i]? = some l ∧ (strs ll)[i]? = some (.string (strOf l)) ∧ l ∈ ll := by
  obtain ⟨l, hl⟩ : ∃ l, ll[i]? = some l := ⟨_, List.getElem?_eq_getElem h⟩
  exact ⟨l, hl, strs_get hl, List.mem_of_getElem? hl⟩
theorem items_take {ll : List (List Nat)} {i : Nat} {l : List Nat} (h : ll[i]? = some l) : itemsL (ll.take (i + 1)) = itemsL (ll.take i) ++ itemL l := by
  rw [List.take_add_one, h, Option.toList_some, itemsL_snoc]
theorem items_small : ∀ (ll : List (List Nat)) (b : Nat), (∀ l ∈ ll, l.length ≤ b) → (itemsL ll).length ≤ ll.length * (b + 2)
  | [], b, _ => by simp [itemsL]
  | l :: ll, b, h => by
    rw [itemsL_cons, List.length_append, itemL_len]
    have h1 := items_small ll b fun x hx => h x (List.mem_cons_of_mem _ hx)
    have h2 := h l List.mem_cons_self
    rw [List.length_cons, Nat.add_mul]
    omega
theorem small_take {ll : List (List Nat)} {i : Nat} {l : List Nat} (h : ll[i]? = some l) (hs : ∀ x ∈ ll.take i, x.length ≤ 4000) (hl : l.length ≤ 4000) : ∀ x ∈ ll.take (i + 1), x.length ≤ 4000 := by
  intro x hx
  rw [List.take_add_one, h, Option.toList_some] at hx
  rcases List.mem_append.1 hx with hx | hx
  · exact hs x hx
  · rw [List.mem_singleton] at hx; subst hx; exact hl
theorem items_takeB {ll : List (List Nat)} {i : Nat} (hi : i ≤ 255) (hs : ∀ x ∈ ll.take i, x.length ≤ 4000) : (itemsL (ll.take i)).length ≤ 1020510 := by
  have h1 := items_small (ll.take i) 4000 hs
  have h2 : (ll.take i).length ≤ 255 := by rw [List.length_take]; omega
  have h3 := Nat.mul_le_mul_right 4002 h2
  omega

set_option maxRecDepth 100000 in
set_option maxHeartbeats 1000000 in
theorem sizeOfD {ll : List (List Nat)} {v : Value} {w : World} (hv : ValsV v w (strs ll)) (hl : ∀ l ∈ ll, l.length ≤ maxLen) :
    Calls Tryz.prog 97 #[v] w fun e w' => (∃ n : Nat, e = .returned (.tuple #[.int .i64 (n : Int), .bool (decide (Fits ll))]) ∧ (Fits ll → n = (itemsL ll).length + 3)) ∧ w' = w := by
  obtain ⟨p, c, rfl, hc⟩ := vals_form hv (strs_len ll)
  obtain ⟨n, hn⟩ : ∃ n, n = ll.length := ⟨_, rfl⟩
  rw [← hn] at hv hc ⊢
  have HN : Kept _ := ⟨hn⟩
  have HV : Kept _ := ⟨hv⟩
  have HL : Kept _ := ⟨hl⟩
  obtain ⟨F, hF⟩ : ∃ F, F = decide (Fits ll) := ⟨_, rfl⟩
  rw [← hF]
  have HF : Kept _ := ⟨hF⟩
  clear hn hv hl hF
  by_cases h255 : 255 < n
  · have h' : (255 : Int) < (n : Int) := by omega
    have hF : ¬ Fits ll := fun h => by have := h.1; have := HN.out; omega
    have HF1 : Kept (F = false) := ⟨by rw [HF.out]; exact decide_eq_false hF⟩
    have HF2 : Kept _ := ⟨hF⟩
    clear hF
    go_enter Tryz.func97, Tryz.ntmps97
    go_wp2_with fail
    go_ret2
    exact ⟨⟨0, congrArg (fun b => Ending.returned (.tuple #[.int .i64 0, .bool b])) HF1.out.symm, fun h => absurd h HF2.out⟩, rfl⟩
  · have h' : ¬ (255 : Int) < (n : Int) := by omega
    go_enter Tryz.func97, Tryz.ntmps97
    go_wp2_with fail
    go_loopg [4, 12] n (fun k s4 s12 wr => ∃ i m : Nat, i + k = n ∧ s12 = .int .i64 (i : Int) ∧ s4 = .int .i64 (m : Int) ∧ Kept (m = (itemsL (ll.take i)).length + 3 ∧ ∀ x ∈ ll.take i, x.length ≤ 4000) ∧ wr = w)
    case atStart => exact ⟨0, 3, by omega, rfl, rfl, ⟨by simp [itemsL], fun x hx => by simp at hx⟩, rfl⟩
    case round =>
      obtain ⟨i, m, hik, rfl, rfl, KM, hwr⟩ := hrel
      obtain rfl := hwr.symm
      by_cases hk0 : gk = 0
      · obtain rfl : n = i := by omega
        have hM : m = (itemsL ll).length + 3 ∧ ∀ x ∈ ll, x.length ≤ 4000 := by
          have := KM.out
          rwa [List.take_of_length_le (by rw [← HN.out]; exact Nat.le_refl _)] at this
        have KB : Kept (F = decide (m ≤ 30000)) := ⟨by
          rw [HF.out]
          refine decide_eq_decide.2 ⟨fun h => ?_, fun h => ⟨?_, hM.2, ?_⟩⟩
          · have := h.2.2; have := hM.1; omega
          · have := HN.out; omega
          · have := hM.1; omega⟩
        have KM2 : Kept _ := ⟨hM.1⟩
        clear hM KM
        go_wp2_with (first | ((with_reducible refine wv_val (d := 27) ?hd ?hw (.bool F) ?hr ?_); (case hd => rfl); (case hw => kernel_rfl); (case hr => intro w; exact run_leqI (n := 30000) rfl (by kernel_rfl) (by kernel_rfl) KB.out w); simp only [Act.put, List.setIfInBounds_toArray, List.set_cons_succ, List.set_cons_zero]))
        go_ret2
        exact ⟨⟨m, rfl, fun _ => KM2.out⟩, rfl⟩
      · have hin : i < n := by omega
        have hin' : (i : Int) < (n : Int) := by omega
        obtain ⟨l, h1, h2, h3⟩ := strs_put (show i < ll.length by rw [← HN.out]; exact hin)
        obtain ⟨A, rfl, hA, hcell⟩ := vals_at HV.out h2
        have KC : Kept _ := ⟨hcell⟩
        obtain ⟨z, hz⟩ : ∃ z, z = l.length := ⟨_, rfl⟩
        have KZ : Kept _ := ⟨hz⟩
        have KL : Kept _ := ⟨h1⟩
        have hm := items_takeB (ll := ll) (i := i) (by omega) KM.out.2
        have hmL := HL.out l h3
        rw [← hz] at hmL
        unfold maxLen at hmL
        clear h1 h2 h3 hcell hz
        by_cases h4 : 4000 < z
        · have h4' : (4000 : Int) < (z : Int) := by omega
          have hF : ¬ Fits ll := fun h => by have := h.2.1 l (List.mem_of_getElem? KL.out); have := KZ.out; omega
          have HF1 : Kept (F = false) := ⟨by rw [HF.out]; exact decide_eq_false hF⟩
          have HF2 : Kept _ := ⟨hF⟩
          clear hF
          go_wp2_with (first | ((with_reducible refine wv_val (d := 14) ?hd ?hw (.pointer (some (A.add i))) ?hr ?_); (case hd => rfl); (case hw => kernel_rfl); (case hr => intro w; exact run_idxS rfl (by kernel_rfl) (by kernel_rfl) Tryz.underlying43 hin Tryz.sizeOf9 w); simp only [Act.put, List.setIfInBounds_toArray, List.set_cons_succ, List.set_cons_zero]) | ((with_reducible refine wv_elem (d := 15) ?hd ?hw 9 ag_str (.tmp 14) ?ho (A.add i) ?hx (.string (strOf l)) ?hc ?_); (case hd => rfl); (case hw => kernel_rfl); (case ho => rfl); (case hx => kernel_rfl); (case hc => exact KC.out); simp only [Act.put, List.setIfInBounds_toArray, List.set_cons_succ, List.set_cons_zero]) | ((with_reducible refine wv_val (d := 17) ?hd ?hw (.int .i64 (z : Int)) ?hr ?_); (case hd => rfl); (case hw => kernel_rfl); (case hr => intro w; exact run_slen rfl (by kernel_rfl) KZ.out w); simp only [Act.put, List.setIfInBounds_toArray, List.set_cons_succ, List.set_cons_zero]))
          go_ret2
          exact ⟨⟨0, congrArg (fun b => Ending.returned (.tuple #[.int .i64 0, .bool b])) HF1.out.symm, fun h => absurd h HF2.out⟩, rfl⟩
        · have h4' : ¬ (4000 : Int) < (z : Int) := by omega
          obtain ⟨z2, hz2⟩ : ∃ z2, z2 = 2 + z := ⟨_, rfl⟩
          obtain ⟨m2, hm2⟩ : ∃ m2, m2 = m + z2 := ⟨_, rfl⟩
          have KZ2 : Kept _ := ⟨hz2⟩
          have KM2 : Kept _ := ⟨hm2⟩
          have hb2 : m2 < 4611686018427387904 := by have := KM.out.1; omega
          have hb3 : z2 < 4611686018427387904 := by omega
          clear hz2 hm2
          go_wp2_with (first | ((with_reducible refine wv_val (d := 14) ?hd ?hw (.pointer (some (A.add i))) ?hr ?_); (case hd => rfl); (case hw => kernel_rfl); (case hr => intro w; exact run_idxS rfl (by kernel_rfl) (by kernel_rfl) Tryz.underlying43 hin Tryz.sizeOf9 w); simp only [Act.put, List.setIfInBounds_toArray, List.set_cons_succ, List.set_cons_zero]) | ((with_reducible refine wv_elem (d := 15) ?hd ?hw 9 ag_str (.tmp 14) ?ho (A.add i) ?hx (.string (strOf l)) ?hc ?_); (case hd => rfl); (case hw => kernel_rfl); (case ho => rfl); (case hx => kernel_rfl); (case hc => exact KC.out); simp only [Act.put, List.setIfInBounds_toArray, List.set_cons_succ, List.set_cons_zero]) | ((with_reducible refine wv_val (d := 17) ?hd ?hw (.int .i64 (z : Int)) ?hr ?_); (case hd => rfl); (case hw => kernel_rfl); (case hr => intro w; exact run_slen rfl (by kernel_rfl) KZ.out w); simp only [Act.put, List.setIfInBounds_toArray, List.set_cons_succ, List.set_cons_zero]) | ((with_reducible refine wv_val (d := 21) ?hd ?hw (.int .i64 (z : Int)) ?hr ?_); (case hd => rfl); (case hw => kernel_rfl); (case hr => intro w; exact run_slen rfl (by kernel_rfl) KZ.out w); simp only [Act.put, List.setIfInBounds_toArray, List.set_cons_succ, List.set_cons_zero]) | ((with_reducible refine wv_val (d := 22) ?hd ?hw (.int .i64 (z2 : Int)) ?hr ?_); (case hd => rfl); (case hw => kernel_rfl); (case hr => intro w; exact run_addC 2 rfl (by kernel_rfl) KZ2.out hb3 w); simp only [Act.put, List.setIfInBounds_toArray, List.set_cons_succ, List.set_cons_zero]) | ((with_reducible refine wv_val (d := 23) ?hd ?hw (.int .i64 (m2 : Int)) ?hr ?_); (case hd => rfl); (case hw => kernel_rfl); (case hr => intro w; exact run_nadd rfl (by kernel_rfl) (by kernel_rfl) KM2.out hb2 w); simp only [Act.put, List.setIfInBounds_toArray, List.set_cons_succ, List.set_cons_zero]))
          go_roundg (gk - 1)
          case measure => omega
          case rel =>
            refine ⟨i + 1, m2, by omega, by simp, rfl, ⟨?_, small_take KL.out KM.out.2 (by have := KZ.out; omega)⟩, rfl⟩
            rw [items_take KL.out, List.length_append, itemL_len, ← KZ.out, KM2.out, KZ2.out, KM.out.1]
            omega

end Go.Proofs.YtjkdonjcngmjeaaGreatDoor.sh
