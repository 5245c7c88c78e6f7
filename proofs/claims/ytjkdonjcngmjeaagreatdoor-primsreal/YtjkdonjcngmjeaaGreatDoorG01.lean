/-
  General pieces, joined: Tail Vals Q SB ST.
-/
import Derived.Deep.Quiet
import Derived.StillTail
import Derived.Tactics
import Derived.WalkKit
import Derived.Laws.BitsAllLaws
import Derived.Laws.Rows
import Derived.Laws.StructEq
import Derived.BigQuiet
import Derived.Test.YtjkdonjcngmjeaaGreatDoorRows
import Derived.WalkSpells
import Derived.WalkLawsBesides
import Derived.Laws.CopyRow
import Derived.Laws.CopyOwn
import Derived.Great.BuildSlice
import Derived.RegionTactic
import Derived.BigRegion
import Derived.Deep.QuietTactic
import Derived.Deep.LoopGhost
import Derived.Below
/-
  A region that draws its order, whose first operations only read, or call what makes memory alone, and whose last ones each wait for all of those: one walk, in the order of the text, serves every order. Conditions: the Bools that are named in it.
-/
namespace Go.Proofs.YtjkdonjcngmjeaaGreatDoor
open Go
set_option linter.unusedVariables false
set_option linter.unusedSimpArgs false

/-- The post of the head: behind it the tail is walked. -/
def headPost (P : Program) (F : Array Oper) (Q : Exit → Act → World → Prop) (t : List Oper) : Exit → Act → World → Prop
  | .normal, a, w => wpList P F Q t a w
  | e, a, w => Q e a w

theorem upon_headPost {P : Program} {F : Array Oper} {Q : Exit → Act → World → Prop} {t : List Oper} {o : Oper} {a : Act} {w : World} {K K' : Act → World → Prop} (hK : ∀ a w, K a w → K' a w)
    (h : o.wp P a w K (headPost P F Q t)) : o.wp P a w K' Q := by
  unfold Oper.wp at *
  generalize (execOp a.eval o).run P w = r at *
  cases r with
  | ok x w' =>
    cases x with
    | value v => exact hK _ _ h
    | skip => exact hK _ _ h
    | defer d => exact hK _ _ h
    | enter f args =>
      refine Calls.mono h ?_
      intro e w'' hr
      cases e with
      | returned v => exact hK _ _ hr
      | panicked c => exact hr
      | outgrown => exact hr
    | row r args => exact Rows.mono h fun v w'' hr => hK _ _ hr
    | _ => exact h
  | halt x w' =>
    cases x <;> exact h

def edgesIn (h : List Oper) : Bool := h.zipIdx.all fun (o, i) => o.after.all fun e => !Region.binds .any e || decide (e.on < i)
def guardsIn (h : List Oper) : Bool := h.all fun o => match o.guard with | none => true | some (j, _) => decide (j < h.length)
def tailWaits (h t : List Oper) : Bool := t.all fun o => (List.range h.length).all fun j => o.after.any fun e => Region.binds .any e && e.on == j

section
variable {P : Program} {Q : Exit → Act → World → Prop} {h t : List Oper}

theorem edge_lt (hb : edgesIn h = true) {i : Nat} {o : Oper} (ho : h[i]? = some o) {e : Edge} (he : e ∈ o.after) (hbind : Region.binds .any e = true) : e.on < i := by
  have hm : (o, i) ∈ h.zipIdx := by rw [List.mem_zipIdx_iff_getElem?]; exact ho
  have h1 := List.all_eq_true.1 hb _ hm
  have h2 := Array.all_eq_true_iff_forall_mem.1 h1 e he
  simpa [hbind] using h2

theorem wanted_head (hg : guardsIn h = true) {o : Oper} (ho : o ∈ h) (tmps : Array Value) : Region.wanted o (yielded (h ++ t).toArray tmps) = Region.wanted o (yielded h.toArray tmps) := by
  have h1 := List.all_eq_true.1 hg _ ho
  unfold Region.wanted
  cases hq : o.guard with
  | none => rfl
  | some jb =>
    obtain ⟨j, b⟩ := jb
    rw [hq] at h1
    have hj : j < h.length := by simpa using h1
    have e : (h ++ t).toArray[j]? = h.toArray[j]? := by simp [List.getElem?_append_left hj]
    simp only [yielded, e]

theorem getD_app {listed : Array Bool} {m j : Nat} (d : Bool) (hj : j < listed.size) : (listed ++ Array.replicate m false).getD j d = listed.getD j d := by
  simp [Array.getElem?_append_left hj]

theorem set_app {listed : Array Bool} {m i : Nat} (hi : i < listed.size) : (listed ++ Array.replicate m false).setIfInBounds i true = listed.setIfInBounds i true ++ Array.replicate m false := by
  apply Array.ext_getElem?
  intro k
  by_cases hk : k < listed.size
  · have e1 : (listed ++ Array.replicate m false)[k]? = listed[k]? := Array.getElem?_append_left hk
    have e2 : (listed.setIfInBounds i true ++ Array.replicate m false)[k]? = (listed.setIfInBounds i true)[k]? := Array.getElem?_append_left (by simpa using hk)
    rw [e2, Array.getElem?_setIfInBounds, Array.getElem?_setIfInBounds, e1]
    by_cases hik : i = k
    · subst hik
      rw [if_pos rfl, if_pos rfl, if_pos hk, if_pos (by simp; omega)]
    · rw [if_neg hik, if_neg hik]
  · have e1 : (listed ++ Array.replicate m false)[k]? = (Array.replicate m false)[k - listed.size]? := Array.getElem?_append_right (by omega)
    have e2 : (listed.setIfInBounds i true ++ Array.replicate m false)[k]? = (Array.replicate m false)[k - listed.size]? := by
      rw [Array.getElem?_append_right (by simp; omega)]
      simp
    rw [e2, Array.getElem?_setIfInBounds, if_neg (by omega), e1]

/-- How many are not listed yet. -/
def open_ (listed : Array Bool) : Nat := listed.toList.count false

theorem all_true {listed : Array Bool} (h0 : open_ listed = 0) : listed = Array.replicate listed.size true := by
  apply Array.ext_getElem?
  intro k
  by_cases hk : k < listed.size
  · rw [Array.getElem?_eq_getElem hk, Array.getElem?_replicate, if_pos hk]
    have : ∀ b ∈ listed.toList, b ≠ false := by
      intro b hb hf
      subst hf
      have := List.count_pos_iff.2 hb
      unfold open_ at h0
      omega
    have h1 := this listed[k] (by simp)
    cases hq : listed[k] with
    | true => rfl
    | false => exact absurd hq h1
  · rw [Array.getElem?_eq_none (by omega), Array.getElem?_replicate, if_neg hk]

theorem open_set {listed : Array Bool} {i : Nat} (hi : listed.getD i true = false) : open_ (listed.setIfInBounds i true) + 1 = open_ listed := by
  have hlt : i < listed.size := by
    rcases Nat.lt_or_ge i listed.size with h' | h'
    · exact h'
    · simp [Array.getElem?_eq_none h'] at hi
  have hv : listed.toList[i]'(by simpa using hlt) = false := by simpa [hlt] using hi
  unfold open_
  rw [Array.toList_setIfInBounds]
  have hc := List.count_set (a := true) (b := false) (l := listed.toList) (i := i) (by simpa using hlt)
  have hp : 0 < listed.toList.count false := List.count_pos_iff.2 (by rw [← hv]; exact List.getElem_mem _)
  rw [hc, if_pos (by rw [hv]; rfl), if_neg (by decide)]
  omega

theorem exists_first {p : Nat → Prop} (hp : ∃ n, p n) : ∃ n, p n ∧ ∀ m, m < n → ¬ p m := by
  obtain ⟨n, hn⟩ := hp
  induction n using Nat.strongRecOn with
  | _ n ih =>
    by_cases hm : ∃ m, m < n ∧ p m
    · obtain ⟨m, hlt, hpm⟩ := hm
      exact ih m hlt hpm
    · exact ⟨n, hn, fun m hlt hpm => hm ⟨m, hlt, hpm⟩⟩

/-- The first one that is not listed. -/
theorem least_open {listed : Array Bool} (h0 : open_ listed ≠ 0) : ∃ i, listed.getD i true = false ∧ ∀ j, j < i → listed.getD j false = true := by
  have : ∃ i, listed.getD i true = false := by
    have hp : 0 < listed.toList.count false := by unfold open_ at h0; omega
    obtain ⟨i, hi, hv⟩ := List.getElem_of_mem (List.count_pos_iff.1 hp)
    exact ⟨i, by simp at hi; simpa [hi] using hv⟩
  obtain ⟨i, hi, hmin⟩ := exists_first this
  refine ⟨i, hi, fun j hj => ?_⟩
  have hne := hmin j hj
  have hlt : i < listed.size := by
    rcases Nat.lt_or_ge i listed.size with h' | h'
    · exact h'
    · simp [Array.getElem?_eq_none h'] at hi
  have hjl : j < listed.size := by omega
  simp [hjl] at hne ⊢
  exact hne

theorem lift_any (hE : edgesIn h = true) (hG : guardsIn h = true) (hT : tailWaits h t = true)
    (hS : Region.seqB .any (h ++ t).toArray t.length h.length (Array.replicate h.length true ++ Array.replicate t.length false) = true) :
    ∀ (f : Nat) (listed : Array Bool) (a : Act) (w : World), listed.size = h.length → open_ listed = f →
      wpAny P .any h.toArray (headPost P (h ++ t).toArray Q t) f listed a w → wpAny P .any (h ++ t).toArray Q (f + t.length) (listed ++ Array.replicate t.length false) a w := by
  intro f
  induction f with
  | zero =>
    intro listed a w hs ho H
    have e := all_true ho
    rw [hs] at e
    rw [Nat.zero_add, e]
    exact wpAny_of_seq t h.length _ a w (fun j => by rw [List.getElem?_toArray, List.getElem?_append_right (by omega), Nat.add_sub_cancel_left]) hS H.2
  | succ f ih =>
    intro listed a w hs ho H
    obtain ⟨i0, hi0, hlow⟩ := least_open (listed := listed) (by omega)
    have hi0s : i0 < listed.size := by
      rcases Nat.lt_or_ge i0 listed.size with h' | h'
      · exact h'
      · simp [Array.getElem?_eq_none h'] at hi0
    rw [show f + 1 + t.length = (f + t.length) + 1 by omega]
    refine ⟨fun h0 => ?_, fun i hi => ?_⟩
    · have : i0 ∈ Region.ready .any (h ++ t).toArray (listed ++ Array.replicate t.length false) := by
        rw [mem_ready]
        have hih : i0 < h.length := by omega
        refine ⟨by rw [getD_app true hi0s]; exact hi0, h[i0], by simp [List.getElem?_append_left hih], fun e he hb => ?_⟩
        have := edge_lt hE (List.getElem?_eq_getElem hih) he hb
        rw [getD_app false (by omega)]
        exact hlow _ this
      rw [h0] at this
      cases this
    · obtain ⟨hun, o, hoo, hall⟩ := mem_ready.1 hi
      have hih : i < h.length := by
        rcases Nat.lt_or_ge i h.length with h' | h'
        · exact h'
        · exfalso
          have hot : o ∈ t := by
            simp [List.getElem?_append_right h'] at hoo
            exact List.mem_of_getElem? hoo
          have h1 := List.all_eq_true.1 (List.all_eq_true.1 hT o hot) i0 (List.mem_range.2 (by omega))
          obtain ⟨e, he, hbe⟩ := Array.any_eq_true'.1 h1
          simp only [Bool.and_eq_true, beq_iff_eq] at hbe
          have h2 := hall e he hbe.1
          rw [hbe.2, getD_app false hi0s] at h2
          simp [hi0s] at hi0 h2
          rw [hi0] at h2
          cases h2
      have hoh : h[i]? = some o := by simpa [List.getElem?_append_left hih] using hoo
      have hun' : listed.getD i true = false := by rw [getD_app true (by omega)] at hun; exact hun
      have hr : i ∈ Region.ready .any h.toArray listed := by
        rw [mem_ready]
        refine ⟨hun', o, by simpa using hoh, fun e he hb => ?_⟩
        have hlt := edge_lt hE hoh he hb
        have := hall e he hb
        rwa [getD_app false (by omega)] at this
      have H1 := H.2 i hr
      have hK : ∀ a' w', wpAny P .any h.toArray (headPost P (h ++ t).toArray Q t) f (listed.setIfInBounds i true) a' w' → wpAny P .any (h ++ t).toArray Q (f + t.length) ((listed ++ Array.replicate t.length false).setIfInBounds i true) a' w' := by
        intro a' w' hh
        rw [set_app (by omega)]
        exact ih _ a' w' (by simpa using hs) (by have := open_set hun'; omega) hh
      unfold wpOp at H1 ⊢
      have ho' : h.toArray[i]? = some o := by simpa using hoh
      simp only [hoo, ho'] at H1 ⊢
      rw [wanted_head hG (List.mem_of_getElem? hoh)]
      split
      · rename_i hw
        simp only [hw, if_true] at H1
        rcases H1 with H1 | ⟨h1, h2⟩
        · exact .inl (upon_headPost hK H1)
        · exact .inr ⟨h1, h2⟩
      · rename_i hw
        simp only [hw] at H1
        exact hK _ _ H1

/-- One walk of the head in the order of the text, then the tail, serves every order. -/
theorem wp_region_quiet_tail {id : Nat} {C : World → Prop} {a : Act} {w : World} (h t : List Oper) (hm : P.follows .mixedOrders = true) (hB : Region.lexB .any h.toArray = true)
    (hE : edgesIn h = true) (hG : guardsIn h = true) (hT : tailWaits h t = true)
    (hS : Region.seqB .any (h ++ t).toArray t.length h.length (Array.replicate h.length true ++ Array.replicate t.length false) = true)
    (hC : C { w with drawn := w.drawn + 1 })
    (H : wpQuiet P h.toArray C (fun a' => ∀ w', C w' → wpList P (h ++ t).toArray Q t a' w') h a) : (Code.region id (h ++ t).toArray true).wp P Q a w := by
  refine wp_region_any hm ?_
  simp only [Region.lexB, Bool.and_eq_true] at hB
  have h1 := wpAnyQ_lex (P := P) (C := C) (md := .any) hB.1 h 0 (Array.replicate h.length false) a (by simp) (by simpa using hB.2) H
  have h2 := wpAny_of_quiet (Q' := headPost P (h ++ t).toArray Q t) (fun _ w' hw' hh => hh w' hw') _ _ _ _ hC h1
  have h3 := lift_any (Q := Q) hE hG hT hS h.length (Array.replicate h.length false) a _ (by simp) (by simp [open_]) h2
  have e1 : (h ++ t).toArray.size = h.length + t.length := by simp
  rw [e1, show Array.replicate (h.length + t.length) false = Array.replicate h.length false ++ Array.replicate t.length false by simp]
  exact h3

/-- The same for a region that is written out, its first n operations the head. -/
theorem wp_region_quiet_cut {id : Nat} {C : World → Prop} {a : Act} {w : World} (n : Nat) {l : List Oper} (hm : P.follows .mixedOrders = true) (hB : Region.lexB .any (l.take n).toArray = true)
    (hE : edgesIn (l.take n) = true) (hG : guardsIn (l.take n) = true) (hT : tailWaits (l.take n) (l.drop n) = true)
    (hS : Region.seqB .any l.toArray (l.drop n).length (l.take n).length (Array.replicate (l.take n).length true ++ Array.replicate (l.drop n).length false) = true)
    (hC : C { w with drawn := w.drawn + 1 })
    (H : wpQuiet P (l.take n).toArray C (fun a' => ∀ w', C w' → wpList P l.toArray Q (l.drop n) a' w') (l.take n) a) : (Code.region id l.toArray true).wp P Q a w := by
  have e : l.take n ++ l.drop n = l := List.take_append_drop n l
  have := wp_region_quiet_tail (id := id) (C := C) (Q := Q) (P := P) (a := a) (w := w) (l.take n) (l.drop n) hm hB hE hG hT (by rw [e]; exact hS) hC (by rw [e]; exact H)
  rwa [e] at this
end
end Go.Proofs.YtjkdonjcngmjeaaGreatDoor
/-
  Values of numbers: 32 bytes, four words of 64 bits; small arithmetic on them. Nothing of the program is named here.
-/
namespace Go.Proofs.YtjkdonjcngmjeaaGreatDoor
open Go.RowKit

/-- 2^64, 2^128, 2^192, 2^256 and p are written out as numerals below. -/
def v4 (a b c d : Nat) : Nat := a + 18446744073709551616 * b + 340282366920938463463374607431768211456 * c + 6277101735386680763835789423207666416102355444464034512896 * d

/-- The bytes of a number, the lowest one first. -/
def numA (n : Nat) : Array Value := ((List.range 32).map fun i => Value.int .u8 ((n / 256 ^ i % 256 : Nat) : Int)).toArray

theorem numA_size (n : Nat) : (numA n).size = 32 := by simp [numA]

theorem numA_get (n i : Nat) (h : i < 32) : (numA n)[i]? = some (.int .u8 ((n / 256 ^ i % 256 : Nat) : Int)) := by
  simp [numA, h]

theorem numA_one (n : Nat) : (numA n).all (·.oneCell') = true := by
  simp [numA, Value.oneCell']

theorem or_shift (k x y : Nat) (hx : x < 2 ^ k) (h : x + y * 2 ^ k < 18446744073709551616) :
    bits .or .u64 (x : Int) ((y * 2 ^ k : Nat) : Int) = ((x + y * 2 ^ k : Nat) : Int) := by
  rw [u64_or_nat _ _ (by omega) (by omega)]
  have := Nat.two_pow_add_eq_or_of_lt hx y
  rw [Nat.or_comm, Nat.mul_comm y, ← this, Nat.add_comm]

/-- Eight bytes of a number are a word of it. -/
theorem word_of (n : Nat) : n % 256 + n / 256 % 256 * 256 + n / 65536 % 256 * 65536 + n / 16777216 % 256 * 16777216 + n / 4294967296 % 256 * 4294967296 + n / 1099511627776 % 256 * 1099511627776 + n / 281474976710656 % 256 * 281474976710656 + n / 72057594037927936 % 256 * 72057594037927936 = n % 18446744073709551616 := by
  omega

theorem div_pow_add (n off i : Nat) : n / 256 ^ (off + i) = n / 256 ^ off / 256 ^ i := by
  rw [Nat.pow_add, Nat.div_div_eq_div_mul]

theorem word_bits (b0 b1 b2 b3 b4 b5 b6 b7 : Nat) (h0 : b0 < 256) (h1 : b1 < 256) (h2 : b2 < 256) (h3 : b3 < 256) (h4 : b4 < 256) (h5 : b5 < 256) (h6 : b6 < 256) (h7 : b7 < 256) :
    (bits BinOp.or IntKind.u64
      (bits BinOp.or IntKind.u64
        (bits BinOp.or IntKind.u64
          (bits BinOp.or IntKind.u64
            (bits BinOp.or IntKind.u64
              (bits BinOp.or IntKind.u64
                (bits BinOp.or IntKind.u64 (IntKind.u64.wrap ↑b0)
                  (IntKind.u64.wrap (IntKind.u64.wrap ↑b1 * 256)))
                (IntKind.u64.wrap (IntKind.u64.wrap ↑b2 * 65536)))
              (IntKind.u64.wrap (IntKind.u64.wrap ↑b3 * 16777216)))
            (IntKind.u64.wrap (IntKind.u64.wrap ↑b4 * 4294967296)))
          (IntKind.u64.wrap (IntKind.u64.wrap ↑b5 * 1099511627776)))
        (IntKind.u64.wrap (IntKind.u64.wrap ↑b6 * 281474976710656)))
      (IntKind.u64.wrap (IntKind.u64.wrap ↑b7 * 72057594037927936))) = ((b0 + b1 * 256 + b2 * 65536 + b3 * 16777216 + b4 * 4294967296 + b5 * 1099511627776 + b6 * 281474976710656 + b7 * 72057594037927936 : Nat) : Int) := by
  simp only [IntKind.wrap_u64]
  have e0 : (b0 : Int) % 18446744073709551616 = ((b0 : Nat) : Int) := by omega
  have e1 : ((b1 : Int) % 18446744073709551616 * 256) % 18446744073709551616 = ((b1 * 2 ^ 8 : Nat) : Int) := by omega
  have e2 : ((b2 : Int) % 18446744073709551616 * 65536) % 18446744073709551616 = ((b2 * 2 ^ 16 : Nat) : Int) := by omega
  have e3 : ((b3 : Int) % 18446744073709551616 * 16777216) % 18446744073709551616 = ((b3 * 2 ^ 24 : Nat) : Int) := by omega
  have e4 : ((b4 : Int) % 18446744073709551616 * 4294967296) % 18446744073709551616 = ((b4 * 2 ^ 32 : Nat) : Int) := by omega
  have e5 : ((b5 : Int) % 18446744073709551616 * 1099511627776) % 18446744073709551616 = ((b5 * 2 ^ 40 : Nat) : Int) := by omega
  have e6 : ((b6 : Int) % 18446744073709551616 * 281474976710656) % 18446744073709551616 = ((b6 * 2 ^ 48 : Nat) : Int) := by omega
  have e7 : ((b7 : Int) % 18446744073709551616 * 72057594037927936) % 18446744073709551616 = ((b7 * 2 ^ 56 : Nat) : Int) := by omega
  rw [e0, e1, e2, e3, e4, e5, e6, e7]
  rw [or_shift 8 b0 b1 (by omega) (by omega), or_shift 16 _ b2 (by omega) (by omega), or_shift 24 _ b3 (by omega) (by omega), or_shift 32 _ b4 (by omega) (by omega), or_shift 40 _ b5 (by omega) (by omega), or_shift 48 _ b6 (by omega) (by omega), or_shift 56 _ b7 (by omega) (by omega)]

theorem ret_int {k : IntKind} {a b : Int} (h : a = b) : Ending.returned (.int k a) = .returned (.int k b) := by rw [h]
theorem ret_two {k l : IntKind} {a b c d : Int} (h : a = c) (h' : b = d) : Ending.returned (.tuple #[.int k a, .int l b]) = .returned (.tuple #[.int k c, .int l d]) := by rw [h, h']

end Go.Proofs.YtjkdonjcngmjeaaGreatDoor
/-
  One operation of a quiet walk: a whole array is read, a function is called, two arrays of numbers are compared, a value is reckoned.
-/
namespace Go.Proofs.YtjkdonjcngmjeaaGreatDoor
open Go Go.RowKit
set_option linter.unusedVariables false
set_option linter.unusedSimpArgs false

section
variable {P : Program} {ops : Array Oper} {C : World → Prop} {Q : Act → Prop} {a : Act} {o : Oper} {rest : List Oper}

theorem q_load (hw : Region.wanted o (yielded ops a.tmps) = true) (ty : TypeId) (x : Operand) (g : Nat) (t : TypeId) (cs : Array Value) (fr : Nat × Nat) (d : TypeDesc) (ho : o.op = .load ty x) (hx : a.eval x = .pointer (some ⟨g, 0, none⟩))
    (hC : ∀ w, C w → w.heap[g]? = some (.cells cs t fr)) (hu : P.underlying ty = some d) (hd : (match d with | .struct _ | .array _ _ => true | _ => false) = true) (hi : (P.info? ty).map (·.size) = some cs.size)
    (h : wpQuiet P ops C Q rest (a.put o.dst (.agg cs))) : wpQuiet P ops C Q (o :: rest) a := by
  refine BigFrame.wpQuiet_want hw fun K hK => ⟨.agg cs, fun w hc => ?_, hK _ h⟩
  unfold Oper.quietAt execOp
  simp only [ho, hx, Instr.loadAt, Instr.sureAddr, Sem.run_bind, Sem.run_pure, Result.andThen_ok, run_loadVar_row w g t ty cs fr d (hC w hc) hu hd hi]
  exact ⟨rfl, rfl⟩

theorem q_call (hw : Region.wanted o (yielded ops a.tmps) = true) (f : FuncId) (fn : Func) (c : Code) (args : List Operand) (ts : Array TypeId) (vs : List Value) (v : Value) (ho : o.op = .call { callee := .value (.func f), args := args.toArray, argTypes := ts })
    (hargs : args.map a.eval = vs) (hf : P.funcs[f]? = some fn) (hname : (fn.name == "runtime.NumGoroutine") = false) (hb : fn.body = some c)
    (hc : ∀ w, C w → Calls P f vs.toArray w fun e w' => e = .returned v ∧ C w')
    (h : wpQuiet P ops C Q rest (a.put o.dst v)) : wpQuiet P ops C Q (o :: rest) a := by
  refine BigFrame.wpQuiet_want hw fun K hK => ⟨v, fun w hC => ?_, hK _ h⟩
  have h1 : fn.name ≠ "runtime.NumGoroutine" := by simpa using hname
  have ha : args.toArray.map a.eval = vs.toArray := by rw [List.map_toArray, hargs]
  have hrun : (execOp a.eval o).run P w = .ok (.enter f vs.toArray) w := by
    unfold execOp
    simp only [ho, resolve, ha]
    simp [Deferred.ofValue, Act.eval, invoke, callFunc, hf, h1, hb]
  unfold Oper.quietAt
  rw [hrun]
  exact ⟨rfl, hc w hC⟩

theorem q_val (hw : Region.wanted o (yielded ops a.tmps) = true) (v : Value) (hrun : ∀ w, (execOp a.eval o).run P w = .ok (.value v) w)
    (h : wpQuiet P ops C Q rest (a.put o.dst v)) : wpQuiet P ops C Q (o :: rest) a := by
  refine BigFrame.wpQuiet_want hw fun K hK => ⟨v, fun w hC => ?_, hK _ h⟩
  unfold Oper.quietAt
  rw [hrun]
  exact ⟨rfl, rfl⟩
end

section
variable {P : Program}

theorem eq_cells {d : Nat} {e : TypeId} {k : IntKind} {xs ys : Array Value} {fx fy : Nat → Int} (he : P.underlying e = some (.int k)) (hagg : ∀ w, (isAgg e).run P w = .ok false w) :
    ∀ (l : List Nat) (w : World), (∀ i ∈ l, xs[i * 1]? = some (.int k (fx i)) ∧ ys[i * 1]? = some (.int k (fy i))) →
    (forIn (m := Sem) l ((none, ()) : Option Bool × Unit) fun i r => do
        let y ← part e xs (i * 1)
        let z ← part e ys (i * 1)
        let b ← Op.equalIn (d + 1) e y z
        if (!b) = true then pure (ForInStep.done (some false, ())) else pure (ForInStep.yield (none, ()))).run P w
      = .ok (if l.all (fun i => fx i == fy i) then (none, ()) else (some false, ())) w
  | [], w, _ => by simp
  | i :: l, w, h => by
    obtain ⟨hx, hy⟩ := h i (by simp)
    have ih := eq_cells (d := d) (xs := xs) (ys := ys) (fx := fx) (fy := fy) he hagg l w (fun j hj => h j (by simp [hj]))
    simp only [List.forIn_cons, Sem.run_bind, part, hagg, Result.andThen_ok, Bool.false_eq_true, if_false, hx, hy, Sem.run_pure, run_equalIn_int w d e k k (fx i) (fy i) he, Sem.run_ite]
    by_cases hq : fx i = fy i
    · simp only [hq, beq_self_eq_true, Bool.not_true, Bool.false_eq_true, if_false, Result.andThen_ok, List.all_cons, Bool.true_and]
      exact ih
    · simp [hq]

theorem run_equal_cells {t e : TypeId} {k : IntKind} {len : Nat} {xs ys : Array Value} {fx fy : Nat → Int} (ht : P.underlying t = some (.array len e)) (he : P.underlying e = some (.int k)) (hs : ∀ w, (sizeOf e).run P w = .ok 1 w) (hagg : ∀ w, (isAgg e).run P w = .ok false w)
    (hx : ∀ i, i < len → xs[i]? = some (.int k (fx i))) (hy : ∀ i, i < len → ys[i]? = some (.int k (fy i))) (w : World) :
    (Op.equal t (.agg xs) (.agg ys)).run P w = .ok ((List.range len).all fun i => fx i == fy i) w := by
  have key := eq_cells (P := P) (d := 9998) (e := e) (xs := xs) (ys := ys) (fx := fx) (fy := fy) he hagg (List.range len) w (fun i hi => by
    have := List.mem_range.1 hi
    simpa using ⟨hx i this, hy i this⟩)
  show (Op.equalIn (9998 + 1 + 1) t (.agg xs) (.agg ys)).run P w = _
  generalize 9998 = d at *
  unfold Op.equalIn
  simp only [Sem.run_bind, run_underlying ht, Result.andThen_ok, hs]
  have hr : ∀ f : Nat → Option Bool × Unit → Sem (ForInStep (Option Bool × Unit)), forIn (m := Sem) [:len] (none, ()) f = forIn (List.range len) (none, ()) f := by
    intro f
    rw [Std.Legacy.Range.forIn_eq_forIn_range', List.range_eq_range']
    simp [Std.Legacy.Range.size]
  rw [hr, key]
  simp only [Result.andThen_ok]
  generalize (List.range len).all (fun i => fx i == fy i) = b
  cases b <;> simp
end

theorem digits_mod (n m : Nat) : ∀ k, (∀ i, i < k → n / 256 ^ i % 256 = m / 256 ^ i % 256) → n % 256 ^ k = m % 256 ^ k
  | 0, _ => by simp [Nat.mod_one]
  | k + 1, h => by
    rw [Nat.mod_pow_succ, Nat.mod_pow_succ, digits_mod n m k (fun i hi => h i (by omega)), h k (by omega)]

theorem num_all (n m : Nat) (hn : n < 115792089237316195423570985008687907853269984665640564039457584007913129639936) (hm : m < 115792089237316195423570985008687907853269984665640564039457584007913129639936) :
    ((List.range 32).all fun i => ((n / 256 ^ i % 256 : Nat) : Int) == ((m / 256 ^ i % 256 : Nat) : Int)) = decide (n = m) := by
  rw [Bool.eq_iff_iff]
  simp only [List.all_eq_true, List.mem_range, beq_iff_eq, decide_eq_true_eq]
  constructor
  · intro h
    have h1 := digits_mod n m 32 (fun i hi => by have := h i hi; exact Int.ofNat.inj this)
    rw [Nat.mod_eq_of_lt hn, Nat.mod_eq_of_lt hm] at h1
    exact h1
  · rintro rfl i _
    rfl

theorem run_equal_num {P : Program} {t e : TypeId} (n m : Nat) (hn : n < 115792089237316195423570985008687907853269984665640564039457584007913129639936) (hm : m < 115792089237316195423570985008687907853269984665640564039457584007913129639936) (ht : P.underlying t = some (.array 32 e)) (he : P.underlying e = some (.int .u8)) (hs : ∀ w, (sizeOf e).run P w = .ok 1 w) (hagg : ∀ w, (isAgg e).run P w = .ok false w) (w : World) :
    (Op.equal t (.agg (numA n)) (.agg (numA m))).run P w = .ok (decide (n = m)) w := by
  rw [run_equal_cells ht he hs hagg (fx := fun i => ((n / 256 ^ i % 256 : Nat) : Int)) (fy := fun i => ((m / 256 ^ i % 256 : Nat) : Int)) (fun i hi => numA_get n i hi) (fun i hi => numA_get m i hi), num_all n m hn hm]

theorem run_eql_num {P : Program} {t e : TypeId} {o : Oper} {ρ : Operand → Value} {x y : Operand} {u : TypeId} (n m : Nat) (ho : o.op = .binOp .eql t x y u) (hx : ρ x = .agg (numA n)) (hy : ρ y = .agg (numA m)) (hn : n < 115792089237316195423570985008687907853269984665640564039457584007913129639936) (hm : m < 115792089237316195423570985008687907853269984665640564039457584007913129639936) (ht : P.underlying t = some (.array 32 e)) (he : P.underlying e = some (.int .u8)) (hs : ∀ w, (sizeOf e).run P w = .ok 1 w) (hagg : ∀ w, (isAgg e).run P w = .ok false w) (hg : P.eqGuardType P.depth t = false) (w : World) :
    (execOp ρ o).run P w = .ok (.value (.bool (decide (n = m)))) w := by
  unfold execOp
  simp only [ho, hx, hy, eqGuard, binOp, Sem.run_bind, Sem.run_pure, Result.andThen_ok, run_equal_num n m hn hm ht he hs hagg, run_program, hg, Bool.not_false, if_true]
  simp
  intro h
  rw [hg] at h
  cases h

end Go.Proofs.YtjkdonjcngmjeaaGreatDoor
/-
  Blocks of ints: read, written, by one cell or whole; what holds behind.
-/
namespace Go.Proofs.YtjkdonjcngmjeaaGreatDoor.sh
open Go Go.RowKit
set_option linter.unusedVariables false
set_option linter.unusedSimpArgs false

/-- A fact that no unifier looks into. -/
structure Kept (p : Prop) : Prop where
  out : p

def ints (k : IntKind) (l : List Nat) : Array Value := (l.map fun n : Nat => Value.int k (n : Int)).toArray
theorem ints_size (k : IntKind) (l : List Nat) : (ints k l).size = l.length := by simp [ints]
theorem ints_get {k : IntKind} {l : List Nat} {i n : Nat} (h : l[i]? = some n) : (ints k l)[i]? = some (.int k (n : Int)) := by simp [ints, h]
theorem ints_set (k : IntKind) (l : List Nat) (i n : Nat) : (ints k l).setIfInBounds i (.int k (n : Int)) = ints k (l.set i n) := by simp [ints, List.map_set]
theorem ints_one (k : IntKind) (l : List Nat) : (ints k l).all (·.oneCell') = true := by simp [ints, Value.oneCell']
theorem ints_append (k : IntKind) (l m : List Nat) : ints k l ++ ints k m = ints k (l ++ m) := by simp [ints]

def Blk (w : World) (g : Nat) (t : TypeId) (A : Array Value) : Prop := w.heap[g]? = some (.cells A t (0, 0))
theorem Blk.lt {w : World} {g : Nat} {t : TypeId} {A : Array Value} (h : Blk w g t A) : g < w.heap.size := (Array.getElem?_eq_some_iff.1 h).1
theorem Blk.below {w w' : World} {g B : Nat} {t : TypeId} {A : Array Value} (h : Blk w g t A) (hb : Below B w w') (hB : g < B) : Blk w' g t A := (hb.block _ hB).trans h
theorem Blk.under {w w' : World} {g : Nat} {t : TypeId} {A : Array Value} (h : Blk w g t A) (hb : Below w.heap.size w w') : Blk w' g t A := h.below hb h.lt
theorem Blk.alloc {w : World} {g : Nat} {t : TypeId} {A : Array Value} (h : Blk w g t A) (o : Obj) : Blk (w.alloc o) g t A := (Below.heap_alloc w o g h.lt).trans h
theorem heap_new (w : World) (o : Obj) : (w.alloc o).heap[w.heap.size]? = some o := by
  show (w.heap.push o)[w.heap.size]? = some o
  simp
theorem blk_new (w : World) (t : TypeId) (A : Array Value) : Blk (w.alloc (.cells A t)) w.heap.size t A := heap_new _ _
theorem blk_top (w : World) (g : Nat) (t : TypeId) (A : Array Value) (h : g = w.heap.size) : Blk (w.alloc (.cells A t)) g t A := by rw [h]; exact heap_new _ _
theorem cell_row {w : World} {g : Nat} {A : Array Value} {t : TypeId} {fr : Nat × Nat} {j : Nat} {v : Value} (hg : w.heap[g]? = some (.cells A t fr)) (hv : A[j]? = some v) : w.cell? ⟨g, j, none⟩ = some v := by
  simp [World.cell?, hg, hv]
theorem Blk.cell {w : World} {g j : Nat} {t : TypeId} {A : Array Value} {v : Value} (h : Blk w g t A) (hv : A[j]? = some v) : w.cell? ⟨g, j, none⟩ = some v := cell_row h hv

theorem addr_add (g k j : Nat) : (⟨g, k, none⟩ : Addr).add j = ⟨g, k + j, none⟩ := by
  simp [Addr.add]

/-- The world behind a store to block g alone. -/
structure Put (w w' : World) (g : Nat) : Prop where
  grown : w.grownBy w' (some g)
  size : w'.heap.size = w.heap.size
theorem Put.below {w w' : World} {g B : Nat} (h : Put w w' g) (hB : B ≤ g) : Below B w w' := ⟨h.grown.os, h.grown.tape, h.grown.output, by rw [h.size]; exact Nat.le_refl _, fun k hk => by
  by_cases hk2 : k < w.heap.size
  · exact h.grown.block k hk2 (fun e => by cases e; omega)
  · rw [Array.getElem?_eq_none (by rw [h.size]; omega), Array.getElem?_eq_none (by omega)]⟩
theorem Put.blk {w w' : World} {g k : Nat} {t : TypeId} {A : Array Value} (h : Put w w' g) (hk : Blk w k t A) (hne : k ≠ g) : Blk w' k t A := (h.grown.block k hk.lt (fun e => by cases e; exact hne rfl)).trans hk

theorem ag_u8 (w : World) : (isAgg 5).run Tryz.prog w = .ok false w := by kernel_rfl
theorem sz_u8 (w : World) : (sizeOf 5).run Tryz.prog w = .ok 1 w := by kernel_rfl
theorem ag_u32 (w : World) : (isAgg 72).run Tryz.prog w = .ok false w := by kernel_rfl
theorem sz_u32 (w : World) : (sizeOf 72).run Tryz.prog w = .ok 1 w := by kernel_rfl
theorem ag_u64 (w : World) : (isAgg 22).run Tryz.prog w = .ok false w := by kernel_rfl
theorem sz_u64 (w : World) : (sizeOf 22).run Tryz.prog w = .ok 1 w := by kernel_rfl
theorem ag_int (w : World) : (isAgg 3).run Tryz.prog w = .ok false w := by kernel_rfl
section
variable {ops : Array Oper} {rest : List Oper} {o : Oper} {a : Act} {w : World} {Q : Exit → Act → World → Prop}
/-- One cell of a block is read. -/
theorem run_elem {P : Program} {e : TypeId} (ag : ∀ w, (isAgg e).run P w = .ok false w) (x : Operand) (ho : o.op = .load e x) (g k : Nat) (hx : a.eval x = .pointer (some ⟨g, k, none⟩)) {t : TypeId} (A : Array Value) (v : Value) (hg : Blk w g t A) (hv : A[k]? = some v) : (execOp a.eval o).run P w = .ok (.value v) w := by
  have hc : w.cell? ⟨g, k, none⟩ = some v := cell_row hg hv
  unfold execOp
  simp only [ho, hx, Instr.loadAt, Instr.sureAddr, Sem.run_bind, Sem.run_pure, Result.andThen_ok]
  simp [loadVar, ag, go_sem, hc]
theorem wl_elem (hgd : o.guard = none) (e : TypeId) (ag : ∀ w, (isAgg e).run Tryz.prog w = .ok false w) (x : Operand) (ho : o.op = .load e x) (g k : Nat) (hx : a.eval x = .pointer (some ⟨g, k, none⟩)) {t : TypeId} (A : Array Value) (v : Value)
    (hg : Blk w g t A) (hv : A[k]? = some v) (h : wpList Tryz.prog ops Q rest (a.put o.dst v) w) : wpList Tryz.prog ops Q (o :: rest) a w :=
  wpList_plain hgd fun K hK => by
    unfold Oper.wp
    rw [run_elem ag x ho g k hx A v hg hv]
    exact hK _ _ h
/-- One cell of a block is written. -/
theorem wl_setElem (hgd : o.guard = none) (e : TypeId) (sz : ∀ w, (sizeOf e).run Tryz.prog w = .ok 1 w) (x y : Operand) (ho : o.op = .store e x y) (g k : Nat) (kd : IntKind) (v : Int) (hx : a.eval x = .pointer (some ⟨g, k, none⟩)) (hy : a.eval y = .int kd v) {t : TypeId} (A : Array Value)
    (hg : Blk w g t A) (hk : k < A.size) (h : ∀ w', Blk w' g t (A.setIfInBounds k (.int kd v)) → Put w w' g → wpList Tryz.prog ops Q rest (a.put o.dst undef) w') : wpList Tryz.prog ops Q (o :: rest) a w :=
  wpList_plain hgd fun K hK => by
    have hc : w.cell? ⟨g, k, none⟩ = some A[k] := cell_row hg (Array.getElem?_eq_getElem hk)
    have hf : w.frozen? ⟨g, k, none⟩ = false := frozen_of_row w g k A _ hg
    have hrun : (execOp a.eval o).run Tryz.prog w = .ok .skip (w.setCell ⟨g, k, none⟩ (.int kd v)) := by
      unfold execOp
      simp only [ho, hx, hy, Instr.storeAt, Instr.sureAddr, Sem.run_bind, Sem.run_pure, Result.andThen_ok]
      simp [storeVar, storeCells, sz, go_sem, hc, hf, Value.cells]
      try rfl
    unfold Oper.wp
    rw [hrun]
    exact hK _ _ (h _ (heap_setCell_same _ _ _ _ _ _ hg) ⟨⟨rfl, rfl, rfl, by simp, fun j _ hj => heap_setCell_other w ⟨g, k, none⟩ j _ (fun e => hj (by rw [e]))⟩, by simp⟩)
/-- A whole block is read. -/
theorem wl_load (hgd : o.guard = none) (t : TypeId) (x : Operand) (ho : o.op = .load t x) (g : Nat) (hx : a.eval x = .pointer (some ⟨g, 0, none⟩)) {t' : TypeId} (A : Array Value) (len : Nat) (e : TypeId) (hd : Tryz.prog.underlying t = some (.array len e)) (hs : (Tryz.prog.info? t).map (·.size) = some A.size)
    (hg : Blk w g t' A) (h : wpList Tryz.prog ops Q rest (a.put o.dst (.agg A)) w) : wpList Tryz.prog ops Q (o :: rest) a w :=
  wpList_load_row hgd t x ho g hx t' A (0, 0) _ hg hd rfl hs h
theorem wl_loadS (hgd : o.guard = none) (t : TypeId) (x : Operand) (ho : o.op = .load t x) (g : Nat) (hx : a.eval x = .pointer (some ⟨g, 0, none⟩)) {t' : TypeId} (A : Array Value) (fs : Array Field) (hd : Tryz.prog.underlying t = some (.struct fs)) (hs : (Tryz.prog.info? t).map (·.size) = some A.size)
    (hg : Blk w g t' A) (h : wpList Tryz.prog ops Q rest (a.put o.dst (.agg A)) w) : wpList Tryz.prog ops Q (o :: rest) a w :=
  wpList_load_row hgd t x ho g hx t' A (0, 0) _ hg hd rfl hs h
/-- A whole block is written. -/
theorem wl_store (hgd : o.guard = none) (t : TypeId) (x y : Operand) (ho : o.op = .store t x y) (g : Nat) (A : Array Value) (hx : a.eval x = .pointer (some ⟨g, 0, none⟩)) (hy : a.eval y = .agg A) {t' : TypeId} (cs : Array Value) (hg : Blk w g t' cs) (hs : (Tryz.prog.info? t).map (·.size) = some A.size) (hl : cs.size = A.size) (h1 : A.all (·.oneCell') = true)
    (h : ∀ w', Blk w' g t' A → Put w w' g → wpList Tryz.prog ops Q rest (a.put o.dst undef) w') : wpList Tryz.prog ops Q (o :: rest) a w :=
  wpList_store_row hgd t x y ho g A hx hy t' cs hg hs hl h1 (h _ (setRow_heap _ _ _ _ _ _ hg) ⟨⟨rfl, rfl, rfl, by simp, fun k _ hk => setRow_other _ _ _ _ (fun e => hk (by rw [e]))⟩, by simp⟩)
/-- A piece of a block is written over. -/
theorem wl_copy (hgd : o.guard = none) (d s : Operand) (dT sT : TypeId) (ho : o.op = .call { callee := .builtin .copy, args := #[d, s], argTypes := #[dT, sT] }) (elem : TypeId) (hu : Tryz.prog.underlying dT = some (.slice elem)) (hsz : (Tryz.prog.info? elem).map (·.size) = some 1)
    (g off dLen dCap : Nat) (ad : Addr) (sLen sCap : Nat) (hd : a.eval d = .slice (some ⟨g, off, none⟩) dLen dCap) (hs : a.eval s = .slice (some ad) sLen sCap)
    {t : TypeId} (cur : Array Value) (hg : Blk w g t cur) (cs : List Value) (hn : cs.length = Nat.min sLen dLen) (hsrc : ∀ j v, cs[j]? = some v → w.cell? (ad.add j) = some v) (hfit : off + cs.length ≤ cur.size) (h1 : ∀ v ∈ cs, v.oneCell' = true)
    (h : ∀ w', Blk w' g t (splice cur.toList off cs).toArray → Put w w' g → wpList Tryz.prog ops Q rest (a.put o.dst (goInt cs.length)) w') : wpList Tryz.prog ops Q (o :: rest) a w :=
  wpList_copy_own hgd d s dT sT ho elem hu hsz g off dLen dCap ad sLen sCap hd hs cur t hg cs hn hsrc hfit h1 (h _ (setRow_heap _ _ _ _ _ _ hg) ⟨⟨rfl, rfl, rfl, by simp, fun k _ hk => setRow_other _ _ _ _ (fun e => hk (by rw [e]))⟩, by simp⟩)
/-- A value that hangs on the frame alone. -/
theorem wl_val (hg : o.guard = none) (v : Value) (hrun : (execOp a.eval o).run Tryz.prog w = .ok (.value v) w) (h : wpList Tryz.prog ops Q rest (a.put o.dst v) w) : wpList Tryz.prog ops Q (o :: rest) a w :=
  wpList_plain hg fun K hK => by
    unfold Oper.wp
    rw [hrun]
    exact hK _ _ h
end
/-- One cell of a block is read, in a region that draws its order. -/
theorem q_elem {P : Program} {ops : Array Oper} {C : World → Prop} {Q : Act → Prop} {a : Act} {o : Oper} {rest : List Oper} (hw : Region.wanted o (yielded ops a.tmps) = true) (e : TypeId) (ag : ∀ w, (isAgg e).run P w = .ok false w) (x : Operand) (ho : o.op = .load e x) (g k : Nat) (hx : a.eval x = .pointer (some ⟨g, k, none⟩)) (t : TypeId) (A : Array Value) (v : Value)
    (hg : ∀ w, C w → Blk w g t A) (hv : A[k]? = some v) (h : wpQuiet P ops C Q rest (a.put o.dst v)) : wpQuiet P ops C Q (o :: rest) a := by
  refine BigFrame.wpQuiet_want hw fun K hK => ⟨v, fun w hC => ?_, hK _ h⟩
  unfold Oper.quietAt
  rw [run_elem ag x ho g k hx A v (hg w hC) hv]
  exact ⟨rfl, rfl⟩
end Go.Proofs.YtjkdonjcngmjeaaGreatDoor.sh
/-
  What a word comes to that is turned to the right, by one amount and by some.
-/
namespace Go.Proofs.YtjkdonjcngmjeaaGreatDoor.sh
open Go Go.RowKit
set_option linter.unusedVariables false
set_option linter.unusedSimpArgs false

theorem wl_at {ops : Array Oper} {rest : List Oper} {o : Oper} {a : Act} {w : World} {Q : Exit → Act → World → Prop} {d : Nat} (hd : o.dst = some d) (hg : o.guard = none) (v : Value) (hrun : (execOp a.eval o).run Tryz.prog w = .ok (.value v) w) (h : wpList Tryz.prog ops Q rest (a.put o.dst v) w) : wpList Tryz.prog ops Q (o :: rest) a w := wl_val hg v hrun h

def rotr (n m : Nat) : Nat := (n * 2 ^ (32 - m) % 4294967296) ||| (n / 2 ^ m)
theorem rotr_lt (n m : Nat) (hn : n < 4294967296) : rotr n m < 4294967296 := by
  unfold rotr
  exact Nat.or_lt_two_pow (n := 32) (Nat.mod_lt _ (by decide)) (Nat.lt_of_le_of_lt (Nat.div_le_self _ _) hn)
theorem count_of (m : Nat) (h0 : 0 < m) (h1 : m < 32) : bits .and .u64 (IntKind.u64.wrap (-(m : Int))) 31 = ((32 - m : Nat) : Int) := by
  rw [IntKind.wrap_u64, show (-(m : Int)) % 18446744073709551616 = ((18446744073709551616 - m : Nat) : Int) from by omega, show (31 : Int) = ((31 : Nat) : Int) from rfl, u64_and_nat _ _ (by omega) (by decide), nat_mask5]
  omega

set_option maxHeartbeats 400000 in
theorem rot_any (n m : Nat) (w : World) (hn : n < 4294967296) (h0 : 0 < m) (h1 : m < 32) :
    Calls Tryz.prog 138 #[.int .u32 (n : Int), .int .i64 (-(m : Int))] w fun e w' => e = .returned (.int .u32 (rotr n m : Nat)) ∧ w' = w := by
  have hS := count_of m h0 h1
  go_enter Tryz.func138, Tryz.ntmps138
  go_wp2_with (refine wl_at (d := 8) rfl rfl (.int .u64 ((32 - m : Nat) : Int)) ?h1 ?_; (case h1 => simp [execOp, Act.eval, go_sem, hS]))
  go_ret
  refine ⟨ret_int ?_, rfl⟩
  have e1 : ((n : Int) * 2 ^ (32 - m) % 4294967296) = ((n * 2 ^ (32 - m) % 4294967296 : Nat) : Int) := by rw [Int.natCast_emod, Int.natCast_mul, Int.natCast_pow]; rfl
  have e2 : ((n : Int) / 2 ^ (32 - (32 - m))) = ((n / 2 ^ m : Nat) : Int) := by rw [show 32 - (32 - m) = m from by omega, Int.natCast_ediv, Int.natCast_pow]; rfl
  rw [e1, e2, u32_or_nat _ _ (Nat.mod_lt _ (by decide)) (Nat.lt_of_le_of_lt (Nat.div_le_self _ _) hn)]
  rfl

theorem rot_at (n m : Nat) (X : Int) (w : World) (hn : n < 4294967296) (h0 : 0 < m) (h1 : m < 32) (hX : X = -(m : Int)) :
    Calls Tryz.prog 138 #[.int .u32 (n : Int), .int .i64 X] w fun e w' => e = .returned (.int .u32 (rotr n m : Nat)) ∧ w' = w := by rw [hX]; exact rot_any n m w hn h0 h1
/-- A word turned by each of the amounts, all of that by exclusive or. -/
def turnN (n : Nat) (ms : List Nat) : Nat := ms.foldl (fun x m => x ^^^ rotr n m) 0
theorem turnN_snoc (n : Nat) (ms : List Nat) (m : Nat) : turnN n (ms ++ [m]) = turnN n ms ^^^ rotr n m := by simp [turnN]
theorem fold_lt (n : Nat) (hn : n < 4294967296) : ∀ (ms : List Nat) (x : Nat), x < 4294967296 → ms.foldl (fun x m => x ^^^ rotr n m) x < 4294967296
  | [], x, h => h
  | m :: r, x, h => fold_lt n hn r _ (Nat.xor_lt_two_pow (n := 32) h (rotr_lt n m hn))
theorem turnN_lt (n : Nat) (ms : List Nat) (hn : n < 4294967296) : turnN n ms < 4294967296 := fold_lt n hn ms 0 (by decide)

set_option maxHeartbeats 400000 in
theorem turned_any (n : Nat) (ms : List Nat) (g cap : Nat) (t : TypeId) (w : World) (hn : n < 4294967296) (hms : ∀ (i m : Nat), ms[i]? = some m → 0 < m ∧ m < 32) (hb : Blk w g t (ints .i64 ms)) (hl : ms.length < 100) :
    Calls Tryz.prog 119 #[.int .u32 (n : Int), .slice (some ⟨g, 0, none⟩) ms.length cap] w fun e w' => e = .returned (.int .u32 (turnN n ms : Nat)) ∧ w' = w := by
  obtain ⟨len, hlen⟩ : ∃ len, len = ms.length := ⟨_, rfl⟩
  rw [← hlen] at hl ⊢
  have KL : Kept _ := ⟨hlen⟩
  clear hlen
  have KM : Kept _ := ⟨hms⟩
  have KB : Kept _ := ⟨hb⟩
  clear hms hb
  go_enter Tryz.func119, Tryz.ntmps119
  go_wp2_with fail
  go_loopg [10, 5] len (fun k s10 s5 wr => ∃ i x : Nat, i + k = len ∧ s10 = .int .i64 (i : Int) ∧ s5 = .int .u32 (x : Int) ∧ wr = w ∧ Kept (x = turnN n (ms.take i)))
  case atStart => exact ⟨0, 0, by omega, rfl, rfl, rfl, ⟨rfl⟩⟩
  case round =>
    obtain ⟨i, x, hik, rfl, rfl, rfl, KX⟩ := hrel
    by_cases hk0 : gk = 0
    · obtain rfl : i = len := by omega
      have e : x = turnN n ms := by rw [KX.out, KL.out, List.take_length]
      go_wp2_with fail
      go_ret
      exact ⟨by rw [e]; rfl, rfl⟩
    · have hil : i < len := by omega
      have hlt : ((i : Int) < (len : Int)) := by omega
      obtain ⟨m, hm⟩ : ∃ m, ms[i]? = some m := ⟨_, List.getElem?_eq_getElem (by have := KL.out; omega)⟩
      have hx : x < 4294967296 := by rw [KX.out]; exact turnN_lt n _ hn
      go_wp2_with (refine wl_elem rfl 3 ag_int (.tmp 12) rfl g i rfl (ints .i64 ms) (.int .i64 (m : Int)) KB.out (ints_get hm) ?_)
      refine (rot_at n m _ wr hn (KM.out i m hm).1 (KM.out i m hm).2 ?hX).mono ?_
      case hX => have := (KM.out i m hm).2; unfold wrap64; omega
      rintro e w1 ⟨rfl, rfl⟩
      have hbx : bits .xor .u32 (x : Int) (rotr n m : Nat) = ((x ^^^ rotr n m : Nat) : Int) := u32_xor_nat _ _ hx (rotr_lt n m hn)
      go_wp2_with fail
      go_roundg (gk - 1)
      case measure => omega
      case rel => exact ⟨i + 1, x ^^^ rotr n m, by omega, by simp, rfl, rfl, ⟨by rw [List.take_add_one, hm]; simp [turnN_snoc, KX.out]⟩⟩
end Go.Proofs.YtjkdonjcngmjeaaGreatDoor.sh
