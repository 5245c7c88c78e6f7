/-
  General pieces, joined: Tail Vals Q SB ST SP Alloc Free SR SX SS SO SY SZ Part SD SW SF SG SH.
-/
import Derived.Deep.Quiet
import Derived.StillTail
import Derived.Tactics
import Derived.WalkKit
import Derived.Laws.BitsAllLaws
import Derived.Laws.Rows
import Derived.Laws.StructEq
import Derived.BigQuiet
import Derived.Test.YtniogaimhkcedaaDoorRows
import Derived.WalkSpells
import Derived.WalkLawsBesides
import Derived.Laws.CopyRow
import Derived.Laws.CopyOwn
import Derived.Great.BuildSlice
import Derived.RegionTactic
import Derived.BigRegion
import Derived.Deep.QuietTactic
import Derived.Deep.LoopGhost
import Derived.Below
import Derived.Deep.MidRow
import Derived.Laws.MakeOwn
import Derived.Deep.AppendLies
/-
  A region that draws its order, whose first operations only read, or call what makes memory alone, and whose last ones each wait for all of those: one walk, in the order of the text, serves every order. Conditions: the Bools that are named in it.
-/
namespace Go.Proofs.YtniogaimhkcedaaDoor
open Go
set_option linter.unusedVariables false
set_option linter.unusedSimpArgs false

/-- The post of the head: behind it the tail is walked. -/
def headPost (P : Program) (F : Array Oper) (Q : Exit → Act → World → Prop) (t : List Oper) : Exit → Act → World → Prop
  | .normal, a, w => wpList P F Q t a w
  | e, a, w => Q e a w

theorem upon_headPost {P : Program} {F : Array Oper} {Q : Exit → Act → World → Prop} {t : List Oper} {o : Oper} {a : Act} {w : World} {K K' : Act → World → Prop} (hK : ∀ a w, K a w → K' a w)
    (h : o.wp P a w K (headPost P F Q t)) : o.wp P a w K' Q := by
  unfold Oper.wp at *
  generalize (execOp a.eval o).run P w = r at *
  cases r with
  | ok x w' =>
    cases x with
    | value v => exact hK _ _ h
    | skip => exact hK _ _ h
    | defer d => exact hK _ _ h
    | enter f args =>
      refine Calls.mono h ?_
      intro e w'' hr
      cases e with
      | returned v => exact hK _ _ hr
      | panicked c => exact hr
      | outgrown => exact hr
    | row r args => exact Rows.mono h fun v w'' hr => hK _ _ hr
    | _ => exact h
  | halt x w' =>
    cases x <;> exact h

def edgesIn (h : List Oper) : Bool := h.zipIdx.all fun (o, i) => o.after.all fun e => !Region.binds .any e || decide (e.on < i)
def guardsIn (h : List Oper) : Bool := h.all fun o => match o.guard with | none => true | some (j, _) => decide (j < h.length)
def tailWaits (h t : List Oper) : Bool := t.all fun o => (List.range h.length).all fun j => o.after.any fun e => Region.binds .any e && e.on == j

section
variable {P : Program} {Q : Exit → Act → World → Prop} {h t : List Oper}

theorem edge_lt (hb : edgesIn h = true) {i : Nat} {o : Oper} (ho : h[i]? = some o) {e : Edge} (he : e ∈ o.after) (hbind : Region.binds .any e = true) : e.on < i := by
  have hm : (o, i) ∈ h.zipIdx := by rw [List.mem_zipIdx_iff_getElem?]; exact ho
  have h1 := List.all_eq_true.1 hb _ hm
  have h2 := Array.all_eq_true_iff_forall_mem.1 h1 e he
  simpa [hbind] using h2

theorem wanted_head (hg : guardsIn h = true) {o : Oper} (ho : o ∈ h) (tmps : Array Value) : Region.wanted o (yielded (h ++ t).toArray tmps) = Region.wanted o (yielded h.toArray tmps) := by
  have h1 := List.all_eq_true.1 hg _ ho
  unfold Region.wanted
  cases hq : o.guard with
  | none => rfl
  | some jb =>
    obtain ⟨j, b⟩ := jb
    rw [hq] at h1
    have hj : j < h.length := by simpa using h1
    have e : (h ++ t).toArray[j]? = h.toArray[j]? := by simp [List.getElem?_append_left hj]
    simp only [yielded, e]

theorem getD_app {listed : Array Bool} {m j : Nat} (d : Bool) (hj : j < listed.size) : (listed ++ Array.replicate m false).getD j d = listed.getD j d := by
  simp [Array.getElem?_append_left hj]

theorem set_app {listed : Array Bool} {m i : Nat} (hi : i < listed.size) : (listed ++ Array.replicate m false).setIfInBounds i true = listed.setIfInBounds i true ++ Array.replicate m false := by
  apply Array.ext_getElem?
  intro k
  by_cases hk : k < listed.size
  · have e1 : (listed ++ Array.replicate m false)[k]? = listed[k]? := Array.getElem?_append_left hk
    have e2 : (listed.setIfInBounds i true ++ Array.replicate m false)[k]? = (listed.setIfInBounds i true)[k]? := Array.getElem?_append_left (by simpa using hk)
    rw [e2, Array.getElem?_setIfInBounds, Array.getElem?_setIfInBounds, e1]
    by_cases hik : i = k
    · subst hik
      rw [if_pos rfl, if_pos rfl, if_pos hk, if_pos (by simp; omega)]
    · rw [if_neg hik, if_neg hik]
  · have e1 : (listed ++ Array.replicate m false)[k]? = (Array.replicate m false)[k - listed.size]? := Array.getElem?_append_right (by omega)
    have e2 : (listed.setIfInBounds i true ++ Array.replicate m false)[k]? = (Array.replicate m false)[k - listed.size]? := by
      rw [Array.getElem?_append_right (by simp; omega)]
      simp
    rw [e2, Array.getElem?_setIfInBounds, if_neg (by omega), e1]

/-- How many are not listed yet. -/
def open_ (listed : Array Bool) : Nat := listed.toList.count false

theorem all_true {listed : Array Bool} (h0 : open_ listed = 0) : listed = Array.replicate listed.size true := by
  apply Array.ext_getElem?
  intro k
  by_cases hk : k < listed.size
  · rw [Array.getElem?_eq_getElem hk, Array.getElem?_replicate, if_pos hk]
    have : ∀ b ∈ listed.toList, b ≠ false := by
      intro b hb hf
      subst hf
      have := List.count_pos_iff.2 hb
      unfold open_ at h0
      omega
    have h1 := this listed[k] (by simp)
    cases hq : listed[k] with
    | true => rfl
    | false => exact absurd hq h1
  · rw [Array.getElem?_eq_none (by omega), Array.getElem?_replicate, if_neg hk]

theorem open_set {listed : Array Bool} {i : Nat} (hi : listed.getD i true = false) : open_ (listed.setIfInBounds i true) + 1 = open_ listed := by
  have hlt : i < listed.size := by
    rcases Nat.lt_or_ge i listed.size with h' | h'
    · exact h'
    · simp [Array.getElem?_eq_none h'] at hi
  have hv : listed.toList[i]'(by simpa using hlt) = false := by simpa [hlt] using hi
  unfold open_
  rw [Array.toList_setIfInBounds]
  have hc := List.count_set (a := true) (b := false) (l := listed.toList) (i := i) (by simpa using hlt)
  have hp : 0 < listed.toList.count false := List.count_pos_iff.2 (by rw [← hv]; exact List.getElem_mem _)
  rw [hc, if_pos (by rw [hv]; rfl), if_neg (by decide)]
  omega

theorem exists_first {p : Nat → Prop} (hp : ∃ n, p n) : ∃ n, p n ∧ ∀ m, m < n → ¬ p m := by
  obtain ⟨n, hn⟩ := hp
  induction n using Nat.strongRecOn with
  | _ n ih =>
    by_cases hm : ∃ m, m < n ∧ p m
    · obtain ⟨m, hlt, hpm⟩ := hm
      exact ih m hlt hpm
    · exact ⟨n, hn, fun m hlt hpm => hm ⟨m, hlt, hpm⟩⟩

/-- The first one that is not listed. -/
theorem least_open {listed : Array Bool} (h0 : open_ listed ≠ 0) : ∃ i, listed.getD i true = false ∧ ∀ j, j < i → listed.getD j false = true := by
  have : ∃ i, listed.getD i true = false := by
    have hp : 0 < listed.toList.count false := by unfold open_ at h0; omega
    obtain ⟨i, hi, hv⟩ := List.getElem_of_mem (List.count_pos_iff.1 hp)
    exact ⟨i, by simp at hi; simpa [hi] using hv⟩
  obtain ⟨i, hi, hmin⟩ := exists_first this
  refine ⟨i, hi, fun j hj => ?_⟩
  have hne := hmin j hj
  have hlt : i < listed.size := by
    rcases Nat.lt_or_ge i listed.size with h' | h'
    · exact h'
    · simp [Array.getElem?_eq_none h'] at hi
  have hjl : j < listed.size := by omega
  simp [hjl] at hne ⊢
  exact hne

theorem lift_any (hE : edgesIn h = true) (hG : guardsIn h = true) (hT : tailWaits h t = true)
    (hS : Region.seqB .any (h ++ t).toArray t.length h.length (Array.replicate h.length true ++ Array.replicate t.length false) = true) :
    ∀ (f : Nat) (listed : Array Bool) (a : Act) (w : World), listed.size = h.length → open_ listed = f →
      wpAny P .any h.toArray (headPost P (h ++ t).toArray Q t) f listed a w → wpAny P .any (h ++ t).toArray Q (f + t.length) (listed ++ Array.replicate t.length false) a w := by
  intro f
  induction f with
  | zero =>
    intro listed a w hs ho H
    have e := all_true ho
    rw [hs] at e
    rw [Nat.zero_add, e]
    exact wpAny_of_seq t h.length _ a w (fun j => by rw [List.getElem?_toArray, List.getElem?_append_right (by omega), Nat.add_sub_cancel_left]) hS H.2
  | succ f ih =>
    intro listed a w hs ho H
    obtain ⟨i0, hi0, hlow⟩ := least_open (listed := listed) (by omega)
    have hi0s : i0 < listed.size := by
      rcases Nat.lt_or_ge i0 listed.size with h' | h'
      · exact h'
      · simp [Array.getElem?_eq_none h'] at hi0
    rw [show f + 1 + t.length = (f + t.length) + 1 by omega]
    refine ⟨fun h0 => ?_, fun i hi => ?_⟩
    · have : i0 ∈ Region.ready .any (h ++ t).toArray (listed ++ Array.replicate t.length false) := by
        rw [mem_ready]
        have hih : i0 < h.length := by omega
        refine ⟨by rw [getD_app true hi0s]; exact hi0, h[i0], by simp [List.getElem?_append_left hih], fun e he hb => ?_⟩
        have := edge_lt hE (List.getElem?_eq_getElem hih) he hb
        rw [getD_app false (by omega)]
        exact hlow _ this
      rw [h0] at this
      cases this
    · obtain ⟨hun, o, hoo, hall⟩ := mem_ready.1 hi
      have hih : i < h.length := by
        rcases Nat.lt_or_ge i h.length with h' | h'
        · exact h'
        · exfalso
          have hot : o ∈ t := by
            simp [List.getElem?_append_right h'] at hoo
            exact List.mem_of_getElem? hoo
          have h1 := List.all_eq_true.1 (List.all_eq_true.1 hT o hot) i0 (List.mem_range.2 (by omega))
          obtain ⟨e, he, hbe⟩ := Array.any_eq_true'.1 h1
          simp only [Bool.and_eq_true, beq_iff_eq] at hbe
          have h2 := hall e he hbe.1
          rw [hbe.2, getD_app false hi0s] at h2
          simp [hi0s] at hi0 h2
          rw [hi0] at h2
          cases h2
      have hoh : h[i]? = some o := by simpa [List.getElem?_append_left hih] using hoo
      have hun' : listed.getD i true = false := by rw [getD_app true (by omega)] at hun; exact hun
      have hr : i ∈ Region.ready .any h.toArray listed := by
        rw [mem_ready]
        refine ⟨hun', o, by simpa using hoh, fun e he hb => ?_⟩
        have hlt := edge_lt hE hoh he hb
        have := hall e he hb
        rwa [getD_app false (by omega)] at this
      have H1 := H.2 i hr
      have hK : ∀ a' w', wpAny P .any h.toArray (headPost P (h ++ t).toArray Q t) f (listed.setIfInBounds i true) a' w' → wpAny P .any (h ++ t).toArray Q (f + t.length) ((listed ++ Array.replicate t.length false).setIfInBounds i true) a' w' := by
        intro a' w' hh
        rw [set_app (by omega)]
        exact ih _ a' w' (by simpa using hs) (by have := open_set hun'; omega) hh
      unfold wpOp at H1 ⊢
      have ho' : h.toArray[i]? = some o := by simpa using hoh
      simp only [hoo, ho'] at H1 ⊢
      rw [wanted_head hG (List.mem_of_getElem? hoh)]
      split
      · rename_i hw
        simp only [hw, if_true] at H1
        rcases H1 with H1 | ⟨h1, h2⟩
        · exact .inl (upon_headPost hK H1)
        · exact .inr ⟨h1, h2⟩
      · rename_i hw
        simp only [hw] at H1
        exact hK _ _ H1

/-- One walk of the head in the order of the text, then the tail, serves every order. -/
theorem wp_region_quiet_tail {id : Nat} {C : World → Prop} {a : Act} {w : World} (h t : List Oper) (hm : P.follows .mixedOrders = true) (hB : Region.lexB .any h.toArray = true)
    (hE : edgesIn h = true) (hG : guardsIn h = true) (hT : tailWaits h t = true)
    (hS : Region.seqB .any (h ++ t).toArray t.length h.length (Array.replicate h.length true ++ Array.replicate t.length false) = true)
    (hC : C { w with drawn := w.drawn + 1 })
    (H : wpQuiet P h.toArray C (fun a' => ∀ w', C w' → wpList P (h ++ t).toArray Q t a' w') h a) : (Code.region id (h ++ t).toArray true).wp P Q a w := by
  refine wp_region_any hm ?_
  simp only [Region.lexB, Bool.and_eq_true] at hB
  have h1 := wpAnyQ_lex (P := P) (C := C) (md := .any) hB.1 h 0 (Array.replicate h.length false) a (by simp) (by simpa using hB.2) H
  have h2 := wpAny_of_quiet (Q' := headPost P (h ++ t).toArray Q t) (fun _ w' hw' hh => hh w' hw') _ _ _ _ hC h1
  have h3 := lift_any (Q := Q) hE hG hT hS h.length (Array.replicate h.length false) a _ (by simp) (by simp [open_]) h2
  have e1 : (h ++ t).toArray.size = h.length + t.length := by simp
  rw [e1, show Array.replicate (h.length + t.length) false = Array.replicate h.length false ++ Array.replicate t.length false by simp]
  exact h3

/-- The same for a region that is written out, its first n operations the head. -/
theorem wp_region_quiet_cut {id : Nat} {C : World → Prop} {a : Act} {w : World} (n : Nat) {l : List Oper} (hm : P.follows .mixedOrders = true) (hB : Region.lexB .any (l.take n).toArray = true)
    (hE : edgesIn (l.take n) = true) (hG : guardsIn (l.take n) = true) (hT : tailWaits (l.take n) (l.drop n) = true)
    (hS : Region.seqB .any l.toArray (l.drop n).length (l.take n).length (Array.replicate (l.take n).length true ++ Array.replicate (l.drop n).length false) = true)
    (hC : C { w with drawn := w.drawn + 1 })
    (H : wpQuiet P (l.take n).toArray C (fun a' => ∀ w', C w' → wpList P l.toArray Q (l.drop n) a' w') (l.take n) a) : (Code.region id l.toArray true).wp P Q a w := by
  have e : l.take n ++ l.drop n = l := List.take_append_drop n l
  have := wp_region_quiet_tail (id := id) (C := C) (Q := Q) (P := P) (a := a) (w := w) (l.take n) (l.drop n) hm hB hE hG hT (by rw [e]; exact hS) hC (by rw [e]; exact H)
  rwa [e] at this
end
end Go.Proofs.YtniogaimhkcedaaDoor
/-
  Values of numbers: 32 bytes, four words of 64 bits; small arithmetic on them. Nothing of the program is named here.
-/
namespace Go.Proofs.YtniogaimhkcedaaDoor
open Go.RowKit

/-- 2^64, 2^128, 2^192, 2^256 and p are written out as numerals below. -/
def v4 (a b c d : Nat) : Nat := a + 18446744073709551616 * b + 340282366920938463463374607431768211456 * c + 6277101735386680763835789423207666416102355444464034512896 * d

/-- The bytes of a number, the lowest one first. -/
def numA (n : Nat) : Array Value := ((List.range 32).map fun i => Value.int .u8 ((n / 256 ^ i % 256 : Nat) : Int)).toArray

theorem numA_size (n : Nat) : (numA n).size = 32 := by simp [numA]

theorem numA_get (n i : Nat) (h : i < 32) : (numA n)[i]? = some (.int .u8 ((n / 256 ^ i % 256 : Nat) : Int)) := by
  simp [numA, h]

theorem numA_one (n : Nat) : (numA n).all (·.oneCell') = true := by
  simp [numA, Value.oneCell']

theorem or_shift (k x y : Nat) (hx : x < 2 ^ k) (h : x + y * 2 ^ k < 18446744073709551616) :
    bits .or .u64 (x : Int) ((y * 2 ^ k : Nat) : Int) = ((x + y * 2 ^ k : Nat) : Int) := by
  rw [u64_or_nat _ _ (by omega) (by omega)]
  have := Nat.two_pow_add_eq_or_of_lt hx y
  rw [Nat.or_comm, Nat.mul_comm y, ← this, Nat.add_comm]

/-- Eight bytes of a number are a word of it. -/
theorem word_of (n : Nat) : n % 256 + n / 256 % 256 * 256 + n / 65536 % 256 * 65536 + n / 16777216 % 256 * 16777216 + n / 4294967296 % 256 * 4294967296 + n / 1099511627776 % 256 * 1099511627776 + n / 281474976710656 % 256 * 281474976710656 + n / 72057594037927936 % 256 * 72057594037927936 = n % 18446744073709551616 := by
  omega

theorem div_pow_add (n off i : Nat) : n / 256 ^ (off + i) = n / 256 ^ off / 256 ^ i := by
  rw [Nat.pow_add, Nat.div_div_eq_div_mul]

theorem word_bits (b0 b1 b2 b3 b4 b5 b6 b7 : Nat) (h0 : b0 < 256) (h1 : b1 < 256) (h2 : b2 < 256) (h3 : b3 < 256) (h4 : b4 < 256) (h5 : b5 < 256) (h6 : b6 < 256) (h7 : b7 < 256) :
    (bits BinOp.or IntKind.u64
      (bits BinOp.or IntKind.u64
        (bits BinOp.or IntKind.u64
          (bits BinOp.or IntKind.u64
            (bits BinOp.or IntKind.u64
              (bits BinOp.or IntKind.u64
                (bits BinOp.or IntKind.u64 (IntKind.u64.wrap ↑b0)
                  (IntKind.u64.wrap (IntKind.u64.wrap ↑b1 * 256)))
                (IntKind.u64.wrap (IntKind.u64.wrap ↑b2 * 65536)))
              (IntKind.u64.wrap (IntKind.u64.wrap ↑b3 * 16777216)))
            (IntKind.u64.wrap (IntKind.u64.wrap ↑b4 * 4294967296)))
          (IntKind.u64.wrap (IntKind.u64.wrap ↑b5 * 1099511627776)))
        (IntKind.u64.wrap (IntKind.u64.wrap ↑b6 * 281474976710656)))
      (IntKind.u64.wrap (IntKind.u64.wrap ↑b7 * 72057594037927936))) = ((b0 + b1 * 256 + b2 * 65536 + b3 * 16777216 + b4 * 4294967296 + b5 * 1099511627776 + b6 * 281474976710656 + b7 * 72057594037927936 : Nat) : Int) := by
  simp only [IntKind.wrap_u64]
  have e0 : (b0 : Int) % 18446744073709551616 = ((b0 : Nat) : Int) := by omega
  have e1 : ((b1 : Int) % 18446744073709551616 * 256) % 18446744073709551616 = ((b1 * 2 ^ 8 : Nat) : Int) := by omega
  have e2 : ((b2 : Int) % 18446744073709551616 * 65536) % 18446744073709551616 = ((b2 * 2 ^ 16 : Nat) : Int) := by omega
  have e3 : ((b3 : Int) % 18446744073709551616 * 16777216) % 18446744073709551616 = ((b3 * 2 ^ 24 : Nat) : Int) := by omega
  have e4 : ((b4 : Int) % 18446744073709551616 * 4294967296) % 18446744073709551616 = ((b4 * 2 ^ 32 : Nat) : Int) := by omega
  have e5 : ((b5 : Int) % 18446744073709551616 * 1099511627776) % 18446744073709551616 = ((b5 * 2 ^ 40 : Nat) : Int) := by omega
  have e6 : ((b6 : Int) % 18446744073709551616 * 281474976710656) % 18446744073709551616 = ((b6 * 2 ^ 48 : Nat) : Int) := by omega
  have e7 : ((b7 : Int) % 18446744073709551616 * 72057594037927936) % 18446744073709551616 = ((b7 * 2 ^ 56 : Nat) : Int) := by omega
  rw [e0, e1, e2, e3, e4, e5, e6, e7]
  rw [or_shift 8 b0 b1 (by omega) (by omega), or_shift 16 _ b2 (by omega) (by omega), or_shift 24 _ b3 (by omega) (by omega), or_shift 32 _ b4 (by omega) (by omega), or_shift 40 _ b5 (by omega) (by omega), or_shift 48 _ b6 (by omega) (by omega), or_shift 56 _ b7 (by omega) (by omega)]

theorem ret_int {k : IntKind} {a b : Int} (h : a = b) : Ending.returned (.int k a) = .returned (.int k b) := by rw [h]
theorem ret_two {k l : IntKind} {a b c d : Int} (h : a = c) (h' : b = d) : Ending.returned (.tuple #[.int k a, .int l b]) = .returned (.tuple #[.int k c, .int l d]) := by rw [h, h']

/-- What a product of two words and two words more come to, as the program reckons it. -/
theorem step_low (x m P : Nat) (hx : x < 18446744073709551616) (hm : m < 18446744073709551616) (hP : P ≤ 340282366920938463426481119284349108225) :
    (P % 18446744073709551616 + m) / 18446744073709551616 + P / 18446744073709551616 + ((P % 18446744073709551616 + m) % 18446744073709551616 + x) / 18446744073709551616 = (x + P + m) / 18446744073709551616 ∧
    ((P % 18446744073709551616 + m) % 18446744073709551616 + x) % 18446744073709551616 = (x + P + m) % 18446744073709551616 ∧ (x + P + m) / 18446744073709551616 < 18446744073709551616 := by
  omega
end Go.Proofs.YtniogaimhkcedaaDoor
/-
  One operation of a quiet walk: a whole array is read, a function is called, two arrays of numbers are compared, a value is reckoned.
-/
namespace Go.Proofs.YtniogaimhkcedaaDoor
open Go Go.RowKit
set_option linter.unusedVariables false
set_option linter.unusedSimpArgs false

section
variable {P : Program} {ops : Array Oper} {C : World → Prop} {Q : Act → Prop} {a : Act} {o : Oper} {rest : List Oper}

theorem q_load (hw : Region.wanted o (yielded ops a.tmps) = true) (ty : TypeId) (x : Operand) (g : Nat) (t : TypeId) (cs : Array Value) (fr : Nat × Nat) (d : TypeDesc) (ho : o.op = .load ty x) (hx : a.eval x = .pointer (some ⟨g, 0, none⟩))
    (hC : ∀ w, C w → w.heap[g]? = some (.cells cs t fr)) (hu : P.underlying ty = some d) (hd : (match d with | .struct _ | .array _ _ => true | _ => false) = true) (hi : (P.info? ty).map (·.size) = some cs.size)
    (h : wpQuiet P ops C Q rest (a.put o.dst (.agg cs))) : wpQuiet P ops C Q (o :: rest) a := by
  refine BigFrame.wpQuiet_want hw fun K hK => ⟨.agg cs, fun w hc => ?_, hK _ h⟩
  unfold Oper.quietAt execOp
  simp only [ho, hx, Instr.loadAt, Instr.sureAddr, Sem.run_bind, Sem.run_pure, Result.andThen_ok, run_loadVar_row w g t ty cs fr d (hC w hc) hu hd hi]
  exact ⟨rfl, rfl⟩

theorem q_call (hw : Region.wanted o (yielded ops a.tmps) = true) (f : FuncId) (fn : Func) (c : Code) (args : List Operand) (ts : Array TypeId) (vs : List Value) (v : Value) (ho : o.op = .call { callee := .value (.func f), args := args.toArray, argTypes := ts })
    (hargs : args.map a.eval = vs) (hf : P.funcs[f]? = some fn) (hname : (fn.name == "runtime.NumGoroutine") = false) (hb : fn.body = some c)
    (hc : ∀ w, C w → Calls P f vs.toArray w fun e w' => e = .returned v ∧ C w')
    (h : wpQuiet P ops C Q rest (a.put o.dst v)) : wpQuiet P ops C Q (o :: rest) a := by
  refine BigFrame.wpQuiet_want hw fun K hK => ⟨v, fun w hC => ?_, hK _ h⟩
  have h1 : fn.name ≠ "runtime.NumGoroutine" := by simpa using hname
  have ha : args.toArray.map a.eval = vs.toArray := by rw [List.map_toArray, hargs]
  have hrun : (execOp a.eval o).run P w = .ok (.enter f vs.toArray) w := by
    unfold execOp
    simp only [ho, resolve, ha]
    simp [Deferred.ofValue, Act.eval, invoke, callFunc, hf, h1, hb]
  unfold Oper.quietAt
  rw [hrun]
  exact ⟨rfl, hc w hC⟩

theorem q_val (hw : Region.wanted o (yielded ops a.tmps) = true) (v : Value) (hrun : ∀ w, (execOp a.eval o).run P w = .ok (.value v) w)
    (h : wpQuiet P ops C Q rest (a.put o.dst v)) : wpQuiet P ops C Q (o :: rest) a := by
  refine BigFrame.wpQuiet_want hw fun K hK => ⟨v, fun w hC => ?_, hK _ h⟩
  unfold Oper.quietAt
  rw [hrun]
  exact ⟨rfl, rfl⟩
end

section
variable {P : Program}

theorem eq_cells {d : Nat} {e : TypeId} {k : IntKind} {xs ys : Array Value} {fx fy : Nat → Int} (he : P.underlying e = some (.int k)) (hagg : ∀ w, (isAgg e).run P w = .ok false w) :
    ∀ (l : List Nat) (w : World), (∀ i ∈ l, xs[i * 1]? = some (.int k (fx i)) ∧ ys[i * 1]? = some (.int k (fy i))) →
    (forIn (m := Sem) l ((none, ()) : Option Bool × Unit) fun i r => do
        let y ← part e xs (i * 1)
        let z ← part e ys (i * 1)
        let b ← Op.equalIn (d + 1) e y z
        if (!b) = true then pure (ForInStep.done (some false, ())) else pure (ForInStep.yield (none, ()))).run P w
      = .ok (if l.all (fun i => fx i == fy i) then (none, ()) else (some false, ())) w
  | [], w, _ => by simp
  | i :: l, w, h => by
    obtain ⟨hx, hy⟩ := h i (by simp)
    have ih := eq_cells (d := d) (xs := xs) (ys := ys) (fx := fx) (fy := fy) he hagg l w (fun j hj => h j (by simp [hj]))
    simp only [List.forIn_cons, Sem.run_bind, part, hagg, Result.andThen_ok, Bool.false_eq_true, if_false, hx, hy, Sem.run_pure, run_equalIn_int w d e k k (fx i) (fy i) he, Sem.run_ite]
    by_cases hq : fx i = fy i
    · simp only [hq, beq_self_eq_true, Bool.not_true, Bool.false_eq_true, if_false, Result.andThen_ok, List.all_cons, Bool.true_and]
      exact ih
    · simp [hq]

theorem run_equal_cells {t e : TypeId} {k : IntKind} {len : Nat} {xs ys : Array Value} {fx fy : Nat → Int} (ht : P.underlying t = some (.array len e)) (he : P.underlying e = some (.int k)) (hs : ∀ w, (sizeOf e).run P w = .ok 1 w) (hagg : ∀ w, (isAgg e).run P w = .ok false w)
    (hx : ∀ i, i < len → xs[i]? = some (.int k (fx i))) (hy : ∀ i, i < len → ys[i]? = some (.int k (fy i))) (w : World) :
    (Op.equal t (.agg xs) (.agg ys)).run P w = .ok ((List.range len).all fun i => fx i == fy i) w := by
  have key := eq_cells (P := P) (d := 9998) (e := e) (xs := xs) (ys := ys) (fx := fx) (fy := fy) he hagg (List.range len) w (fun i hi => by
    have := List.mem_range.1 hi
    simpa using ⟨hx i this, hy i this⟩)
  show (Op.equalIn (9998 + 1 + 1) t (.agg xs) (.agg ys)).run P w = _
  generalize 9998 = d at *
  unfold Op.equalIn
  simp only [Sem.run_bind, run_underlying ht, Result.andThen_ok, hs]
  have hr : ∀ f : Nat → Option Bool × Unit → Sem (ForInStep (Option Bool × Unit)), forIn (m := Sem) [:len] (none, ()) f = forIn (List.range len) (none, ()) f := by
    intro f
    rw [Std.Legacy.Range.forIn_eq_forIn_range', List.range_eq_range']
    simp [Std.Legacy.Range.size]
  rw [hr, key]
  simp only [Result.andThen_ok]
  generalize (List.range len).all (fun i => fx i == fy i) = b
  cases b <;> simp
end

theorem digits_mod (n m : Nat) : ∀ k, (∀ i, i < k → n / 256 ^ i % 256 = m / 256 ^ i % 256) → n % 256 ^ k = m % 256 ^ k
  | 0, _ => by simp [Nat.mod_one]
  | k + 1, h => by
    rw [Nat.mod_pow_succ, Nat.mod_pow_succ, digits_mod n m k (fun i hi => h i (by omega)), h k (by omega)]

theorem num_all (n m : Nat) (hn : n < 115792089237316195423570985008687907853269984665640564039457584007913129639936) (hm : m < 115792089237316195423570985008687907853269984665640564039457584007913129639936) :
    ((List.range 32).all fun i => ((n / 256 ^ i % 256 : Nat) : Int) == ((m / 256 ^ i % 256 : Nat) : Int)) = decide (n = m) := by
  rw [Bool.eq_iff_iff]
  simp only [List.all_eq_true, List.mem_range, beq_iff_eq, decide_eq_true_eq]
  constructor
  · intro h
    have h1 := digits_mod n m 32 (fun i hi => by have := h i hi; exact Int.ofNat.inj this)
    rw [Nat.mod_eq_of_lt hn, Nat.mod_eq_of_lt hm] at h1
    exact h1
  · rintro rfl i _
    rfl

theorem run_equal_num {P : Program} {t e : TypeId} (n m : Nat) (hn : n < 115792089237316195423570985008687907853269984665640564039457584007913129639936) (hm : m < 115792089237316195423570985008687907853269984665640564039457584007913129639936) (ht : P.underlying t = some (.array 32 e)) (he : P.underlying e = some (.int .u8)) (hs : ∀ w, (sizeOf e).run P w = .ok 1 w) (hagg : ∀ w, (isAgg e).run P w = .ok false w) (w : World) :
    (Op.equal t (.agg (numA n)) (.agg (numA m))).run P w = .ok (decide (n = m)) w := by
  rw [run_equal_cells ht he hs hagg (fx := fun i => ((n / 256 ^ i % 256 : Nat) : Int)) (fy := fun i => ((m / 256 ^ i % 256 : Nat) : Int)) (fun i hi => numA_get n i hi) (fun i hi => numA_get m i hi), num_all n m hn hm]

theorem run_eql_num {P : Program} {t e : TypeId} {o : Oper} {ρ : Operand → Value} {x y : Operand} {u : TypeId} (n m : Nat) (ho : o.op = .binOp .eql t x y u) (hx : ρ x = .agg (numA n)) (hy : ρ y = .agg (numA m)) (hn : n < 115792089237316195423570985008687907853269984665640564039457584007913129639936) (hm : m < 115792089237316195423570985008687907853269984665640564039457584007913129639936) (ht : P.underlying t = some (.array 32 e)) (he : P.underlying e = some (.int .u8)) (hs : ∀ w, (sizeOf e).run P w = .ok 1 w) (hagg : ∀ w, (isAgg e).run P w = .ok false w) (hg : P.eqGuardType P.depth t = false) (w : World) :
    (execOp ρ o).run P w = .ok (.value (.bool (decide (n = m)))) w := by
  unfold execOp
  simp only [ho, hx, hy, eqGuard, binOp, Sem.run_bind, Sem.run_pure, Result.andThen_ok, run_equal_num n m hn hm ht he hs hagg, run_program, hg, Bool.not_false, if_true]
  simp
  intro h
  rw [hg] at h
  cases h

theorem run_neq_num {P : Program} {t e : TypeId} {o : Oper} {ρ : Operand → Value} {x y : Operand} {u : TypeId} (n m : Nat) (ho : o.op = .binOp .neq t x y u) (hx : ρ x = .agg (numA n)) (hy : ρ y = .agg (numA m)) (hn : n < 115792089237316195423570985008687907853269984665640564039457584007913129639936) (hm : m < 115792089237316195423570985008687907853269984665640564039457584007913129639936) (ht : P.underlying t = some (.array 32 e)) (he : P.underlying e = some (.int .u8)) (hs : ∀ w, (sizeOf e).run P w = .ok 1 w) (hagg : ∀ w, (isAgg e).run P w = .ok false w) (hg : P.eqGuardType P.depth t = false) (w : World) :
    (execOp ρ o).run P w = .ok (.value (.bool (!decide (n = m)))) w := by
  unfold execOp
  simp only [ho, hx, hy, eqGuard, binOp, Sem.run_bind, Sem.run_pure, Result.andThen_ok, run_equal_num n m hn hm ht he hs hagg, run_program, hg, Bool.not_false, if_true]
  simp
  intro h
  rw [hg] at h
  cases h
end Go.Proofs.YtniogaimhkcedaaDoor
/-
  Blocks of ints: read, written, by one cell or whole; what holds behind.
-/
namespace Go.Proofs.YtniogaimhkcedaaDoor.sh
open Go Go.RowKit
set_option linter.unusedVariables false
set_option linter.unusedSimpArgs false

/-- A fact that no unifier looks into. -/
structure Kept (p : Prop) : Prop where
  out : p

def ints (k : IntKind) (l : List Nat) : Array Value := (l.map fun n : Nat => Value.int k (n : Int)).toArray
theorem ints_size (k : IntKind) (l : List Nat) : (ints k l).size = l.length := by simp [ints]
theorem ints_get {k : IntKind} {l : List Nat} {i n : Nat} (h : l[i]? = some n) : (ints k l)[i]? = some (.int k (n : Int)) := by simp [ints, h]
theorem ints_set (k : IntKind) (l : List Nat) (i n : Nat) : (ints k l).setIfInBounds i (.int k (n : Int)) = ints k (l.set i n) := by simp [ints, List.map_set]
theorem ints_one (k : IntKind) (l : List Nat) : (ints k l).all (·.oneCell') = true := by simp [ints, Value.oneCell']
theorem ints_append (k : IntKind) (l m : List Nat) : ints k l ++ ints k m = ints k (l ++ m) := by simp [ints]

def Blk (w : World) (g : Nat) (t : TypeId) (A : Array Value) : Prop := w.heap[g]? = some (.cells A t (0, 0))
theorem Blk.lt {w : World} {g : Nat} {t : TypeId} {A : Array Value} (h : Blk w g t A) : g < w.heap.size := (Array.getElem?_eq_some_iff.1 h).1
theorem Blk.below {w w' : World} {g B : Nat} {t : TypeId} {A : Array Value} (h : Blk w g t A) (hb : Below B w w') (hB : g < B) : Blk w' g t A := (hb.block _ hB).trans h
theorem Blk.under {w w' : World} {g : Nat} {t : TypeId} {A : Array Value} (h : Blk w g t A) (hb : Below w.heap.size w w') : Blk w' g t A := h.below hb h.lt
theorem Blk.alloc {w : World} {g : Nat} {t : TypeId} {A : Array Value} (h : Blk w g t A) (o : Obj) : Blk (w.alloc o) g t A := (Below.heap_alloc w o g h.lt).trans h
theorem heap_new (w : World) (o : Obj) : (w.alloc o).heap[w.heap.size]? = some o := by
  show (w.heap.push o)[w.heap.size]? = some o
  simp
theorem blk_new (w : World) (t : TypeId) (A : Array Value) : Blk (w.alloc (.cells A t)) w.heap.size t A := heap_new _ _
theorem blk_top (w : World) (g : Nat) (t : TypeId) (A : Array Value) (h : g = w.heap.size) : Blk (w.alloc (.cells A t)) g t A := by rw [h]; exact heap_new _ _
theorem cell_row {w : World} {g : Nat} {A : Array Value} {t : TypeId} {fr : Nat × Nat} {j : Nat} {v : Value} (hg : w.heap[g]? = some (.cells A t fr)) (hv : A[j]? = some v) : w.cell? ⟨g, j, none⟩ = some v := by
  simp [World.cell?, hg, hv]
theorem Blk.cell {w : World} {g j : Nat} {t : TypeId} {A : Array Value} {v : Value} (h : Blk w g t A) (hv : A[j]? = some v) : w.cell? ⟨g, j, none⟩ = some v := cell_row h hv

theorem addr_add (g k j : Nat) : (⟨g, k, none⟩ : Addr).add j = ⟨g, k + j, none⟩ := by
  simp [Addr.add]

/-- The world behind a store to block g alone. -/
structure Put (w w' : World) (g : Nat) : Prop where
  grown : w.grownBy w' (some g)
  size : w'.heap.size = w.heap.size
theorem Put.below {w w' : World} {g B : Nat} (h : Put w w' g) (hB : B ≤ g) : Below B w w' := ⟨h.grown.os, h.grown.tape, h.grown.output, by rw [h.size]; exact Nat.le_refl _, fun k hk => by
  by_cases hk2 : k < w.heap.size
  · exact h.grown.block k hk2 (fun e => by cases e; omega)
  · rw [Array.getElem?_eq_none (by rw [h.size]; omega), Array.getElem?_eq_none (by omega)]⟩
theorem Put.blk {w w' : World} {g k : Nat} {t : TypeId} {A : Array Value} (h : Put w w' g) (hk : Blk w k t A) (hne : k ≠ g) : Blk w' k t A := (h.grown.block k hk.lt (fun e => by cases e; exact hne rfl)).trans hk

theorem ag_u8 (w : World) : (isAgg 5).run Tryd.prog w = .ok false w := by kernel_rfl
theorem sz_u8 (w : World) : (sizeOf 5).run Tryd.prog w = .ok 1 w := by kernel_rfl
theorem ag_u32 (w : World) : (isAgg 132).run Tryd.prog w = .ok false w := by kernel_rfl
theorem sz_u32 (w : World) : (sizeOf 132).run Tryd.prog w = .ok 1 w := by kernel_rfl
theorem ag_u64 (w : World) : (isAgg 44).run Tryd.prog w = .ok false w := by kernel_rfl
theorem sz_u64 (w : World) : (sizeOf 44).run Tryd.prog w = .ok 1 w := by kernel_rfl
theorem ag_int (w : World) : (isAgg 3).run Tryd.prog w = .ok false w := by kernel_rfl
theorem sz_int (w : World) : (sizeOf 3).run Tryd.prog w = .ok 1 w := by kernel_rfl
section
variable {ops : Array Oper} {rest : List Oper} {o : Oper} {a : Act} {w : World} {Q : Exit → Act → World → Prop}
/-- One cell of a block is read. -/
theorem run_elem {P : Program} {e : TypeId} (ag : ∀ w, (isAgg e).run P w = .ok false w) (x : Operand) (ho : o.op = .load e x) (g k : Nat) (hx : a.eval x = .pointer (some ⟨g, k, none⟩)) {t : TypeId} (A : Array Value) (v : Value) (hg : Blk w g t A) (hv : A[k]? = some v) : (execOp a.eval o).run P w = .ok (.value v) w := by
  have hc : w.cell? ⟨g, k, none⟩ = some v := cell_row hg hv
  unfold execOp
  simp only [ho, hx, Instr.loadAt, Instr.sureAddr, Sem.run_bind, Sem.run_pure, Result.andThen_ok]
  simp [loadVar, ag, go_sem, hc]
theorem wl_elem (hgd : o.guard = none) (e : TypeId) (ag : ∀ w, (isAgg e).run Tryd.prog w = .ok false w) (x : Operand) (ho : o.op = .load e x) (g k : Nat) (hx : a.eval x = .pointer (some ⟨g, k, none⟩)) {t : TypeId} (A : Array Value) (v : Value)
    (hg : Blk w g t A) (hv : A[k]? = some v) (h : wpList Tryd.prog ops Q rest (a.put o.dst v) w) : wpList Tryd.prog ops Q (o :: rest) a w :=
  wpList_plain hgd fun K hK => by
    unfold Oper.wp
    rw [run_elem ag x ho g k hx A v hg hv]
    exact hK _ _ h
/-- One cell of a block is written. -/
theorem wl_setElem (hgd : o.guard = none) (e : TypeId) (sz : ∀ w, (sizeOf e).run Tryd.prog w = .ok 1 w) (x y : Operand) (ho : o.op = .store e x y) (g k : Nat) (kd : IntKind) (v : Int) (hx : a.eval x = .pointer (some ⟨g, k, none⟩)) (hy : a.eval y = .int kd v) {t : TypeId} (A : Array Value)
    (hg : Blk w g t A) (hk : k < A.size) (h : ∀ w', Blk w' g t (A.setIfInBounds k (.int kd v)) → Put w w' g → wpList Tryd.prog ops Q rest (a.put o.dst undef) w') : wpList Tryd.prog ops Q (o :: rest) a w :=
  wpList_plain hgd fun K hK => by
    have hc : w.cell? ⟨g, k, none⟩ = some A[k] := cell_row hg (Array.getElem?_eq_getElem hk)
    have hf : w.frozen? ⟨g, k, none⟩ = false := frozen_of_row w g k A _ hg
    have hrun : (execOp a.eval o).run Tryd.prog w = .ok .skip (w.setCell ⟨g, k, none⟩ (.int kd v)) := by
      unfold execOp
      simp only [ho, hx, hy, Instr.storeAt, Instr.sureAddr, Sem.run_bind, Sem.run_pure, Result.andThen_ok]
      simp [storeVar, storeCells, sz, go_sem, hc, hf, Value.cells]
      try rfl
    unfold Oper.wp
    rw [hrun]
    exact hK _ _ (h _ (heap_setCell_same _ _ _ _ _ _ hg) ⟨⟨rfl, rfl, rfl, by simp, fun j _ hj => heap_setCell_other w ⟨g, k, none⟩ j _ (fun e => hj (by rw [e]))⟩, by simp⟩)
/-- A whole block is read. -/
theorem wl_load (hgd : o.guard = none) (t : TypeId) (x : Operand) (ho : o.op = .load t x) (g : Nat) (hx : a.eval x = .pointer (some ⟨g, 0, none⟩)) {t' : TypeId} (A : Array Value) (len : Nat) (e : TypeId) (hd : Tryd.prog.underlying t = some (.array len e)) (hs : (Tryd.prog.info? t).map (·.size) = some A.size)
    (hg : Blk w g t' A) (h : wpList Tryd.prog ops Q rest (a.put o.dst (.agg A)) w) : wpList Tryd.prog ops Q (o :: rest) a w :=
  wpList_load_row hgd t x ho g hx t' A (0, 0) _ hg hd rfl hs h
theorem wl_loadS (hgd : o.guard = none) (t : TypeId) (x : Operand) (ho : o.op = .load t x) (g : Nat) (hx : a.eval x = .pointer (some ⟨g, 0, none⟩)) {t' : TypeId} (A : Array Value) (fs : Array Field) (hd : Tryd.prog.underlying t = some (.struct fs)) (hs : (Tryd.prog.info? t).map (·.size) = some A.size)
    (hg : Blk w g t' A) (h : wpList Tryd.prog ops Q rest (a.put o.dst (.agg A)) w) : wpList Tryd.prog ops Q (o :: rest) a w :=
  wpList_load_row hgd t x ho g hx t' A (0, 0) _ hg hd rfl hs h
/-- A whole block is written. -/
theorem wl_store (hgd : o.guard = none) (t : TypeId) (x y : Operand) (ho : o.op = .store t x y) (g : Nat) (A : Array Value) (hx : a.eval x = .pointer (some ⟨g, 0, none⟩)) (hy : a.eval y = .agg A) {t' : TypeId} (cs : Array Value) (hg : Blk w g t' cs) (hs : (Tryd.prog.info? t).map (·.size) = some A.size) (hl : cs.size = A.size) (h1 : A.all (·.oneCell') = true)
    (h : ∀ w', Blk w' g t' A → Put w w' g → wpList Tryd.prog ops Q rest (a.put o.dst undef) w') : wpList Tryd.prog ops Q (o :: rest) a w :=
  wpList_store_row hgd t x y ho g A hx hy t' cs hg hs hl h1 (h _ (setRow_heap _ _ _ _ _ _ hg) ⟨⟨rfl, rfl, rfl, by simp, fun k _ hk => setRow_other _ _ _ _ (fun e => hk (by rw [e]))⟩, by simp⟩)
/-- A piece of a block is written over. -/
theorem wl_copy (hgd : o.guard = none) (d s : Operand) (dT sT : TypeId) (ho : o.op = .call { callee := .builtin .copy, args := #[d, s], argTypes := #[dT, sT] }) (elem : TypeId) (hu : Tryd.prog.underlying dT = some (.slice elem)) (hsz : (Tryd.prog.info? elem).map (·.size) = some 1)
    (g off dLen dCap : Nat) (ad : Addr) (sLen sCap : Nat) (hd : a.eval d = .slice (some ⟨g, off, none⟩) dLen dCap) (hs : a.eval s = .slice (some ad) sLen sCap)
    {t : TypeId} (cur : Array Value) (hg : Blk w g t cur) (cs : List Value) (hn : cs.length = Nat.min sLen dLen) (hsrc : ∀ j v, cs[j]? = some v → w.cell? (ad.add j) = some v) (hfit : off + cs.length ≤ cur.size) (h1 : ∀ v ∈ cs, v.oneCell' = true)
    (h : ∀ w', Blk w' g t (splice cur.toList off cs).toArray → Put w w' g → wpList Tryd.prog ops Q rest (a.put o.dst (goInt cs.length)) w') : wpList Tryd.prog ops Q (o :: rest) a w :=
  wpList_copy_own hgd d s dT sT ho elem hu hsz g off dLen dCap ad sLen sCap hd hs cur t hg cs hn hsrc hfit h1 (h _ (setRow_heap _ _ _ _ _ _ hg) ⟨⟨rfl, rfl, rfl, by simp, fun k _ hk => setRow_other _ _ _ _ (fun e => hk (by rw [e]))⟩, by simp⟩)
/-- A value that hangs on the frame alone. -/
theorem wl_val (hg : o.guard = none) (v : Value) (hrun : (execOp a.eval o).run Tryd.prog w = .ok (.value v) w) (h : wpList Tryd.prog ops Q rest (a.put o.dst v) w) : wpList Tryd.prog ops Q (o :: rest) a w :=
  wpList_plain hg fun K hK => by
    unfold Oper.wp
    rw [hrun]
    exact hK _ _ h
end
/-- One cell of a block is read, in a region that draws its order. -/
theorem q_elem {P : Program} {ops : Array Oper} {C : World → Prop} {Q : Act → Prop} {a : Act} {o : Oper} {rest : List Oper} (hw : Region.wanted o (yielded ops a.tmps) = true) (e : TypeId) (ag : ∀ w, (isAgg e).run P w = .ok false w) (x : Operand) (ho : o.op = .load e x) (g k : Nat) (hx : a.eval x = .pointer (some ⟨g, k, none⟩)) (t : TypeId) (A : Array Value) (v : Value)
    (hg : ∀ w, C w → Blk w g t A) (hv : A[k]? = some v) (h : wpQuiet P ops C Q rest (a.put o.dst v)) : wpQuiet P ops C Q (o :: rest) a := by
  refine BigFrame.wpQuiet_want hw fun K hK => ⟨v, fun w hC => ?_, hK _ h⟩
  unfold Oper.quietAt
  rw [run_elem ag x ho g k hx A v (hg w hC) hv]
  exact ⟨rfl, rfl⟩
end Go.Proofs.YtniogaimhkcedaaDoor.sh
/-
  What a word comes to that is turned to the right, by one amount and by some.
-/
namespace Go.Proofs.YtniogaimhkcedaaDoor.sh
open Go Go.RowKit
set_option linter.unusedVariables false
set_option linter.unusedSimpArgs false

theorem wl_at {ops : Array Oper} {rest : List Oper} {o : Oper} {a : Act} {w : World} {Q : Exit → Act → World → Prop} {d : Nat} (hd : o.dst = some d) (hg : o.guard = none) (v : Value) (hrun : (execOp a.eval o).run Tryd.prog w = .ok (.value v) w) (h : wpList Tryd.prog ops Q rest (a.put o.dst v) w) : wpList Tryd.prog ops Q (o :: rest) a w := wl_val hg v hrun h

def rotr (n m : Nat) : Nat := (n * 2 ^ (32 - m) % 4294967296) ||| (n / 2 ^ m)
theorem rotr_lt (n m : Nat) (hn : n < 4294967296) : rotr n m < 4294967296 := by
  unfold rotr
  exact Nat.or_lt_two_pow (n := 32) (Nat.mod_lt _ (by decide)) (Nat.lt_of_le_of_lt (Nat.div_le_self _ _) hn)
theorem count_of (m : Nat) (h0 : 0 < m) (h1 : m < 32) : bits .and .u64 (IntKind.u64.wrap (-(m : Int))) 31 = ((32 - m : Nat) : Int) := by
  rw [IntKind.wrap_u64, show (-(m : Int)) % 18446744073709551616 = ((18446744073709551616 - m : Nat) : Int) from by omega, show (31 : Int) = ((31 : Nat) : Int) from rfl, u64_and_nat _ _ (by omega) (by decide), nat_mask5]
  omega

/-- A word turned by each of the amounts, all of that by exclusive or. -/
def turnN (n : Nat) (ms : List Nat) : Nat := ms.foldl (fun x m => x ^^^ rotr n m) 0
theorem turnN_snoc (n : Nat) (ms : List Nat) (m : Nat) : turnN n (ms ++ [m]) = turnN n ms ^^^ rotr n m := by simp [turnN]
theorem fold_lt (n : Nat) (hn : n < 4294967296) : ∀ (ms : List Nat) (x : Nat), x < 4294967296 → ms.foldl (fun x m => x ^^^ rotr n m) x < 4294967296
  | [], x, h => h
  | m :: r, x, h => fold_lt n hn r _ (Nat.xor_lt_two_pow (n := 32) h (rotr_lt n m hn))
theorem turnN_lt (n : Nat) (ms : List Nat) (hn : n < 4294967296) : turnN n ms < 4294967296 := fold_lt n hn ms 0 (by decide)

end Go.Proofs.YtniogaimhkcedaaDoor.sh
/-
  Words: the first state, sums, their bytes.
-/
namespace Go.Proofs.YtniogaimhkcedaaDoor.sh
open Go Go.RowKit
set_option linter.unusedVariables false
set_option linter.unusedSimpArgs false

/-- A row that is filled in order: the first i as they shall be, the others as they were. -/
def mix (L a : List Nat) (i : Nat) : List Nat := L.take i ++ a.drop i
theorem mix_zero (L a : List Nat) : mix L a 0 = a := by simp [mix]
theorem mix_all (L a : List Nat) (h : L.length = a.length) : mix L a a.length = L := by simp [mix, ← h]
theorem mix_len (L a : List Nat) (i : Nat) (h : L.length = a.length) : (mix L a i).length = a.length := by simp [mix]; omega
theorem mix_get (L a : List Nat) (i : Nat) (h : L.length = a.length) (hi : i < a.length) : (mix L a i)[i]? = a[i]? := by
  simp [mix, List.getElem?_append, h]
  rw [if_neg (by omega), Nat.min_eq_left (by omega)]
  simp
theorem mix_set (L a : List Nat) (i v : Nat) (h : L.length = a.length) (hi : L[i]? = some v) : (mix L a i).set i v = mix L a (i + 1) := by
  have hil : i < L.length := (List.getElem?_eq_some_iff.1 hi).1
  have e1 : (L.take i).length = i := by simp; omega
  unfold mix
  rw [List.set_append_right _ _ (by omega), e1, Nat.sub_self, List.take_add_one, hi, List.append_assoc]
  congr 1
  have e2 : a.drop i = a[i]'(by omega) :: a.drop (i + 1) := List.drop_eq_getElem_cons (by omega)
  rw [e2]
  rfl

def plusL (a b : List Nat) : List Nat := List.zipWith (fun x y => (x + y) % 4294967296) a b
theorem plusL_len (a b : List Nat) (h : a.length = b.length) : (plusL a b).length = a.length := by simp [plusL, h]
theorem plusL_get (a b : List Nat) (i x y : Nat) (hx : a[i]? = some x) (hy : b[i]? = some y) : (plusL a b)[i]? = some ((x + y) % 4294967296) := by simp [plusL, List.getElem?_zipWith, hx, hy]
def firstL : List Nat := [1779033703, 3144134277, 1013904242, 2773480762, 1359893119, 2600822924, 528734635, 1541459225]
theorem first_val : Value.agg #[.int .u32 1779033703, .int .u32 3144134277, .int .u32 1013904242, .int .u32 2773480762, .int .u32 1359893119, .int .u32 2600822924, .int .u32 528734635, .int .u32 1541459225] = .agg (ints .u32 firstL) := by kernel_rfl
/-- The words one behind the other, the highest byte of each first. -/
def bytesL (s : List Nat) : List Nat := (List.range 32).map fun i => s.getD (i / 4) 0 / 2 ^ (24 - i % 4 * 8) % 256
theorem bytesL_len (s : List Nat) : (bytesL s).length = 32 := by simp [bytesL]
theorem bytesL_get (s : List Nat) (i x : Nat) (hi : i < 32) (hx : s[i / 4]? = some x) : (bytesL s)[i]? = some (x / 2 ^ (24 - i % 4 * 8) % 256) := by
  simp [bytesL, hi, hx]
theorem zero32 : (#[.int .u8 0, .int .u8 0, .int .u8 0, .int .u8 0, .int .u8 0, .int .u8 0, .int .u8 0, .int .u8 0, .int .u8 0, .int .u8 0, .int .u8 0, .int .u8 0, .int .u8 0, .int .u8 0, .int .u8 0, .int .u8 0, .int .u8 0, .int .u8 0, .int .u8 0, .int .u8 0, .int .u8 0, .int .u8 0, .int .u8 0, .int .u8 0, .int .u8 0, .int .u8 0, .int .u8 0, .int .u8 0, .int .u8 0, .int .u8 0, .int .u8 0, .int .u8 0] : Array Value) = ints .u8 (List.replicate 32 0) := by kernel_rfl

end Go.Proofs.YtniogaimhkcedaaDoor.sh
/-
  A region that draws its order and makes one block besides: its first operations only read, or call what makes memory alone; then comes an operation that makes a block, whenever it likes; the last ones wait for all of these.
-/
namespace Go.Proofs.YtniogaimhkcedaaDoor
open Go Go.RowKit
set_option linter.unusedVariables false
set_option linter.unusedSimpArgs false

section
variable {P : Program} {Q : Exit → Act → World → Prop} {h t : List Oper} {al : Oper} {A : Act}

/-- A slot that nobody is to write any more holds at the end what it holds now. -/
theorem final_slot {C : World → Prop} {d : Nat} : ∀ (f : Nat) (listed : Array Bool) (a : Act), wpAnyQ P .any h.toArray C (fun a' => a' = A) f listed a →
    (∀ j o, h[j]? = some o → listed.getD j true = false → o.dst ≠ some d) → A.tmps[d]? = a.tmps[d]?
  | 0, listed, a, H, _ => by rw [← H.2]
  | f + 1, listed, a, H, hd => by
    cases hr : Region.ready .any h.toArray listed with
    | nil => rw [← H.1 hr]
    | cons i rs =>
      have hi : i ∈ Region.ready .any h.toArray listed := by rw [hr]; exact List.mem_cons_self
      obtain ⟨hun, o, ho, _⟩ := mem_ready.1 hi
      have h1 := H.2 i hi
      obtain ⟨v, _, hK⟩ := yieldsIn_of_qOp ho h1
      have ih := final_slot f _ _ hK (fun j o' ho' hl => by
        by_cases hij : i = j
        · subst hij
          have hs : i < listed.size := by
            rcases Nat.lt_or_ge i listed.size with h' | h'
            · exact h'
            · simp [Array.getElem?_eq_none h'] at hun
          simp [hs] at hl
        · rw [getD_set_ne true hij] at hl
          exact hd j o' ho' hl)
      rw [ih]
      have hne := hd i o (by simpa using ho) hun
      cases hq : o.dst with
      | none => simp [Act.put, hq]
      | some d' =>
        have : d' ≠ d := fun e => hne (by rw [hq, e])
        simp [Act.put, hq, Array.getElem?_setIfInBounds_ne this]

def dstsApart (h : List Oper) (n : Nat) : Bool := h.zipIdx.all fun (o, i) => h.zipIdx.all fun (o', j) => decide (i = j) || (match o.dst, o'.dst with | some d, some d' => decide (d ≠ d') | _, _ => true)
def dstsIn (h : List Oper) (n : Nat) : Bool := h.all fun o => match o.dst with | some d => decide (d < n) | none => true

theorem dst_ne (hb : dstsApart h 0 = true) {i j : Nat} {o o' : Oper} (hi : h[i]? = some o) (hj : h[j]? = some o') (hij : i ≠ j) {d : Nat} (hd : o.dst = some d) : o'.dst ≠ some d := by
  have h1 := List.all_eq_true.1 hb (o, i) (by rw [List.mem_zipIdx_iff_getElem?]; exact hi)
  have h2 := List.all_eq_true.1 h1 (o', j) (by rw [List.mem_zipIdx_iff_getElem?]; exact hj)
  intro h3
  simp [hij, hd, h3] at h2

/-- The values that an operation yields under two classes are one: what is in its slot at the end. -/
theorem same_value {C C' : World → Prop} {f i : Nat} {listed : Array Bool} {a : Act} {o : Oper} {v v' : Value} (hA : dstsApart h 0 = true) (hI : dstsIn h a.tmps.size = true) (ho : h[i]? = some o)
    (H : wpAnyQ P .any h.toArray C (fun a' => a' = A) f (listed.setIfInBounds i true) (a.put o.dst v)) (H' : wpAnyQ P .any h.toArray C' (fun a' => a' = A) f (listed.setIfInBounds i true) (a.put o.dst v'))
    (hs : i < listed.size) : a.put o.dst v = a.put o.dst v' := by
  cases hq : o.dst with
  | none => rfl
  | some d =>
    have hnot : ∀ j o', h[j]? = some o' → (listed.setIfInBounds i true).getD j true = false → o'.dst ≠ some d := fun j o' ho' hl => by
      by_cases hij : i = j
      · subst hij; simp [hs] at hl
      · exact dst_ne hA ho ho' hij hq
    have e1 := final_slot _ _ _ H hnot
    have e2 := final_slot _ _ _ H' hnot
    have hd : d < a.tmps.size := by
      have := List.all_eq_true.1 hI o (List.mem_of_getElem? ho)
      rw [hq] at this
      simpa using this
    rw [e1] at e2
    simp [Act.put, hq, hd] at e2
    rw [e2]

/-- What the region makes, seen from the operation: a block behind all others, a pointer to it. -/
def Makes (P : Program) (al : Oper) (o : Obj) : Prop := ∀ (a : Act) (w : World), (execOp a.eval al).run P w = .ok (.value (.pointer (some ⟨w.heap.size, 0, none⟩))) (w.alloc o)

theorem wanted_headF (hg : guardsIn h = true) {o : Oper} (ho : o ∈ h) (r : List Oper) (tmps : Array Value) : Region.wanted o (yielded (h ++ r).toArray tmps) = Region.wanted o (yielded h.toArray tmps) := wanted_head hg ho tmps

/-- An operation of the head, carried out in a world of the class, beside a slot that it does not look at. -/
theorem step_head {W0 w : World} {f i : Nat} {listed : Array Bool} {a : Act} {o : Oper} (da : Option Tmp) (ptr : Value) {r : List Oper} (hG : guardsIn h = true) (hA : dstsApart h 0 = true) (hI : dstsIn h a.tmps.size = true) (hsel : Region.noSelect h.toArray = true)
    (hap : ∀ x ∈ h, ∀ d, da = some d → d ∉ x.looksAt h.toArray ∧ x.dst ≠ some d)
    (HB : ∀ B, Below W0.heap.size W0 B → wpAnyQ P .any h.toArray (fun w' => Below B.heap.size B w') (fun a' => a' = A) (f + 1) listed a) (hw : Below W0.heap.size W0 w)
    (ho : h[i]? = some o) (hr : i ∈ Region.ready .any h.toArray listed) (hs : i < listed.size) {K : Act → World → Prop}
    (hK : ∀ v w', Below w.heap.size w w' → (∀ B, Below W0.heap.size W0 B → wpAnyQ P .any h.toArray (fun w' => Below B.heap.size B w') (fun a' => a' = A) f (listed.setIfInBounds i true) (a.put o.dst v)) → K ((a.put o.dst v).put da ptr) w') :
    if Region.wanted o (yielded (h ++ r).toArray (a.put da ptr).tmps) then o.wp P (a.put da ptr) w K Q ∨ (o.asks P (a.put da ptr) w ∧ LetsOut Q) else K ((a.put da ptr).put o.dst undef) w := by
  have hoh : h.toArray[i]? = some o := by simpa using ho
  have hm : o ∈ h := List.mem_of_getElem? ho
  have h1 := (HB w hw).2 i hr
  obtain ⟨v, hy, hnext⟩ := yieldsIn_of_qOp hoh h1
  have hall : ∀ B, Below W0.heap.size W0 B → wpAnyQ P .any h.toArray (fun w' => Below B.heap.size B w') (fun a' => a' = A) f (listed.setIfInBounds i true) (a.put o.dst v) := by
    intro B hBb
    obtain ⟨v', _, hnext'⟩ := yieldsIn_of_qOp hoh ((HB B hBb).2 i hr)
    rw [same_value hA hI ho hnext hnext' hs]
    exact hnext'
  have hlook : ∀ d, da = some d → d ∉ o.looksAt h.toArray := fun d hd => (hap o hm d hd).1
  rw [wanted_headF hG hm, wanted_put o a da ptr hlook]
  have hcomm : ∀ u, (a.put da ptr).put o.dst u = (a.put o.dst u).put da ptr := fun u => (Act.put_comm a u ptr (fun d hd hd' => (hap o hm d hd').2 hd)).symm
  rcases hy with ⟨hwt, hv⟩ | ⟨hwt, rfl⟩
  · rw [if_pos hwt]
    left
    have h3 := hv w (Below.refl _ _)
    unfold Oper.quietAt at h3
    unfold Oper.wp
    rw [execOp_put (ops := h.toArray) o (fun cs b => Region.noSelect_spec hsel i o cs b hoh) a da ptr hlook]
    generalize (execOp a.eval o).run P w = res at *
    cases res with
    | ok n w' =>
      cases n <;> simp only [Oper.quietUpon] at h3 <;> simp only [Oper.upon]
      case value u =>
        obtain ⟨e1, e2⟩ := h3
        rw [e1, e2, hcomm]
        exact hK v w (Below.refl _ _) hall
      case skip =>
        obtain ⟨e1, e2⟩ := h3
        rw [e1, ← e2, hcomm]
        exact hK v w (Below.refl _ _) hall
      case enter fn args =>
        obtain ⟨e1, hc⟩ := h3
        rw [e1]
        refine hc.mono fun e w'' hh => ?_
        obtain ⟨rfl, hb⟩ := hh
        show K _ _
        rw [hcomm]
        exact hK v w'' hb hall
    | halt x w' => simp only [Oper.quietUpon] at h3
  · rw [if_neg (by rw [hwt]; exact Bool.false_ne_true), hcomm]
    exact hK undef w (Below.refl _ _) hall

theorem size_put (a : Act) (d : Option Tmp) (v : Value) : (a.put d v).tmps.size = a.tmps.size := by
  cases d <;> simp [Act.put]

theorem gdp {listed : Array Bool} {m j : Nat} (b d : Bool) (hj : j < listed.size) : (listed.push b ++ Array.replicate m false).getD j d = listed.getD j d := by
  rw [getD_app d (by simp; omega)]
  have : ¬ j = listed.size := by omega
  simp [Array.getElem?_push, this]
theorem gdn {listed : Array Bool} {m : Nat} (b d : Bool) : (listed.push b ++ Array.replicate m false).getD listed.size d = b := by
  rw [getD_app d (by simp)]
  simp
theorem setp {listed : Array Bool} {m i : Nat} (b : Bool) (hi : i < listed.size) : (listed.push b ++ Array.replicate m false).setIfInBounds i true = (listed.setIfInBounds i true).push b ++ Array.replicate m false := by
  rw [set_app (by simp; omega)]
  congr 1
  apply Array.ext_getElem?
  intro k
  rw [Array.getElem?_setIfInBounds, Array.getElem?_push, Array.getElem?_push, Array.getElem?_setIfInBounds]
  have h1 : (listed.setIfInBounds i true).size = listed.size := by simp
  rw [h1]
  by_cases hik : i = k
  · subst hik
    rw [if_pos rfl, if_pos (by simp; omega), if_neg (by omega), if_pos rfl, if_pos hi]
  · rw [if_neg hik]
    by_cases hk : k = listed.size
    · rw [if_pos hk, if_pos hk]
    · rw [if_neg hk, if_neg hk, if_neg hik]
theorem setn {listed : Array Bool} {m : Nat} : (listed.push false ++ Array.replicate m false).setIfInBounds listed.size true = listed.push true ++ Array.replicate m false := by
  rw [set_app (by simp)]
  congr 1
  apply Array.ext_getElem?
  intro k
  rw [Array.getElem?_setIfInBounds, Array.getElem?_push, Array.getElem?_push]
  by_cases hk : listed.size = k
  · subst hk
    rw [if_pos rfl, if_pos (by simp), if_pos rfl]
  · rw [if_neg hk, if_neg (fun e => hk e.symm), if_neg (fun e => hk e.symm)]

/-- The region's list: the head, what makes the block, the tail. -/
theorem phase2 {W0 : World} {da : Option Tmp} {ptr : Value} {g : Nat} {ob : Obj} (hE : edgesIn h = true) (hG : guardsIn h = true) (hA : dstsApart h 0 = true) (hsel : Region.noSelect h.toArray = true)
    (hap : ∀ x ∈ h, ∀ d, da = some d → d ∉ x.looksAt h.toArray ∧ x.dst ≠ some d) (hT : tailWaits h t = true)
    (hS : Region.seqB .any (h ++ al :: t).toArray t.length (h.length + 1) ((Array.replicate h.length true).push true ++ Array.replicate t.length false) = true)
    (tail : ∀ w, Below W0.heap.size W0 w → w.heap[g]? = some ob → wpList P (h ++ al :: t).toArray Q t (A.put da ptr) w) :
    ∀ (f : Nat) (listed : Array Bool) (a : Act) (w : World), listed.size = h.length → open_ listed = f → dstsIn h a.tmps.size = true →
      (∀ B, Below W0.heap.size W0 B → wpAnyQ P .any h.toArray (fun w' => Below B.heap.size B w') (fun a' => a' = A) f listed a) → Below W0.heap.size W0 w → w.heap[g]? = some ob →
      wpAny P .any (h ++ al :: t).toArray Q (f + t.length) (listed.push true ++ Array.replicate t.length false) (a.put da ptr) w := by
  intro f
  induction f with
  | zero =>
    intro listed a w hs ho hI HB hw hg
    have e := all_true ho
    rw [hs] at e
    have hAa : a = A := (HB w hw).2
    rw [Nat.zero_add, e, hAa]
    exact wpAny_of_seq t (h.length + 1) _ _ w (fun j => by
      rw [List.getElem?_toArray, List.getElem?_append_right (by omega), show h.length + 1 + j - h.length = j + 1 by omega, List.getElem?_cons_succ]) hS (tail w hw hg)
  | succ f ih =>
    intro listed a w hs ho hI HB hw hg
    obtain ⟨i0, hi0, hlow⟩ := least_open (listed := listed) (by omega)
    have hi0s : i0 < listed.size := by
      rcases Nat.lt_or_ge i0 listed.size with h' | h'
      · exact h'
      · simp [Array.getElem?_eq_none h'] at hi0
    have gd : ∀ j d, j < listed.size → (listed.push true ++ Array.replicate t.length false).getD j d = listed.getD j d := fun j d hj => gdp true d hj
    rw [show f + 1 + t.length = (f + t.length) + 1 by omega]
    refine ⟨fun h0 => ?_, fun i hi => ?_⟩
    · have : i0 ∈ Region.ready .any (h ++ al :: t).toArray (listed.push true ++ Array.replicate t.length false) := by
        rw [mem_ready]
        have hih : i0 < h.length := by omega
        refine ⟨by rw [gd _ _ hi0s]; exact hi0, h[i0], by simp [List.getElem?_append_left hih], fun e he hb => ?_⟩
        have := edge_lt hE (List.getElem?_eq_getElem hih) he hb
        rw [gd _ _ (by omega)]
        exact hlow _ this
      rw [h0] at this
      cases this
    · obtain ⟨hun, o, hoo, hall⟩ := mem_ready.1 hi
      have hih : i < h.length := by
        rcases Nat.lt_or_ge i h.length with h' | h'
        · exact h'
        · exfalso
          rcases Nat.lt_or_ge h.length i with h'' | h''
          · have hot : o ∈ t := by
              rw [List.getElem?_toArray, List.getElem?_append_right h', show i - h.length = (i - h.length - 1) + 1 by omega, List.getElem?_cons_succ] at hoo
              exact List.mem_of_getElem? hoo
            have h1 := List.all_eq_true.1 (List.all_eq_true.1 hT o hot) i0 (List.mem_range.2 (by omega))
            obtain ⟨e, he, hbe⟩ := Array.any_eq_true'.1 h1
            simp only [Bool.and_eq_true, beq_iff_eq] at hbe
            have h2 := hall e he hbe.1
            rw [hbe.2, gd _ _ hi0s] at h2
            simp [hi0s] at hi0 h2
            rw [hi0] at h2
            cases h2
          · have : i = h.length := by omega
            subst this
            have hh : (listed.push true ++ Array.replicate t.length false).getD h.length true = true := by rw [← hs]; exact gdn true true
            rw [hh] at hun
            cases hun
      have hoh : h[i]? = some o := by simpa [List.getElem?_append_left hih] using hoo
      have hun' : listed.getD i true = false := by rw [gd _ _ (by omega)] at hun; exact hun
      have hr : i ∈ Region.ready .any h.toArray listed := by
        rw [mem_ready]
        refine ⟨hun', o, by simpa using hoh, fun e he hb => ?_⟩
        have hlt := edge_lt hE hoh he hb
        have := hall e he hb
        rwa [gd _ _ (by omega)] at this
      have hset : (listed.push true ++ Array.replicate t.length false).setIfInBounds i true = (listed.setIfInBounds i true).push true ++ Array.replicate t.length false := setp true (by omega)
      unfold wpOp
      simp only [hoo]
      refine step_head da ptr hG hA hI hsel hap HB hw hoh hr (by omega) ?_
      intro v w' hb hnext
      rw [hset]
      have hgl : g < w.heap.size := by
        rcases Nat.lt_or_ge g w.heap.size with h' | h'
        · exact h'
        · rw [Array.getElem?_eq_none h'] at hg; cases hg
      exact ih _ _ _ (by simpa using hs) (by have := open_set hun'; omega) (by rw [size_put]; exact hI) hnext (hw.trans (hb.mono hw.size)) (by rw [hb.block g hgl]; exact hg)

theorem phase1_step {W0 : World} {da : Option Tmp} {ob : Obj} (hE : edgesIn h = true) (hG : guardsIn h = true) (hA : dstsApart h 0 = true) (hsel : Region.noSelect h.toArray = true)
    (hda : al.dst = da) (hgd : al.guard = none) (hfree : al.after = #[]) (hmk : Makes P al ob)
    (hap : ∀ x ∈ h, ∀ d, da = some d → d ∉ x.looksAt h.toArray ∧ x.dst ≠ some d) (hT : tailWaits (h ++ [al]) t = true)
    (hT' : tailWaits h t = true)
    (hS : Region.seqB .any (h ++ al :: t).toArray t.length (h.length + 1) ((Array.replicate h.length true).push true ++ Array.replicate t.length false) = true)
    (tail : ∀ g w, W0.heap.size ≤ g → Below W0.heap.size W0 w → w.heap[g]? = some ob → wpList P (h ++ al :: t).toArray Q t (A.put da (.pointer (some ⟨g, 0, none⟩))) w)
    (f : Nat) (ih : ∀ (hf : 0 < f) (listed : Array Bool) (a : Act) (w : World), listed.size = h.length → open_ listed = f - 1 → dstsIn h a.tmps.size = true →
      (∀ B, Below W0.heap.size W0 B → wpAnyQ P .any h.toArray (fun w' => Below B.heap.size B w') (fun a' => a' = A) (f - 1) listed a) → Below W0.heap.size W0 w →
      wpAny P .any (h ++ al :: t).toArray Q (f - 1 + t.length + 1) (listed.push false ++ Array.replicate t.length false) a w) :
    ∀ (listed : Array Bool) (a : Act) (w : World), listed.size = h.length → open_ listed = f → dstsIn h a.tmps.size = true →
      (∀ B, Below W0.heap.size W0 B → wpAnyQ P .any h.toArray (fun w' => Below B.heap.size B w') (fun a' => a' = A) f listed a) → Below W0.heap.size W0 w →
      wpAny P .any (h ++ al :: t).toArray Q (f + t.length + 1) (listed.push false ++ Array.replicate t.length false) a w := by
  intro listed a w hs ho hI HB hw
  have hal : (h ++ al :: t).toArray[h.length]? = some al := by
    rw [List.getElem?_toArray, List.getElem?_append_right (Nat.le_refl _), Nat.sub_self]; rfl
  have hgn : (listed.push false ++ Array.replicate t.length false).getD h.length false = false := by rw [← hs]; exact gdn false false
  have hgn' : (listed.push false ++ Array.replicate t.length false).getD h.length true = false := by rw [← hs]; exact gdn false true
  refine ⟨fun h0 => ?_, fun i hi => ?_⟩
  · have : h.length ∈ Region.ready .any (h ++ al :: t).toArray (listed.push false ++ Array.replicate t.length false) := by
      rw [mem_ready]
      exact ⟨hgn', al, hal, fun e he => by rw [hfree] at he; simp at he⟩
    rw [h0] at this
    cases this
  · obtain ⟨hun, o, hoo, hall⟩ := mem_ready.1 hi
    rcases Nat.lt_or_ge i h.length with hih | hge
    · have hoh : h[i]? = some o := by simpa [List.getElem?_append_left hih] using hoo
      have hun' : listed.getD i true = false := by rw [gdp false true (by omega)] at hun; exact hun
      have hpos : 0 < f := by
        have := open_set hun'
        omega
      obtain ⟨k, rfl⟩ : ∃ k, f = k + 1 := ⟨f - 1, by omega⟩
      have hr : i ∈ Region.ready .any h.toArray listed := by
        rw [mem_ready]
        refine ⟨hun', o, by simpa using hoh, fun e he hb => ?_⟩
        have hlt := edge_lt hE hoh he hb
        have := hall e he hb
        rwa [gdp false false (by omega)] at this
      unfold wpOp
      simp only [hoo]
      have hst := step_head (Q := Q) (K := wpAny P .any (h ++ al :: t).toArray Q (k + 1 + t.length) ((listed.push false ++ Array.replicate t.length false).setIfInBounds i true)) none undef (r := al :: t) hG hA hI hsel (fun x _ d hd => by cases hd) HB hw hoh hr (by omega) (fun v w' hb hnext => by
        rw [setp false (by omega)]
        have := ih hpos (listed.setIfInBounds i true) (a.put o.dst v) w' (by simpa using hs) (by have := open_set hun'; omega) (by rw [size_put]; exact hI) hnext (hw.trans (hb.mono hw.size))
        rwa [show k + 1 - 1 + t.length + 1 = k + 1 + t.length by omega] at this)
      exact hst
    · have hin : i = h.length := by
        rcases Nat.lt_or_ge h.length i with h'' | h''
        · exfalso
          have hot : o ∈ t := by
            rw [List.getElem?_toArray, List.getElem?_append_right hge, show i - h.length = (i - h.length - 1) + 1 by omega, List.getElem?_cons_succ] at hoo
            exact List.mem_of_getElem? hoo
          have h1 := List.all_eq_true.1 (List.all_eq_true.1 hT o hot) h.length (List.mem_range.2 (by simp))
          obtain ⟨e, he, hbe⟩ := Array.any_eq_true'.1 h1
          simp only [Bool.and_eq_true, beq_iff_eq] at hbe
          have h2 := hall e he hbe.1
          rw [hbe.2, hgn] at h2
          cases h2
        · omega
      subst hin
      have hoa : o = al := Option.some.inj (hoo.symm.trans hal)
      subst hoa
      unfold wpOp
      simp only [hal]
      have hwt : Region.wanted o (yielded (h ++ o :: t).toArray a.tmps) = true := by unfold Region.wanted; rw [hgd]
      rw [if_pos hwt]
      left
      unfold Oper.wp
      rw [hmk a w]
      show wpAny P .any (h ++ o :: t).toArray Q (f + t.length) _ (a.put o.dst _) (w.alloc ob)
      have e : (listed.push false ++ Array.replicate t.length false).setIfInBounds h.length true = listed.push true ++ Array.replicate t.length false := by rw [← hs]; exact setn
      rw [e, hda]
      exact phase2 hE hG hA hsel hap hT' hS (fun w' hw' hg' => tail w.heap.size w' hw.size hw' hg') f listed a (w.alloc ob) hs ho hI HB (hw.trans ⟨rfl, rfl, rfl, by simp, fun k hk => Below.heap_alloc _ _ _ (by have := hw.size; omega)⟩) (by show (w.heap.push ob)[w.heap.size]? = _; simp)

theorem phase1 {W0 : World} {da : Option Tmp} {ob : Obj} (hE : edgesIn h = true) (hG : guardsIn h = true) (hA : dstsApart h 0 = true) (hsel : Region.noSelect h.toArray = true)
    (hda : al.dst = da) (hgd : al.guard = none) (hfree : al.after = #[]) (hmk : Makes P al ob)
    (hap : ∀ x ∈ h, ∀ d, da = some d → d ∉ x.looksAt h.toArray ∧ x.dst ≠ some d) (hT : tailWaits (h ++ [al]) t = true)
    (hT' : tailWaits h t = true)
    (hS : Region.seqB .any (h ++ al :: t).toArray t.length (h.length + 1) ((Array.replicate h.length true).push true ++ Array.replicate t.length false) = true)
    (tail : ∀ g w, W0.heap.size ≤ g → Below W0.heap.size W0 w → w.heap[g]? = some ob → wpList P (h ++ al :: t).toArray Q t (A.put da (.pointer (some ⟨g, 0, none⟩))) w) :
    ∀ (f : Nat) (listed : Array Bool) (a : Act) (w : World), listed.size = h.length → open_ listed = f → dstsIn h a.tmps.size = true →
      (∀ B, Below W0.heap.size W0 B → wpAnyQ P .any h.toArray (fun w' => Below B.heap.size B w') (fun a' => a' = A) f listed a) → Below W0.heap.size W0 w →
      wpAny P .any (h ++ al :: t).toArray Q (f + t.length + 1) (listed.push false ++ Array.replicate t.length false) a w := by
  intro f
  induction f with
  | zero => exact phase1_step hE hG hA hsel hda hgd hfree hmk hap hT hT' hS tail 0 (fun h0 => by omega)
  | succ f ih => exact phase1_step hE hG hA hsel hda hgd hfree hmk hap hT hT' hS tail (f + 1) (fun _ => ih)

def slotFree (h : List Oper) (al : Oper) : Bool := h.all fun x => match al.dst with | some d => !(x.looksAt h.toArray).contains d && x.dst != some d | none => true

/-- One walk of the head in the order of the text, the block, then the tail, serves every order. The first n operations are the head, the next one makes the block. -/
theorem wp_region_quiet_alloc {id : Nat} {a : Act} {w W0 : World} {ob : Obj} (n : Nat) {l : List Oper} (al : Oper) (hl : l[n]? = some al) (A : Act) (hm : P.follows .mixedOrders = true) (hB : Region.lexB .any (l.take n).toArray = true)
    (hE : edgesIn (l.take n) = true) (hG : guardsIn (l.take n) = true) (hA : dstsApart (l.take n) 0 = true) (hI : dstsIn (l.take n) a.tmps.size = true) (hsl : slotFree (l.take n) al = true) (hgd : al.guard = none) (hfree : al.after = #[]) (hmk : Makes P al ob)
    (hT : tailWaits (l.take n ++ [al]) (l.drop (n + 1)) = true) (hT' : tailWaits (l.take n) (l.drop (n + 1)) = true)
    (hS : Region.seqB .any l.toArray (l.drop (n + 1)).length ((l.take n).length + 1) ((Array.replicate (l.take n).length true).push true ++ Array.replicate (l.drop (n + 1)).length false) = true)
    (hw : Below W0.heap.size W0 w)
    (H : ∀ B, Below W0.heap.size W0 B → wpQuiet P (l.take n).toArray (fun w' => Below B.heap.size B w') (fun a' => a' = A) (l.take n) a)
    (tail : ∀ g w, W0.heap.size ≤ g → Below W0.heap.size W0 w → w.heap[g]? = some ob → wpList P l.toArray Q (l.drop (n + 1)) (A.put al.dst (.pointer (some ⟨g, 0, none⟩))) w) : (Code.region id l.toArray true).wp P Q a w := by
  have hn : n < l.length := (List.getElem?_eq_some_iff.1 hl).1
  have e : l.take n ++ al :: l.drop (n + 1) = l := by
    have e1 : al = l[n] := by rw [List.getElem?_eq_getElem hn] at hl; exact (Option.some.inj hl).symm
    rw [e1, ← List.drop_eq_getElem_cons hn, List.take_append_drop]
  refine wp_region_any hm ?_
  have hB' := hB
  simp only [Region.lexB, Bool.and_eq_true] at hB'
  have HB : ∀ B, Below W0.heap.size W0 B → wpAnyQ P .any (l.take n).toArray (fun w' => Below B.heap.size B w') (fun a' => a' = A) (l.take n).length (Array.replicate (l.take n).length false) a := fun B hb =>
    wpAnyQ_lex (P := P) (md := .any) hB'.1 (l.take n) 0 (Array.replicate (l.take n).length false) a (by simp) (by simpa using hB'.2) (H B hb)
  have hlen : (l.take n).length = n := by simp; omega
  have h3 := phase1 (P := P) (Q := Q) (h := l.take n) (t := l.drop (n + 1)) (al := al) (A := A) (W0 := W0) (ob := ob) hE hG hA hB'.1 rfl hgd hfree hmk (fun x hx d hd => by
    have h1 := List.all_eq_true.1 hsl x hx
    rw [hd] at h1
    simpa using h1) hT hT' (by rw [e]; exact hS) (by rw [e]; exact tail) (l.take n).length (Array.replicate (l.take n).length false) a { w with drawn := w.drawn + 1 } (by simp) (by simp [open_]) hI HB (hw.trans ⟨rfl, rfl, rfl, Nat.le_refl _, fun _ _ => rfl⟩)
  rw [e] at h3
  have e1 : (Array.replicate (l.take n).length false).push false ++ Array.replicate (l.drop (n + 1)).length false = Array.replicate l.toArray.size false := by
    rw [Array.push_eq_append]
    have : (#[false] : Array Bool) = Array.replicate 1 false := rfl
    rw [this, Array.replicate_append_replicate, Array.replicate_append_replicate]
    congr 1
    simp
    omega
  have e2 : (l.take n).length + (l.drop (n + 1)).length + 1 = l.toArray.size := by simp; omega
  rw [e1, e2] at h3
  exact h3

/-- The same, what the head leaves found on the way. -/
theorem wp_region_quiet_made {id : Nat} {a : Act} {w W0 : World} {ob : Obj} (n : Nat) {l : List Oper} (al : Oper) (hl : l[n]? = some al) (hm : P.follows .mixedOrders = true) (hB : Region.lexB .any (l.take n).toArray = true)
    (hE : edgesIn (l.take n) = true) (hG : guardsIn (l.take n) = true) (hA : dstsApart (l.take n) 0 = true) (hI : dstsIn (l.take n) a.tmps.size = true) (hsl : slotFree (l.take n) al = true) (hgd : al.guard = none) (hfree : al.after = #[]) (hmk : Makes P al ob)
    (hT : tailWaits (l.take n ++ [al]) (l.drop (n + 1)) = true) (hT' : tailWaits (l.take n) (l.drop (n + 1)) = true)
    (hS : Region.seqB .any l.toArray (l.drop (n + 1)).length ((l.take n).length + 1) ((Array.replicate (l.take n).length true).push true ++ Array.replicate (l.drop (n + 1)).length false) = true)
    (hw : Below W0.heap.size W0 w)
    (H : ∃ A, (∀ B, Below W0.heap.size W0 B → wpQuiet P (l.take n).toArray (fun w' => Below B.heap.size B w') (fun a' => a' = A) (l.take n) a) ∧
      (∀ g w, W0.heap.size ≤ g → Below W0.heap.size W0 w → w.heap[g]? = some ob → wpList P l.toArray Q (l.drop (n + 1)) (A.put al.dst (.pointer (some ⟨g, 0, none⟩))) w)) : (Code.region id l.toArray true).wp P Q a w := by
  obtain ⟨A, h1, h2⟩ := H
  exact wp_region_quiet_alloc n al hl A hm hB hE hG hA hI hsl hgd hfree hmk hT hT' hS hw h1 h2
end
end Go.Proofs.YtniogaimhkcedaaDoor
/-
  A region that draws its order: its first operations only read, or call what makes memory alone; then come such as wait, one through another, for all of these, and are forced among themselves; the last one (a constant is moved) waits for nothing and nobody waits for it.
-/
namespace Go.Proofs.YtniogaimhkcedaaDoor
open Go Go.RowKit
set_option linter.unusedVariables false
set_option linter.unusedSimpArgs false

section
variable {P : Program} {Q : Exit → Act → World → Prop} {l h t : List Oper} {m : Oper} {v : Value}

/-- The post without the free operation: a normal end alone, its slot filled. -/
def freePost (Q : Exit → Act → World → Prop) (d : Option Tmp) (v : Value) : Exit → Act → World → Prop
  | .normal, a, w => Q .normal (a.put d v) w
  | _, _, _ => False

theorem free_noOut {d : Option Tmp} : ¬ LetsOut (freePost Q d v) := fun ⟨_, _, h⟩ => h

theorem free_step {da md : Option Tmp} {u : Value} {K K' : Act → World → Prop} {i : Nat} {o : Oper} {a : Act} {w : World} (r : List Oper) (hG : guardsIn l = true) (hsel : Region.noSelect l.toArray = true)
    (hap : ∀ d, da = some d → d ∉ o.looksAt l.toArray ∧ o.dst ≠ some d) (ho : l[i]? = some o) (hK : ∀ a' w', K' a' w' → K (a'.put da u) w')
    (H : wpOp P l.toArray (freePost Q md v) i K' a w) : wpOp P (l ++ r).toArray Q i K (a.put da u) w := by
  have hil : i < l.length := (List.getElem?_eq_some_iff.1 ho).1
  have ho1 : l.toArray[i]? = some o := by simpa using ho
  have ho2 : (l ++ r).toArray[i]? = some o := by rw [List.getElem?_toArray, List.getElem?_append_left hil]; exact ho
  have hlook : ∀ d, da = some d → d ∉ o.looksAt l.toArray := fun d hd => (hap d hd).1
  have hcomm : ∀ (a : Act) x, (a.put da u).put o.dst x = (a.put o.dst x).put da u := fun a x => (Act.put_comm a x u (fun d hd hd' => (hap d hd').2 hd)).symm
  unfold wpOp at H ⊢
  simp only [ho1, ho2] at H ⊢
  rw [wanted_head hG (List.mem_of_getElem? ho), wanted_put o a da u hlook]
  split
  · rename_i hw
    simp only [hw, if_true] at H
    rcases H with H | ⟨_, h2⟩
    · left
      unfold Oper.wp at H ⊢
      rw [execOp_put (ops := l.toArray) o (fun cs b => Region.noSelect_spec hsel i o cs b ho1) a da u hlook]
      generalize (execOp a.eval o).run P w = res at *
      cases res with
      | ok n w' =>
        cases n with
        | value x => show K _ _; rw [hcomm]; exact hK _ _ H
        | skip => show K _ _; rw [hcomm]; exact hK _ _ H
        | defer d =>
          show K _ _
          have e : ({ a.put da u with defers := d :: (a.put da u).defers } : Act) = ({ a with defers := d :: a.defers } : Act).put da u := by cases da <;> rfl
          rw [e, hcomm]
          exact hK _ _ H
        | enter f args =>
          refine Calls.mono H ?_
          intro e w'' hr
          cases e with
          | returned x => show K _ _; rw [hcomm]; exact hK _ _ hr
          | panicked c => exact hr.elim
          | outgrown => exact (free_noOut hr).elim
        | row r args => exact Rows.mono H fun x w'' hr => by rw [hcomm]; exact hK _ _ hr
        | _ => exact H
      | halt x w' =>
        cases x <;> exact H.elim
    · exact (free_noOut h2).elim
  · rename_i hw
    simp only [hw] at H
    rw [hcomm]
    exact hK _ _ H

theorem gp {listed : Array Bool} {j : Nat} (b d : Bool) (hj : j < listed.size) : (listed.push b).getD j d = listed.getD j d := by
  have := gdp (m := 0) (listed := listed) b d hj
  simpa using this
theorem gn {listed : Array Bool} (b d : Bool) : (listed.push b).getD listed.size d = b := by
  simp
theorem sp {listed : Array Bool} {i : Nat} (b : Bool) (hi : i < listed.size) : (listed.push b).setIfInBounds i true = (listed.setIfInBounds i true).push b := by
  have := setp (m := 0) (listed := listed) b hi
  simpa using this
theorem sn {listed : Array Bool} : (listed.push false).setIfInBounds listed.size true = listed.push true := by
  have := setn (m := 0) (listed := listed)
  simpa using this

theorem ready_in {listed : Array Bool} {b : Bool} {i : Nat} (hE : edgesIn l = true) (hs : listed.size = l.length) (hil : i < l.length) :
    i ∈ Region.ready .any (l ++ [m]).toArray (listed.push b) ↔ i ∈ Region.ready .any l.toArray listed := by
  rw [mem_ready, mem_ready]
  have e : (l ++ [m]).toArray[i]? = l.toArray[i]? := by simp [List.getElem?_append_left hil]
  rw [e, gp b true (by omega)]
  refine and_congr_right fun _ => exists_congr fun o => and_congr_right fun ho => forall_congr' fun e => forall_congr' fun he => forall_congr' fun hb => ?_
  have := edge_lt hE (by simpa using ho) he hb
  rw [gp b false (by omega)]

theorem ready_lt {listed : Array Bool} {ops : Array Oper} {i : Nat} (h : i ∈ Region.ready .any ops listed) : i < ops.size := by
  obtain ⟨_, o, ho, _⟩ := mem_ready.1 h
  exact (Array.getElem?_eq_some_iff.1 ho).1

theorem free2 (hE : edgesIn l = true) (hG : guardsIn l = true) (hsel : Region.noSelect l.toArray = true) (hap : ∀ x ∈ l, ∀ d, m.dst = some d → d ∉ x.looksAt l.toArray ∧ x.dst ≠ some d) :
    ∀ (f : Nat) (listed : Array Bool) (a : Act) (w : World), listed.size = l.length → wpAny P .any l.toArray (freePost Q m.dst v) f listed a w →
      wpAny P .any (l ++ [m]).toArray Q f (listed.push true) (a.put m.dst v) w := by
  intro f
  have hr : ∀ (listed : Array Bool) i, listed.size = l.length → i ∈ Region.ready .any (l ++ [m]).toArray (listed.push true) → i < l.length ∧ i ∈ Region.ready .any l.toArray listed := by
    intro listed i hs hi
    have h1 := ready_lt hi
    have hil : i < l.length := by
      rcases Nat.lt_or_ge i l.length with h' | h'
      · exact h'
      · have : i = listed.size := by simp at h1; omega
        have h2 := (mem_ready.1 hi).1
        rw [this, gn] at h2
        cases h2
    exact ⟨hil, (ready_in hE hs hil).1 hi⟩
  induction f with
  | zero =>
    intro listed a w hs H
    refine ⟨?_, H.2⟩
    cases hq : Region.ready .any (l ++ [m]).toArray (listed.push true) with
    | nil => rfl
    | cons i rs =>
      have := (hr listed i hs (by rw [hq]; exact List.mem_cons_self)).2
      rw [H.1] at this
      cases this
  | succ f ih =>
    intro listed a w hs H
    refine ⟨fun h0 => H.1 ?_, fun i hi => ?_⟩
    · cases hq : Region.ready .any l.toArray listed with
      | nil => rfl
      | cons i rs =>
        have h1 : i ∈ Region.ready .any l.toArray listed := by rw [hq]; exact List.mem_cons_self
        have h2 := (ready_in (m := m) (b := true) hE hs (by simpa using ready_lt h1)).2 h1
        rw [h0] at h2
        cases h2
    · obtain ⟨hil, hi'⟩ := hr listed i hs hi
      refine free_step [m] hG hsel (hap l[i] (List.getElem_mem _)) (List.getElem?_eq_getElem hil) ?_ (H.2 i hi')
      intro a' w' hh
      rw [sp true (by omega)]
      exact ih _ a' w' (by simpa using hs) hh

theorem free1 (hE : edgesIn l = true) (hG : guardsIn l = true) (hsel : Region.noSelect l.toArray = true) (hap : ∀ x ∈ l, ∀ d, m.dst = some d → d ∉ x.looksAt l.toArray ∧ x.dst ≠ some d)
    (hgd : m.guard = none) (hfree : m.after = #[]) (hmk : ∀ (a : Act) (w : World), (execOp a.eval m).run P w = .ok (.value v) w) :
    ∀ (f : Nat) (listed : Array Bool) (a : Act) (w : World), listed.size = l.length → wpAny P .any l.toArray (freePost Q m.dst v) f listed a w →
      wpAny P .any (l ++ [m]).toArray Q (f + 1) (listed.push false) a w := by
  have key : ∀ (f : Nat), (∀ (g : Nat), f = g + 1 → ∀ (listed : Array Bool) (a : Act) (w : World), listed.size = l.length → wpAny P .any l.toArray (freePost Q m.dst v) g listed a w → wpAny P .any (l ++ [m]).toArray Q (g + 1) (listed.push false) a w) →
      ∀ (listed : Array Bool) (a : Act) (w : World), listed.size = l.length → wpAny P .any l.toArray (freePost Q m.dst v) f listed a w → wpAny P .any (l ++ [m]).toArray Q (f + 1) (listed.push false) a w := by
    intro f ih listed a w hs H
    have hm : (l ++ [m]).toArray[l.length]? = some m := by simp
    refine ⟨fun h0 => ?_, fun i hi => ?_⟩
    · have : l.length ∈ Region.ready .any (l ++ [m]).toArray (listed.push false) := by
        rw [mem_ready]
        exact ⟨by rw [← hs]; exact gn false true, m, hm, fun e he => by rw [hfree] at he; simp at he⟩
      rw [h0] at this
      cases this
    · rcases Nat.lt_or_ge i l.length with hil | hge
      · have hi' := (ready_in hE hs hil).1 hi
        cases f with
        | zero => rw [H.1] at hi'; cases hi'
        | succ g =>
          have := free_step (Q := Q) (da := none) (u := undef) (K := wpAny P .any (l ++ [m]).toArray Q (g + 1) ((listed.push false).setIfInBounds i true)) [m] hG hsel (fun d hd => by cases hd) (List.getElem?_eq_getElem hil) (fun a' w' hh => by
            rw [sp false (by omega)]
            exact ih g rfl _ a' w' (by simpa using hs) hh) (H.2 i hi')
          exact this
      · have hin : i = l.length := by have := ready_lt hi; simp at this; omega
        subst hin
        unfold wpOp
        simp only [hm]
        have hwt : Region.wanted m (yielded (l ++ [m]).toArray a.tmps) = true := by unfold Region.wanted; rw [hgd]
        rw [if_pos hwt]
        left
        unfold Oper.wp
        rw [hmk a w]
        show wpAny P .any (l ++ [m]).toArray Q f ((listed.push false).setIfInBounds l.length true) (a.put m.dst v) w
        rw [← hs, sn]
        exact free2 hE hG hsel hap f listed a w hs H
  intro f
  induction f with
  | zero => exact key 0 (fun g hg => by omega)
  | succ f ih => exact key (f + 1) (fun g hg => by obtain rfl : f = g := by omega
                                                   exact ih)

/-- What the named ones wait for, one through another. -/
def under (h : List Oper) : Nat → List Nat → List Nat
  | 0, s => s
  | f + 1, s => s ++ under h f (s.flatMap fun i => match h[i]? with | some o => (o.after.toList.filter (Region.binds .any)).map (·.on) | none => [])

def Closed (h : List Oper) (listed : Array Bool) : Prop := ∀ i o, h[i]? = some o → listed.getD i false = true → ∀ e ∈ o.after, Region.binds .any e = true → listed.getD e.on false = true

theorem under_listed {listed : Array Bool} (hc : Closed h listed) : ∀ (f : Nat) (s : List Nat), (∀ j ∈ s, listed.getD j false = true) → ∀ j ∈ under h f s, listed.getD j false = true
  | 0, s, hs, j, hj => hs j hj
  | f + 1, s, hs, j, hj => by
    rcases List.mem_append.1 hj with h1 | h1
    · exact hs j h1
    · refine under_listed hc f _ ?_ j h1
      intro k hk
      obtain ⟨i, hi, hk'⟩ := List.mem_flatMap.1 hk
      cases ho : h[i]? with
      | none => simp [ho] at hk'
      | some o =>
        simp only [ho] at hk'
        obtain ⟨e, he, rfl⟩ := List.mem_map.1 hk'
        obtain ⟨he1, he2⟩ := List.mem_filter.1 he
        exact hc i o ho (hs i hi) e (by simpa using he1) he2

theorem closed_set {listed : Array Bool} {i : Nat} {o : Oper} (hc : Closed h listed) (ho : h[i]? = some o) (hall : ∀ e ∈ o.after, Region.binds .any e = true → listed.getD e.on false = true) : Closed h (listed.setIfInBounds i true) := by
  intro j o' ho' hl e he hb
  by_cases hij : i = j
  · subst hij
    rw [ho] at ho'
    obtain rfl := Option.some.inj ho'
    exact getD_set_true (hall e he hb)
  · rw [getD_set_ne false hij] at hl
    exact getD_set_true (hc j o' ho' hl e he hb)

/-- Each of the tail waits for another of the tail, or, one through another, for all of the head. -/
def tailUnder (h t : List Oper) : Bool := t.all fun o => (o.after.any fun e => Region.binds .any e && decide (h.length ≤ e.on)) ||
  (List.range h.length).all fun j => (under h h.length ((o.after.toList.filter (Region.binds .any)).map (·.on))).contains j

theorem app_ge {listed : Array Bool} {n j : Nat} (hj : listed.size ≤ j) : (listed ++ Array.replicate n false).getD j false = false := by
  rw [Array.getD_eq_getD_getElem?, Array.getElem?_append_right hj, Array.getElem?_replicate]
  split <;> rfl

theorem lift_under (hE : edgesIn h = true) (hG : guardsIn h = true) (hT : tailUnder h t = true)
    (hS : Region.seqB .any (h ++ t).toArray t.length h.length (Array.replicate h.length true ++ Array.replicate t.length false) = true) :
    ∀ (f : Nat) (listed : Array Bool) (a : Act) (w : World), listed.size = h.length → open_ listed = f → Closed h listed →
      wpAny P .any h.toArray (headPost P (h ++ t).toArray Q t) f listed a w → wpAny P .any (h ++ t).toArray Q (f + t.length) (listed ++ Array.replicate t.length false) a w := by
  intro f
  induction f with
  | zero =>
    intro listed a w hs ho hc H
    have e := all_true ho
    rw [hs] at e
    rw [Nat.zero_add, e]
    exact wpAny_of_seq t h.length _ a w (fun j => by rw [List.getElem?_toArray, List.getElem?_append_right (by omega), Nat.add_sub_cancel_left]) hS H.2
  | succ f ih =>
    intro listed a w hs ho hc H
    obtain ⟨i0, hi0, hlow⟩ := least_open (listed := listed) (by omega)
    have hi0s : i0 < listed.size := by
      rcases Nat.lt_or_ge i0 listed.size with h' | h'
      · exact h'
      · simp [Array.getElem?_eq_none h'] at hi0
    rw [show f + 1 + t.length = (f + t.length) + 1 by omega]
    refine ⟨fun h0 => ?_, fun i hi => ?_⟩
    · have : i0 ∈ Region.ready .any (h ++ t).toArray (listed ++ Array.replicate t.length false) := by
        rw [mem_ready]
        have hih : i0 < h.length := by omega
        refine ⟨by rw [getD_app true hi0s]; exact hi0, h[i0], by simp [List.getElem?_append_left hih], fun e he hb => ?_⟩
        have := edge_lt hE (List.getElem?_eq_getElem hih) he hb
        rw [getD_app false (by omega)]
        exact hlow _ this
      rw [h0] at this
      cases this
    · obtain ⟨hun, o, hoo, hall⟩ := mem_ready.1 hi
      have hih : i < h.length := by
        rcases Nat.lt_or_ge i h.length with h' | h'
        · exact h'
        · exfalso
          have hot : o ∈ t := by
            simp [List.getElem?_append_right h'] at hoo
            exact List.mem_of_getElem? hoo
          have hseed : ∀ e ∈ o.after, Region.binds .any e = true → e.on < listed.size ∧ listed.getD e.on false = true := by
            intro e he hb
            have h2 := hall e he hb
            rcases Nat.lt_or_ge e.on listed.size with h3 | h3
            · exact ⟨h3, by rwa [getD_app false h3] at h2⟩
            · rw [app_ge h3] at h2; cases h2
          have h1 := List.all_eq_true.1 hT o hot
          rcases Bool.or_eq_true_iff.1 h1 with h1 | h1
          · obtain ⟨e, he, hbe⟩ := Array.any_eq_true'.1 h1
            simp only [Bool.and_eq_true, decide_eq_true_eq] at hbe
            have := (hseed e he hbe.1).1
            omega
          · have h2 := List.all_eq_true.1 h1 i0 (List.mem_range.2 (by omega))
            have h3 := under_listed hc h.length ((o.after.toList.filter (Region.binds .any)).map (·.on)) (fun j hj => by
              obtain ⟨e, he, rfl⟩ := List.mem_map.1 hj
              obtain ⟨he1, he2⟩ := List.mem_filter.1 he
              exact (hseed e (by simpa using he1) he2).2) i0 (by simpa using h2)
            simp [hi0s] at hi0 h3
            rw [hi0] at h3
            cases h3
      have hoh : h[i]? = some o := by simpa [List.getElem?_append_left hih] using hoo
      have hun' : listed.getD i true = false := by rw [getD_app true (by omega)] at hun; exact hun
      have hall' : ∀ e ∈ o.after, Region.binds .any e = true → listed.getD e.on false = true := fun e he hb => by
        have hlt := edge_lt hE hoh he hb
        have := hall e he hb
        rwa [getD_app false (by omega)] at this
      have hr : i ∈ Region.ready .any h.toArray listed := by
        rw [mem_ready]
        exact ⟨hun', o, by simpa using hoh, hall'⟩
      have H1 := H.2 i hr
      have hK : ∀ a' w', wpAny P .any h.toArray (headPost P (h ++ t).toArray Q t) f (listed.setIfInBounds i true) a' w' → wpAny P .any (h ++ t).toArray Q (f + t.length) ((listed ++ Array.replicate t.length false).setIfInBounds i true) a' w' := by
        intro a' w' hh
        rw [set_app (by omega)]
        exact ih _ a' w' (by simpa using hs) (by have := open_set hun'; omega) (closed_set hc hoh hall') hh
      unfold wpOp at H1 ⊢
      have ho' : h.toArray[i]? = some o := by simpa using hoh
      simp only [hoo, ho'] at H1 ⊢
      rw [wanted_head hG (List.mem_of_getElem? hoh)]
      split
      · rename_i hw
        simp only [hw, if_true] at H1
        rcases H1 with H1 | ⟨h1, h2⟩
        · exact .inl (upon_headPost hK H1)
        · exact .inr ⟨h1, h2⟩
      · rename_i hw
        simp only [hw] at H1
        exact hK _ _ H1

/-- The first n operations are the head, the next k the tail, the last one is free. One walk serves every order. -/
theorem wp_region_quiet_free {id : Nat} {C : World → Prop} {a : Act} {w : World} (n k : Nat) {l : List Oper} (m : Oper) (v : Value) (hl : l = l.take n ++ (l.drop n).take k ++ [m]) (hm : P.follows .mixedOrders = true) (hB : Region.lexB .any (l.take n).toArray = true)
    (hE : edgesIn (l.take n) = true) (hG : guardsIn (l.take n) = true) (hT : tailUnder (l.take n) ((l.drop n).take k) = true)
    (hS : Region.seqB .any (l.take n ++ (l.drop n).take k).toArray ((l.drop n).take k).length (l.take n).length (Array.replicate (l.take n).length true ++ Array.replicate ((l.drop n).take k).length false) = true)
    (hE2 : edgesIn (l.take n ++ (l.drop n).take k) = true) (hG2 : guardsIn (l.take n ++ (l.drop n).take k) = true) (hsel : Region.noSelect (l.take n ++ (l.drop n).take k).toArray = true) (hsl : slotFree (l.take n ++ (l.drop n).take k) m = true)
    (hgd : m.guard = none) (hfree : m.after = #[]) (hmk : ∀ (a : Act) (w : World), (execOp a.eval m).run P w = .ok (.value v) w)
    (hC : C { w with drawn := w.drawn + 1 })
    (H : wpQuiet P (l.take n).toArray C (fun a' => ∀ w', C w' → wpList P (l.take n ++ (l.drop n).take k).toArray (freePost Q m.dst v) ((l.drop n).take k) a' w') (l.take n) a) : (Code.region id l.toArray true).wp P Q a w := by
  refine wp_region_any hm ?_
  generalize l.take n = h at *
  generalize (l.drop n).take k = t at *
  subst hl
  simp only [Region.lexB, Bool.and_eq_true] at hB
  have h1 := wpAnyQ_lex (P := P) (C := C) (md := .any) hB.1 h 0 (Array.replicate h.length false) a (by simp) (by simpa using hB.2) H
  have h2 := wpAny_of_quiet (Q' := headPost P (h ++ t).toArray (freePost Q m.dst v) t) (fun _ w' hw' hh => hh w' hw') _ _ _ _ hC h1
  have h3 := lift_under (Q := freePost Q m.dst v) hE hG hT hS h.length (Array.replicate h.length false) a _ (by simp) (by simp [open_]) (fun i o ho hl => by
    have : i < h.length := (List.getElem?_eq_some_iff.1 ho).1
    simp [this] at hl) h2
  have h4 := free1 (Q := Q) (m := m) hE2 hG2 hsel (fun x hx d hd => by
    have h1 := List.all_eq_true.1 hsl x hx
    rw [hd] at h1
    simpa using h1) hgd hfree hmk _ _ a _ (by simp) h3
  have e1 : (h ++ t ++ [m]).toArray.size = h.length + t.length + 1 := by simp; omega
  rw [e1]
  have e2 : (Array.replicate h.length false ++ Array.replicate t.length false).push false = Array.replicate (h.length + t.length + 1) false := by
    rw [Array.push_eq_append]
    have : (#[false] : Array Bool) = Array.replicate 1 false := rfl
    rw [this, Array.replicate_append_replicate, Array.replicate_append_replicate]
  rw [e2] at h4
  exact h4
end
end Go.Proofs.YtniogaimhkcedaaDoor
/-
  Regions that draw their order: a quiet head and a tail that waits for it, one through another; and heads whose values are known by what holds of them alone (fresh slices among them).
-/
namespace Go.Proofs.YtniogaimhkcedaaDoor.sh
open Go Go.RowKit
set_option linter.unusedVariables false
set_option linter.unusedSimpArgs false

theorem closed_none (h : List Oper) : Closed h (Array.replicate h.length false) := by
  intro i o ho hl
  exfalso
  rw [Array.getD_eq_getD_getElem?, Array.getElem?_replicate] at hl
  split at hl <;> simp at hl

/-- One walk of the head in the order of the text, then the tail, which waits for all of the head, one through another. -/
theorem wp_region_quiet_under {P : Program} {Q : Exit → Act → World → Prop} {id : Nat} {C : World → Prop} {a : Act} {w : World} (n : Nat) {l : List Oper} (hm : P.follows .mixedOrders = true) (hB : Region.lexB .any (l.take n).toArray = true)
    (hE : edgesIn (l.take n) = true) (hG : guardsIn (l.take n) = true) (hT : tailUnder (l.take n) (l.drop n) = true)
    (hS : Region.seqB .any l.toArray (l.drop n).length (l.take n).length (Array.replicate (l.take n).length true ++ Array.replicate (l.drop n).length false) = true)
    (hC : C { w with drawn := w.drawn + 1 })
    (H : wpQuiet P (l.take n).toArray C (fun a' => ∀ w', C w' → wpList P l.toArray Q (l.drop n) a' w') (l.take n) a) : (Code.region id l.toArray true).wp P Q a w := by
  have e : l.take n ++ l.drop n = l := List.take_append_drop n l
  refine wp_region_any hm ?_
  simp only [Region.lexB, Bool.and_eq_true] at hB
  have h1 := wpAnyQ_lex (P := P) (C := C) (md := .any) hB.1 (l.take n) 0 (Array.replicate (l.take n).length false) a (by simp) (by simpa using hB.2) H
  have h2 := wpAny_of_quiet (Q' := headPost P (l.take n ++ l.drop n).toArray Q (l.drop n)) (fun _ w' hw' hh => by rw [e]; exact hh w' hw') _ _ _ _ hC h1
  have h3 := lift_under (Q := Q) hE hG hT (by rw [e]; exact hS) (l.take n).length (Array.replicate (l.take n).length false) a _ (by simp) (by simp [open_]) (closed_none _) h2
  rw [e] at h3
  have e1 : l.toArray.size = (l.take n).length + (l.drop n).length := by rw [← List.length_append, e]; simp
  rw [e1, show Array.replicate ((l.take n).length + (l.drop n).length) false = Array.replicate (l.take n).length false ++ Array.replicate (l.drop n).length false by simp]
  exact h3

/-- An invariant of what is listed, the frame and the world carries any order. -/
theorem wpAny_inv {P : Program} {Q : Exit → Act → World → Prop} {l : List Oper} (I : Array Bool → Act → World → Prop) (hE : edgesIn l = true)
    (hstep : ∀ listed a w i o, listed.size = l.length → I listed a w → l[i]? = some o → listed.getD i true = false → (∀ e ∈ o.after, Region.binds .any e = true → listed.getD e.on false = true) →
      Region.wanted o (yielded l.toArray a.tmps) = true ∧ o.wp P a w (fun a' w' => I (listed.setIfInBounds i true) a' w') Q)
    (hdone : ∀ a w, I (Array.replicate l.length true) a w → Q .normal a w) :
    ∀ (fuel : Nat) (listed : Array Bool) (a : Act) (w : World), listed.size = l.length → open_ listed = fuel → I listed a w → wpAny P .any l.toArray Q fuel listed a w
  | 0, listed, a, w, hs, ho, hI => by
    have ha := all_true ho
    rw [hs] at ha
    refine ⟨?_, hdone a w (by rw [← ha]; exact hI)⟩
    rw [List.eq_nil_iff_forall_not_mem]
    intro j hj
    obtain ⟨h1, o, h2, _⟩ := mem_ready.1 hj
    have hl : j < l.length := by
      have := (Array.getElem?_eq_some_iff.1 h2).1
      simpa using this
    rw [ha] at h1
    simp [hl] at h1
  | f + 1, listed, a, w, hs, ho, hI => by
    refine ⟨fun hr => ?_, fun i hi => ?_⟩
    · obtain ⟨i, h1, h2⟩ := least_open (listed := listed) (by omega)
      have hil : i < l.length := by
        rcases Nat.lt_or_ge i l.length with h' | h'
        · exact h'
        · have : listed.size ≤ i := by omega
          simp [Array.getElem?_eq_none this] at h1
      have hm : i ∈ Region.ready .any l.toArray listed := mem_ready.2 ⟨h1, l[i], by simp [hil], fun e he hb => h2 _ (edge_lt hE (List.getElem?_eq_getElem hil) he hb)⟩
      rw [hr] at hm
      cases hm
    · obtain ⟨h1, o, h2, h3⟩ := mem_ready.1 hi
      have h2' : l[i]? = some o := by simpa using h2
      obtain ⟨hw, hwp⟩ := hstep listed a w i o hs hI h2' h1 h3
      unfold wpOp
      simp only [h2, hw, if_true]
      left
      refine Oper.wp_mono (fun a' w' h => ?_) hwp
      exact wpAny_inv I hE hstep hdone f _ a' w' (by simpa using hs) (by have := open_set h1; omega) h

structure Fr (h : List Oper) (A0 a : Act) : Prop where
  size : a.tmps.size = A0.tmps.size
  defers : a.defers = A0.defers
  out : ∀ d, (∀ (i : Nat) (o : Oper), h[i]? = some o → o.dst ≠ some d) → a.tmps[d]? = A0.tmps[d]?

/-- What the operation waits for is there, and what is asked of it holds. -/
def Got (h : List Oper) (R : Nat → Value → World → Prop) (a : Act) (w : World) (o : Oper) : Prop := ∀ e ∈ o.after, Region.binds .any e = true → ∀ (o' : Oper) (d : Nat), h[e.on]? = some o' → o'.dst = some d → ∃ v, a.tmps[d]? = some v ∧ R d v w

/-- What is asked of each operation. -/
def RelOk (P : Program) (h : List Oper) (A0 : Act) (W0 : World) (R : Nat → Value → World → Prop) (o : Oper) : Prop := ∃ d, o.dst = some d ∧ ∀ a w, Fr h A0 a → Below W0.heap.size W0 w → Got h R a w o →
  Region.wanted o (yielded h.toArray a.tmps) = true ∧ o.wp P a w (fun a' w' => ∃ v, a' = a.put (some d) v ∧ R d v w' ∧ Below w.heap.size w w') (fun _ _ _ => False)
def RelAll (P : Program) (h : List Oper) (A0 : Act) (W0 : World) (R : Nat → Value → World → Prop) : List Oper → Prop
  | [] => True
  | o :: r => RelOk P h A0 W0 R o ∧ RelAll P h A0 W0 R r
theorem relAll_mem {P : Program} {h : List Oper} {A0 : Act} {W0 : World} {R : Nat → Value → World → Prop} : ∀ (r : List Oper), RelAll P h A0 W0 R r → ∀ o ∈ r, RelOk P h A0 W0 R o
  | [], _, o, ho => by cases ho
  | x :: r, hr, o, ho => by
    rcases List.mem_cons.1 ho with h1 | h1
    · rw [h1]; exact hr.1
    · exact relAll_mem r hr.2 o h1

theorem wp_false {P : Program} {o : Oper} {a : Act} {w : World} {K K' : Act → World → Prop} {Q : Exit → Act → World → Prop} (hK : ∀ a w, K a w → K' a w) (h : o.wp P a w K (fun _ _ _ => False)) : o.wp P a w K' Q := by
  unfold Oper.wp at *
  generalize (execOp a.eval o).run P w = r at *
  cases r with
  | ok x w' =>
    cases x with
    | value v => exact hK _ _ h
    | skip => exact hK _ _ h
    | defer d => exact hK _ _ h
    | enter f args =>
      refine Calls.mono h ?_
      intro e w'' hr
      cases e with
      | returned v => exact hK _ _ hr
      | panicked c => exact hr.elim
      | outgrown => obtain ⟨_, _, h⟩ := hr; exact h.elim
    | row r args => exact Rows.mono h fun v w'' hr => hK _ _ hr
    | _ => exact h.elim
  | halt x w' =>
    cases x <;> exact h.elim

def putR (a : Act) (vals : List (Nat × Value)) : Act := vals.foldl (fun a p => a.put (some p.1) p.2) a
theorem putR_size : ∀ (vals : List (Nat × Value)) (a : Act), (putR a vals).tmps.size = a.tmps.size
  | [], a => rfl
  | p :: r, a => by show (putR (a.put (some p.1) p.2) r).tmps.size = _; rw [putR_size r, size_put]
theorem putR_defers : ∀ (vals : List (Nat × Value)) (a : Act), (putR a vals).defers = a.defers
  | [], a => rfl
  | p :: r, a => by show (putR (a.put (some p.1) p.2) r).defers = _; rw [putR_defers r]; rfl
theorem putR_get (f : Nat → Value) (d : Nat) : ∀ (ds : List Nat) (a : Act), d < a.tmps.size → (putR a (ds.map fun d => (d, f d))).tmps[d]? = if d ∈ ds then some (f d) else a.tmps[d]?
  | [], a, _ => by simp [putR]
  | x :: r, a, h => by
    show (putR (a.put (some x) (f x)) (r.map fun d => (d, f d))).tmps[d]? = _
    rw [putR_get f d r _ (by rw [size_put]; exact h)]
    by_cases h1 : d ∈ r
    · rw [if_pos h1, if_pos (List.mem_cons_of_mem _ h1)]
    · rw [if_neg h1]
      by_cases h2 : d = x
      · subst h2
        rw [if_pos List.mem_cons_self]
        simp [Act.put, h]
      · rw [if_neg (by simp [h1, h2])]
        simp [Act.put, Array.getElem?_setIfInBounds_ne (Ne.symm h2)]
theorem act_eq {a b : Act} (h1 : a.tmps = b.tmps) (h2 : a.defers = b.defers) : a = b := by cases a; cases b; simp_all

def dstsOf (h : List Oper) : List Nat := h.filterMap (·.dst)

/-- A region that draws its order, whose first n operations each make a value of which something holds, and whose last ones wait for all of those. -/
theorem region_rel {P : Program} {Q : Exit → Act → World → Prop} {id : Nat} {a : Act} {w : World} (W0 : World) (n : Nat) {l : List Oper} (R : Nat → Value → World → Prop) (ds : List Nat) (hm : P.follows .mixedOrders = true)
    (hE : edgesIn (l.take n) = true) (hG : guardsIn (l.take n) = true) (hA : dstsApart (l.take n) 0 = true) (hI : dstsIn (l.take n) a.tmps.size = true) (hT : tailUnder (l.take n) (l.drop n) = true)
    (hS : Region.seqB .any l.toArray (l.drop n).length (l.take n).length (Array.replicate (l.take n).length true ++ Array.replicate (l.drop n).length false) = true)
    (hds : dstsOf (l.take n) = ds) (hst : ∀ d v w w', R d v w → Below W0.heap.size W0 w → Below w.heap.size w w' → R d v w') (hw : Below W0.heap.size W0 w)
    (hok : RelAll P (l.take n) a W0 R (l.take n))
    (hfin : ∀ (f : Nat → Value) w', (∀ d ∈ ds, R d (f d) w') → Below W0.heap.size W0 w' → wpList P l.toArray Q (l.drop n) (putR a (ds.map fun d => (d, f d))) w') : (Code.region id l.toArray true).wp P Q a w := by
  have e : l.take n ++ l.drop n = l := List.take_append_drop n l
  refine wp_region_any hm ?_
  generalize hh : l.take n = h at *
  have main := wpAny_inv (P := P) (l := h) (Q := headPost P (h ++ l.drop n).toArray Q (l.drop n))
    (fun listed a' w' => Fr h a a' ∧ Below W0.heap.size W0 w' ∧ ∀ i o d, h[i]? = some o → listed.getD i false = true → o.dst = some d → ∃ v, a'.tmps[d]? = some v ∧ R d v w') hE
    (by
      intro listed a' w' i o hls hI' ho hun hall
      obtain ⟨hF, hB, hV⟩ := hI'
      have hil : i < listed.size := by rw [hls]; exact (List.getElem?_eq_some_iff.1 ho).1
      obtain ⟨d, hd, hrun⟩ := relAll_mem h hok o (List.mem_of_getElem? ho)
      obtain ⟨hwant, hwp⟩ := hrun a' w' hF hB (fun x hx hb o' d' ho' hd' => hV x.on o' d' ho' (hall x hx hb) hd')
      refine ⟨hwant, wp_false ?_ hwp⟩
      rintro a2 w2 ⟨v, rfl, hR, hb⟩
      have hdl : d < a'.tmps.size := by
        have := List.all_eq_true.1 hI o (List.mem_of_getElem? ho)
        rw [hd] at this
        rw [hF.size]
        simpa using this
      have hother : ∀ d', d' ≠ d → (a'.put (some d) v).tmps[d']? = a'.tmps[d']? := fun d' hne => by simp [Act.put, Array.getElem?_setIfInBounds_ne (Ne.symm hne)]
      refine ⟨⟨by rw [size_put]; exact hF.size, hF.defers, fun d' h' => ?_⟩, hB.trans (hb.mono hB.size), fun k o' d' hk hon hd' => ?_⟩
      · rw [hother d' (fun e2 => h' i o ho (by rw [hd, e2]))]
        exact hF.out d' h'
      · by_cases hki : i = k
        · subst hki
          rw [ho] at hk
          cases hk
          rw [hd] at hd'
          cases hd'
          exact ⟨v, by simp [Act.put, hdl], hR⟩
        · rw [getD_set_ne false hki] at hon
          obtain ⟨v', h1, h2⟩ := hV k o' d' hk hon hd'
          have hne : d' ≠ d := fun e2 => dst_ne hA ho hk hki hd (by rw [hd', e2])
          exact ⟨v', by rw [hother d' hne]; exact h1, hst d' v' w' w2 h2 hB hb⟩)
    (by
      intro a' w' hI'
      obtain ⟨hF, hB, hV⟩ := hI'
      have hV' : ∀ d ∈ ds, ∃ v, a'.tmps[d]? = some v ∧ R d v w' := by
        intro d hd
        rw [← hds] at hd
        obtain ⟨o, ho, hd'⟩ := List.mem_filterMap.1 hd
        obtain ⟨i, hi, he⟩ := List.getElem_of_mem ho
        exact hV i o d (by rw [List.getElem?_eq_getElem hi, he]) (by simp [hi]) hd'
      have hfr := hfin (fun d => (a'.tmps[d]?).getD undef) w' (fun d hd => by obtain ⟨v, h1, h2⟩ := hV' d hd; simp [h1, h2]) hB
      have ea : a' = putR a (ds.map fun d => (d, (a'.tmps[d]?).getD undef)) := by
        refine act_eq (Array.ext_getElem? fun d => ?_) (by rw [putR_defers]; exact hF.defers)
        by_cases hdl : d < a.tmps.size
        · rw [putR_get (fun d => (a'.tmps[d]?).getD undef) d ds a hdl]
          by_cases hd : d ∈ ds
          · rw [if_pos hd]
            obtain ⟨v, h1, _⟩ := hV' d hd
            simp [h1]
          · rw [if_neg hd]
            refine hF.out d fun i o ho hd' => hd ?_
            rw [← hds]
            exact List.mem_filterMap.2 ⟨o, List.mem_of_getElem? ho, hd'⟩
        · rw [Array.getElem?_eq_none (by rw [hF.size]; omega), Array.getElem?_eq_none (by rw [putR_size]; omega)]
      rw [← ea] at hfr
      show wpList P (h ++ l.drop n).toArray Q (l.drop n) a' w'
      rw [e]
      exact hfr)
    h.length (Array.replicate h.length false) a { w with drawn := w.drawn + 1 } (by simp) (by simp [open_])
    ⟨⟨rfl, rfl, fun _ _ => rfl⟩, hw.drew, fun i o d ho hon => by
      exfalso
      rw [Array.getD_eq_getD_getElem?, Array.getElem?_replicate] at hon
      split at hon <;> simp at hon⟩
  have h3 := lift_under (Q := Q) hE hG hT (by rw [e]; exact hS) h.length (Array.replicate h.length false) a _ (by simp) (by simp [open_]) (closed_none _) main
  rw [e] at h3
  have e1 : l.toArray.size = h.length + (l.drop n).length := by rw [← List.length_append, e]; simp
  rw [e1, show Array.replicate (h.length + (l.drop n).length) false = Array.replicate h.length false ++ Array.replicate (l.drop n).length false by simp]
  exact h3
end Go.Proofs.YtniogaimhkcedaaDoor.sh
/-
  What a round makes of a state.
-/
namespace Go.Proofs.YtniogaimhkcedaaDoor.sh
open Go Go.RowKit
set_option linter.unusedVariables false
set_option linter.unusedSimpArgs false

def chN (e f g : Nat) : Nat := (e &&& f) ^^^ ((4294967295 ^^^ e) &&& g)
def majN (a b c : Nat) : Nat := ((a &&& b) ^^^ (a &&& c)) ^^^ (b &&& c)
def tN (e f g h more : Nat) : Nat := (((h + turnN e [6, 11, 25]) % 4294967296 + chN e f g) % 4294967296 + more) % 4294967296
def uN (a b c : Nat) : Nat := (turnN a [2, 13, 22] + majN a b c) % 4294967296
def roundL : List Nat → Nat → List Nat
  | [a, b, c, d, e, f, g, h], more => [(tN e f g h more + uN a b c) % 4294967296, a, b, c, (d + tN e f g h more) % 4294967296, e, f, g]
  | s, _ => s

/-- Nothing changed but block g, and new blocks. -/
def Grew (w w' : World) (g : Nat) : Prop := w.grownBy w' (some g)
theorem Grew.blk {w w' : World} {g k : Nat} {t : TypeId} {A : Array Value} (h : Grew w w' g) (hk : Blk w k t A) (hne : k ≠ g) : Blk w' k t A := (h.block k hk.lt (fun e => by cases e; exact hne rfl)).trans hk
theorem Grew.below {w w' : World} {g B : Nat} (h : Grew w w' g) (hB : B ≤ g) (hs : B ≤ w.heap.size) : Below B w w' := ⟨h.os, h.tape, h.output, h.size, fun k hk => h.block k (by omega) (fun e => by cases e; omega)⟩
theorem Grew.trans {w w' w'' : World} {g : Nat} (h : Grew w w' g) (h' : Grew w' w'' g) : Grew w w'' g := ⟨h'.os.trans h.os, h'.tape.trans h.tape, h'.output.trans h.output, Nat.le_trans h.size h'.size, fun k hk hne => (h'.block k (Nat.lt_of_lt_of_le hk h.size) hne).trans (h.block k hk hne)⟩
theorem grew_of_below {w w' : World} {g : Nat} (h : Below w.heap.size w w') : Grew w w' g := ⟨h.os, h.tape, h.output, h.size, fun k hk _ => h.block k hk⟩

theorem amounts1 (i m : Nat) (h : [6, 11, 25][i]? = some m) : 0 < m ∧ m < 32 := by
  rcases i with _ | _ | _ | i <;> simp at h <;> omega
theorem amounts2 (i m : Nat) (h : [2, 13, 22][i]? = some m) : 0 < m ∧ m < 32 := by
  rcases i with _ | _ | _ | i <;> simp at h <;> omega

theorem neg_run {o : Oper} {a : Act} {x : Operand} {n m : Nat} (ho : o.op = .unOp .xor 132 x) (hx : a.eval x = .int .u32 (n : Int)) (hb : bits .xor .u32 4294967295 (n : Int) = (m : Int)) (w : World) : (execOp a.eval o).run Tryd.prog w = .ok (.value (.int .u32 (m : Int))) w := by
  unfold execOp
  simp only [ho, hx]
  simp [go_sem, IntKind.signed]
  exact hb

end Go.Proofs.YtniogaimhkcedaaDoor.sh
/-
  The same, told with the frame as it is behind the region, but for the slots of which something holds alone.
-/
namespace Go.Proofs.YtniogaimhkcedaaDoor.sh
open Go Go.RowKit
set_option linter.unusedVariables false
set_option linter.unusedSimpArgs false

/-- What is asked of a slot: its own, or the frame's value. -/
def relR (A : Act) (S : Nat → Option (Value → World → Prop)) : Nat → Value → World → Prop := fun d v w => match S d with | some p => p v w | none => A.tmps[d]? = some v

def waitsFor (h : List Oper) (o : Oper) (d : Nat) : Bool := o.after.any fun e => Region.binds .any e && (match h[e.on]? with | some o' => o'.dst == some d | none => false)
def detB (h : List Oper) (sp : List Nat) (o : Oper) : Bool := o.op.operands.all fun x => match x with
  | .tmp d => !sp.contains d && ((h.all fun o' => o'.dst != some d) || waitsFor h o d)
  | _ => true

def notSel (o : Oper) : Bool := match o.op with | .select _ _ => false | _ => true
theorem notSel_spec {o : Oper} (h : notSel o = true) : ∀ cs b, o.op ≠ .select cs b := fun cs b e => by simp [notSel, e] at h

theorem got_slot {h : List Oper} {R : Nat → Value → World → Prop} {a : Act} {w : World} {o : Oper} (hg : Got h R a w o) {d : Nat} (hd : waitsFor h o d = true) : ∃ v, a.tmps[d]? = some v ∧ R d v w := by
  obtain ⟨e, he, h1⟩ := Array.any_eq_true'.1 hd
  simp only [Bool.and_eq_true] at h1
  cases ho : h[e.on]? with
  | none => simp [ho] at h1
  | some o' => exact hg e he h1.1 o' d ho (by simpa [ho] using h1.2)
theorem out_slot {h : List Oper} {A0 a : Act} (hF : Fr h A0 a) {d : Nat} (hd : (h.all fun o' => o'.dst != some d) = true) : a.tmps[d]? = A0.tmps[d]? := hF.out d fun i o ho hdo => by
  have := List.all_eq_true.1 hd o (List.mem_of_getElem? ho)
  simp [hdo] at this

section
variable {P : Program} {h : List Oper} {A0 A : Act} {W0 : World} {S : Nat → Option (Value → World → Prop)} {sp : List Nat} {o : Oper}

/-- The frame behind the region: where the region writes nothing it is the one ahead. -/
structure Full (h : List Oper) (A0 A : Act) (S : Nat → Option (Value → World → Prop)) (sp : List Nat) : Prop where
  out : ∀ d, (∀ (i : Nat) (o : Oper), h[i]? = some o → o.dst ≠ some d) → A.tmps[d]? = A0.tmps[d]?
  spec : ∀ d, d ∉ sp → S d = none

theorem det_eval (hA : Full h A0 A S sp) (hdet : detB h sp o = true) {a : Act} {w : World} (hF : Fr h A0 a) (hgot : Got h (relR A S) a w o) : ∀ x ∈ o.op.operands, a.eval x = A.eval x := by
  intro x hx
  cases x with
  | tmp t =>
    have h1 := Array.all_eq_true_iff_forall_mem.1 hdet _ hx
    simp only [Bool.and_eq_true, Bool.or_eq_true, Bool.not_eq_true'] at h1
    obtain ⟨h2, h3⟩ := h1
    have hS : S t = none := hA.spec t (fun hm => by rw [List.contains_iff_mem.2 hm] at h2; cases h2)
    have : a.tmps[t]? = A.tmps[t]? := by
      rcases h3 with h3 | h3
      · rw [out_slot hF h3]
        refine (hA.out t fun i o' ho' hdo => ?_).symm
        have := List.all_eq_true.1 h3 o' (List.mem_of_getElem? ho')
        simp [hdo] at this
      · obtain ⟨v, e1, e2⟩ := got_slot hgot h3
        unfold relR at e2
        rw [hS] at e2
        rw [e1, e2]
    simp [Act.eval, this]
  | const v => rfl
  | global v => rfl
  | func v => rfl

/-- An operation whose value is one, whatever the order was. -/
theorem rel_q (hA : Full h A0 A S sp) (hdet : detB h sp o = true) (hsel : notSel o = true) (hw : ∀ a w, Fr h A0 a → Got h (relR A S) a w o → Region.wanted o (yielded h.toArray a.tmps) = true) (d : Nat) (v : Value) (hd : o.dst = some d) (hds : d ∉ sp) (hv : A.tmps[d]? = some v)
    (hq : ∀ w, Below W0.heap.size W0 w → o.quietAt P A (fun w' => Below w.heap.size w w') w v) : RelOk P h A0 W0 (relR A S) o := by
  refine ⟨d, hd, fun a w hF hB hgot => ⟨hw a w hF hgot, ?_⟩⟩
  have hex := execOp_congr o (notSel_spec hsel) (det_eval hA hdet hF hgot)
  have h3 := hq w hB
  have hR : ∀ w', relR A S d v w' := fun w' => by unfold relR; rw [hA.spec d hds]; exact hv
  unfold Oper.quietAt at h3
  unfold Oper.wp
  rw [hex]
  generalize (execOp A.eval o).run P w = res at *
  cases res with
  | ok n w' =>
    cases n <;> simp only [Oper.quietUpon] at h3 <;> simp only [Oper.upon]
    case value u =>
      obtain ⟨e1, e2⟩ := h3
      rw [e1, e2, hd]
      exact ⟨v, rfl, hR _, Below.refl _ _⟩
    case skip =>
      obtain ⟨e1, e2⟩ := h3
      rw [e1, ← e2, hd]
      exact ⟨v, rfl, hR _, Below.refl _ _⟩
    case enter f args =>
      obtain ⟨e1, hc⟩ := h3
      rw [e1]
      refine hc.mono fun e w'' hh => ?_
      obtain ⟨rfl, hb⟩ := hh
      rw [hd]
      exact ⟨v, rfl, hR _, hb⟩
  | halt x w' => simp only [Oper.quietUpon] at h3

theorem want_none (hg : o.guard = none) : ∀ (a : Act) (w : World), Fr h A0 a → Got h (relR A S) a w o → Region.wanted o (yielded h.toArray a.tmps) = true := fun _ _ _ _ => by simp [Region.wanted, hg]

theorem rel_val (hA : Full h A0 A S sp) (hdet : detB h sp o = true) (hsel : notSel o = true) (hg : o.guard = none) (d : Nat) (v : Value) (hd : o.dst = some d) (hds : sp.contains d = false) (hv : A.tmps[d]? = some v) (hrun : ∀ w, (execOp A.eval o).run P w = .ok (.value v) w) : RelOk P h A0 W0 (relR A S) o :=
  rel_q hA hdet hsel (want_none hg) d v hd (fun hm => by rw [List.contains_iff_mem.2 hm] at hds; cases hds) hv fun w _ => by
    unfold Oper.quietAt
    rw [hrun]
    exact ⟨rfl, rfl⟩
/-- One cell of a block is read. -/
theorem rel_elem (hA : Full h A0 A S sp) (hdet : detB h sp o = true) (hsel : notSel o = true) (hg : o.guard = none) (d : Nat) (v : Value) (hd : o.dst = some d) (hds : sp.contains d = false) (hv : A.tmps[d]? = some v) (e : TypeId) (ag : ∀ w, (isAgg e).run P w = .ok false w) (x : Operand) (ho : o.op = .load e x) (g k : Nat) (hx : A.eval x = .pointer (some ⟨g, k, none⟩)) (t : TypeId) (B : Array Value)
    (hb : ∀ w, Below W0.heap.size W0 w → Blk w g t B) (hbv : B[k]? = some v) : RelOk P h A0 W0 (relR A S) o :=
  rel_q hA hdet hsel (want_none hg) d v hd (fun hm => by rw [List.contains_iff_mem.2 hm] at hds; cases hds) hv fun w hw => by
    unfold Oper.quietAt
    rw [run_elem ag x ho g k hx B v (hb w hw) hbv]
    exact ⟨rfl, rfl⟩
/-- A call. -/
theorem rel_call (hg : o.guard = none) (d f : Nat) (fn : Func) (c : Code) (args : List Operand) (ts : Array TypeId) (hd : o.dst = some d) (ho : o.op = .call { callee := .value (.func f), args := args.toArray, argTypes := ts }) (hf : P.funcs[f]? = some fn) (hname : (fn.name == "runtime.NumGoroutine") = false) (hb : fn.body = some c)
    (hc : ∀ a w, Fr h A0 a → Below W0.heap.size W0 w → Got h (relR A S) a w o → Calls P f (args.map a.eval).toArray w fun e w' => ∃ v, e = .returned v ∧ relR A S d v w' ∧ Below w.heap.size w w') : RelOk P h A0 W0 (relR A S) o := by
  refine ⟨d, hd, fun a w hF hB hgot => ⟨by simp [Region.wanted, hg], ?_⟩⟩
  have h1 : fn.name ≠ "runtime.NumGoroutine" := by simpa using hname
  have hrun : (execOp a.eval o).run P w = .ok (.enter f (args.map a.eval).toArray) w := by
    unfold execOp
    simp only [ho, resolve, List.map_toArray, Act.eval]
    simp [Deferred.ofValue, invoke, callFunc, hf, h1, hb]
  unfold Oper.wp
  rw [hrun]
  simp only [Oper.upon]
  refine (hc a w hF hB hgot).mono fun e w' hh => ?_
  obtain ⟨v, rfl, hR, hb'⟩ := hh
  rw [hd]
  exact ⟨v, rfl, hR, hb'⟩
theorem det_slot (hA : Full h A0 A S sp) {a : Act} {w : World} (hgot : Got h (relR A S) a w o) {d : Nat} {v : Value} (hw : waitsFor h o d = true) (hs : sp.contains d = false) (hv : A.tmps[d]? = some v) : a.eval (.tmp d) = v := by
  obtain ⟨u, e1, e2⟩ := got_slot hgot hw
  unfold relR at e2
  rw [hA.spec d (fun hm => by rw [List.contains_iff_mem.2 hm] at hs; cases hs)] at e2
  rw [hv] at e2
  cases e2
  simp [Act.eval, e1]
theorem spec_slot {a : Act} {w : World} (hgot : Got h (relR A S) a w o) {d : Nat} {p : Value → World → Prop} (hw : waitsFor h o d = true) (hp : S d = some p) : p (a.eval (.tmp d)) w := by
  obtain ⟨u, e1, e2⟩ := got_slot hgot hw
  unfold relR at e2
  rw [hp] at e2
  simpa [Act.eval, e1] using e2
/-- A call of a known value and one of which something holds. -/
theorem rel_call_ds (hA : Full h A0 A S sp) (hg : o.guard = none) (d f : Nat) (fn : Func) (c : Code) (x y : Nat) (ts : Array TypeId) (hd : o.dst = some d) (ho : o.op = .call { callee := .value (.func f), args := #[.tmp x, .tmp y], argTypes := ts }) (hf : P.funcs[f]? = some fn) (hname : (fn.name == "runtime.NumGoroutine") = false) (hb : fn.body = some c)
    (vx : Value) (hwx : waitsFor h o x = true) (hsx : sp.contains x = false) (hvx : A.tmps[x]? = some vx) (p : Value → World → Prop) (hwy : waitsFor h o y = true) (hpy : S y = some p)
    (hc : ∀ w vy, Below W0.heap.size W0 w → p vy w → Calls P f #[vx, vy] w fun e w' => ∃ v, e = .returned v ∧ relR A S d v w' ∧ Below w.heap.size w w') : RelOk P h A0 W0 (relR A S) o :=
  rel_call hg d f fn c [.tmp x, .tmp y] ts hd ho hf hname hb fun a w hF hB hgot => by
    have h1 := det_slot hA hgot hwx hsx hvx
    have h2 := spec_slot hgot hwy hpy
    have h3 := hc w _ hB h2
    rw [← h1] at h3
    exact h3
/-- An operation that makes a block, whatever the frame is. -/
theorem rel_new (hg : o.guard = none) (d : Nat) (hd : o.dst = some d) (hnew : ∀ (a : Act) (w : World), ∃ v w', (execOp a.eval o).run P w = .ok (.value v) w' ∧ relR A S d v w' ∧ Below w.heap.size w w') : RelOk P h A0 W0 (relR A S) o := by
  refine ⟨d, hd, fun a w hF hB hgot => ⟨by simp [Region.wanted, hg], ?_⟩⟩
  obtain ⟨v, w', h1, h2, h3⟩ := hnew a w
  unfold Oper.wp
  rw [h1]
  simp only [Oper.upon]
  rw [hd]
  exact ⟨v, rfl, h2, h3⟩
end

theorem putR_out {d : Nat} : ∀ (vals : List (Nat × Value)) (a : Act), (∀ p ∈ vals, p.1 ≠ d) → (putR a vals).tmps[d]? = a.tmps[d]?
  | [], a, _ => rfl
  | p :: r, a, h => by
    show (putR (a.put (some p.1) p.2) r).tmps[d]? = _
    rw [putR_out r _ (fun q hq => h q (List.mem_cons_of_mem _ hq))]
    simp [Act.put, Array.getElem?_setIfInBounds_ne (h p List.mem_cons_self)]
theorem full_put {h : List Oper} {a : Act} {S : Nat → Option (Value → World → Prop)} {sp : List Nat} (vals : List (Nat × Value)) (hv : (vals.all fun p => (dstsOf h).contains p.1) = true) (hS : ∀ d, d ∉ sp → S d = none) : Full h a (putR a vals) S sp :=
  ⟨fun d hd => putR_out vals a fun p hp e => by
    have h1 := List.contains_iff_mem.1 (List.all_eq_true.1 hv p hp)
    obtain ⟨o, ho, hdo⟩ := List.mem_filterMap.1 h1
    obtain ⟨i, hi, he⟩ := List.getElem_of_mem ho
    exact hd i o (by rw [List.getElem?_eq_getElem hi, he]) (by rw [hdo, e]), hS⟩

theorem putR_get' (f : Nat → Value) (d : Nat) (ds : List Nat) (a : Act) : (putR a (ds.map fun d => (d, f d))).tmps[d]? = if d < a.tmps.size then (if d ∈ ds then some (f d) else a.tmps[d]?) else none := by
  by_cases hd : d < a.tmps.size
  · rw [if_pos hd]; exact putR_get f d ds a hd
  · rw [if_neg hd]; exact Array.getElem?_eq_none (by rw [putR_size]; omega)

/-- A region that draws its order: the frame behind its head is A, but for the slots sp. -/
theorem region_full {P : Program} {Q : Exit → Act → World → Prop} {id : Nat} {a : Act} {w : World} (W0 : World) (n : Nat) {l : List Oper} (A : Act) (S : Nat → Option (Value → World → Prop)) (sp : List Nat) (hm : P.follows .mixedOrders = true)
    (hE : edgesIn (l.take n) = true) (hG : guardsIn (l.take n) = true) (hA : dstsApart (l.take n) 0 = true) (hI : dstsIn (l.take n) a.tmps.size = true) (hT : tailUnder (l.take n) (l.drop n) = true)
    (hS : Region.seqB .any l.toArray (l.drop n).length (l.take n).length (Array.replicate (l.take n).length true ++ Array.replicate (l.drop n).length false) = true)
    (hsz : A.tmps.size = a.tmps.size) (hdf : A.defers = a.defers) (hF : Full (l.take n) a A S sp)
    (hsp : (sp.all fun d => (dstsOf (l.take n)).contains d) = true)
    (hst : ∀ d p v w w', S d = some p → p v w → Below W0.heap.size W0 w → Below w.heap.size w w' → p v w') (hw : Below W0.heap.size W0 w)
    (hok : RelAll P (l.take n) a W0 (relR A S) (l.take n))
    (hfin : ∀ (f : Nat → Value) w', (∀ d ∈ sp, relR A S d (f d) w') → Below W0.heap.size W0 w' → wpList P l.toArray Q (l.drop n) (putR A (sp.map fun d => (d, f d))) w') : (Code.region id l.toArray true).wp P Q a w := by
  refine region_rel W0 n (relR A S) _ hm hE hG hA hI hT hS rfl ?_ hw hok ?_
  · intro d v w w' h1 h2 h3
    unfold relR at *
    cases hd : S d with
    | none => rw [hd] at h1; exact h1
    | some p => rw [hd] at h1; exact hst d p v w w' hd h1 h2 h3
  · intro f w' hf hb
    have e : putR a ((dstsOf (l.take n)).map fun d => (d, f d)) = putR A (sp.map fun d => (d, f d)) := by
      refine act_eq (Array.ext_getElem? fun d => ?_) (by rw [putR_defers, putR_defers, hdf])
      rw [putR_get', putR_get', hsz]
      by_cases hd : d < a.tmps.size
      · rw [if_pos hd, if_pos hd]
        by_cases h1 : d ∈ dstsOf (l.take n)
        · rw [if_pos h1]
          by_cases h2 : d ∈ sp
          · rw [if_pos h2]
          · rw [if_neg h2]
            have := hf d h1
            unfold relR at this
            rw [hF.spec d h2] at this
            exact this.symm
        · rw [if_neg h1, if_neg (fun h2 => h1 (by
            have := List.all_eq_true.1 hsp d h2
            exact List.contains_iff_mem.1 this))]
          refine (hF.out d fun i o ho hdo => h1 ?_).symm
          exact List.mem_filterMap.2 ⟨o, List.mem_of_getElem? ho, hdo⟩
      · rw [if_neg hd, if_neg hd]
    rw [e]
    exact hfin f w' (fun d hd => hf d (by have := List.all_eq_true.1 hsp d hd; exact List.contains_iff_mem.1 this)) hb

theorem rel_det {h : List Oper} {A0 A : Act} {S : Nat → Option (Value → World → Prop)} {sp : List Nat} (hA : Full h A0 A S sp) {d : Nat} {v : Value} {w : World} (hds : sp.contains d = false) (hv : A.tmps[d]? = some v) : relR A S d v w := by
  unfold relR
  rw [hA.spec d (fun hm => by rw [List.contains_iff_mem.2 hm] at hds; cases hds)]
  exact hv
theorem rel_spec {A : Act} {S : Nat → Option (Value → World → Prop)} {d : Nat} (p : Value → World → Prop) (hp : S d = some p) {v : Value} {w : World} (h : p v w) : relR A S d v w := by
  unfold relR
  rw [hp]
  exact h

/-- What is asked of the slots of a list. -/
def specOf (L : List (Nat × (Value → World → Prop))) : Nat → Option (Value → World → Prop) := fun d => L.lookup d
theorem specOf_none : ∀ (L : List (Nat × (Value → World → Prop))) (d : Nat), d ∉ L.map (·.1) → specOf L d = none
  | [], d, _ => rfl
  | q :: r, d, h => by
    have h1 : d ≠ q.1 := fun e => h (by rw [e]; exact List.mem_cons_self)
    have h2 := specOf_none r d (fun e => h (List.mem_cons_of_mem _ e))
    unfold specOf at *
    rw [List.lookup_cons]
    have : (d == q.1) = false := by simpa using h1
    rw [this]
    exact h2
theorem specOf_mem : ∀ (L : List (Nat × (Value → World → Prop))) (d : Nat) (p : Value → World → Prop), specOf L d = some p → ∃ q ∈ L, q.2 = p
  | [], d, p, h => by simp [specOf] at h
  | q :: r, d, p, h => by
    unfold specOf at h
    rw [List.lookup_cons] at h
    split at h
    · exact ⟨q, List.mem_cons_self, Option.some.inj h⟩
    · obtain ⟨q', h1, h2⟩ := specOf_mem r d p h
      exact ⟨q', List.mem_cons_of_mem _ h1, h2⟩

theorem region_list {P : Program} {Q : Exit → Act → World → Prop} {id : Nat} {a : Act} {w : World} (W0 : World) (n : Nat) {l : List Oper} (vals : List (Nat × Value)) (L : List (Nat × (Value → World → Prop))) (hm : P.follows .mixedOrders = true)
    (hE : edgesIn (l.take n) = true) (hG : guardsIn (l.take n) = true) (hA : dstsApart (l.take n) 0 = true) (hI : dstsIn (l.take n) a.tmps.size = true) (hT : tailUnder (l.take n) (l.drop n) = true)
    (hS : Region.seqB .any l.toArray (l.drop n).length (l.take n).length (Array.replicate (l.take n).length true ++ Array.replicate (l.drop n).length false) = true)
    (hv : (vals.all fun p => (dstsOf (l.take n)).contains p.1) = true) (hsp : ((L.map (·.1)).all fun d => (dstsOf (l.take n)).contains d) = true)
    (hst : ∀ q ∈ L, ∀ (v : Value) (w w' : World), q.2 v w → Below w.heap.size w w' → q.2 v w') (hw : Below W0.heap.size W0 w)
    (hok : Full (l.take n) a (putR a vals) (specOf L) (L.map (·.1)) → RelAll P (l.take n) a W0 (relR (putR a vals) (specOf L)) (l.take n))
    (hfin : ∀ (f : Nat → Value) w', (∀ d p, specOf L d = some p → p (f d) w') → Below W0.heap.size W0 w' → wpList P l.toArray Q (l.drop n) (putR (putR a vals) ((L.map (·.1)).map fun d => (d, f d))) w') : (Code.region id l.toArray true).wp P Q a w := by
  have hfull : Full (l.take n) a (putR a vals) (specOf L) (L.map (·.1)) := full_put vals hv (specOf_none L)
  refine region_full W0 n (putR a vals) (specOf L) (L.map (·.1)) hm hE hG hA hI hT hS (putR_size _ _) (putR_defers _ _) hfull hsp ?_ hw (hok hfull) ?_
  · intro d p v w w' h1 h2 _ h4
    obtain ⟨q, hq, rfl⟩ := specOf_mem L d p h1
    exact hst q hq v w w' h2 h4
  · intro f w' hf hb
    refine hfin f w' (fun d p hp => ?_) hb
    by_cases hd : d ∈ L.map (·.1)
    · have := hf d hd
      unfold relR at this
      rw [hp] at this
      exact this
    · rw [specOf_none L d hd] at hp
      cases hp

/-- A slice of ints in a block of its own. -/
def SliceAt (t : TypeId) (k : IntKind) (l : List Nat) (cap : Nat) : Value → World → Prop := fun v w => ∃ g, v = .slice (some ⟨g, 0, none⟩) l.length cap ∧ Blk w g t (ints k l)
theorem SliceAt.under {t : TypeId} {k : IntKind} {l : List Nat} {cap : Nat} {v : Value} {w w' : World} (h : SliceAt t k l cap v w) (hb : Below w.heap.size w w') : SliceAt t k l cap v w' := by
  obtain ⟨g, h1, h2⟩ := h
  exact ⟨g, h1, h2.under hb⟩
end Go.Proofs.YtniogaimhkcedaaDoor.sh
/-
  Single operations on words, ints and addresses: what they come to.
-/
namespace Go.Proofs.YtniogaimhkcedaaDoor.sh
open Go Go.RowKit
set_option linter.unusedVariables false
set_option linter.unusedSimpArgs false

section
variable {o : Oper} {a : Act} {x y : Operand}
theorem run_add32 {m n z : Nat} (ho : o.op = .binOp .add 132 x y 132) (hx : a.eval x = .int .u32 (m : Int)) (hy : a.eval y = .int .u32 (n : Int)) (hz : z = (m + n) % 4294967296) (w : World) : (execOp a.eval o).run Tryd.prog w = .ok (.value (.int .u32 (z : Int))) w := by
  unfold execOp
  simp only [ho, hx, hy]
  simp [go_sem, IntKind.wrap_u32']
  omega
theorem run_xor32 {m n z : Nat} (ho : o.op = .binOp .xor 132 x y 132) (hx : a.eval x = .int .u32 (m : Int)) (hy : a.eval y = .int .u32 (n : Int)) (hm : m < 4294967296) (hn : n < 4294967296) (hz : z = m ^^^ n) (w : World) : (execOp a.eval o).run Tryd.prog w = .ok (.value (.int .u32 (z : Int))) w := by
  have h := u32_xor_nat m n hm hn
  unfold execOp
  simp only [ho, hx, hy]
  simp [go_sem, h, hz]
theorem run_shr32 {n z : Nat} (c : Nat) {u : TypeId} (ho : o.op = .binOp .shr 132 x (.const (.int .u64 (c : Int))) u) (hx : a.eval x = .int .u32 (n : Int)) (hc : c < 32) (hz : z = n / 2 ^ c) (w : World) : (execOp a.eval o).run Tryd.prog w = .ok (.value (.int .u32 (z : Int))) w := by
  have e : ((n : Int) / 2 ^ c) = ((n / 2 ^ c : Nat) : Int) := by rw [Int.natCast_ediv, Int.natCast_pow]; rfl
  have e2 : min c 32 = c := by omega
  have e3 : a.eval (.const (.int .u64 (c : Int))) = .int .u64 (c : Int) := rfl
  unfold execOp
  simp only [ho, hx, e3]
  rw [hz, ← e]
  clear hz e
  simp [go_sem, Op.shift, IntKind.bits, e2]
theorem run_subI {i : Nat} (c : Nat) (ho : o.op = .binOp .sub 3 x (.const (.int .i64 (c : Int))) 3) (hx : a.eval x = .int .i64 (i : Int)) (hle : c ≤ i) (hi : i < 4611686018427387904) (w : World) : (execOp a.eval o).run Tryd.prog w = .ok (.value (.int .i64 ((i - c : Nat) : Int))) w := by
  have e3 : a.eval (.const (.int .i64 (c : Int))) = .int .i64 (c : Int) := rfl
  unfold execOp
  simp only [ho, hx, e3]
  simp [go_sem, IntKind.wrap_i64, wrap64]
  omega
theorem run_idx {i g len : Nat} {t e : TypeId} (ho : o.op = .indexAddr t x y) (hx : a.eval x = .pointer (some ⟨g, 0, none⟩)) (hy : a.eval y = .int .i64 (i : Int)) (ht : Tryd.prog.underlying t = some (.array len e)) (hi : i < len) (sz : ∀ w, (sizeOf e).run Tryd.prog w = .ok 1 w) (w : World) : (execOp a.eval o).run Tryd.prog w = .ok (.value (.pointer (some ⟨g, i, none⟩))) w := by
  have h1 : ((i : Int) < (len : Int)) := by omega
  unfold execOp
  simp only [ho, hx, hy, Instr.indexAt]
  simp [asIntOf, run_underlying ht, h1, sz, go_sem, Addr.add]
  rw [if_pos hi]
  by_cases h0 : i = 0 <;> simp [h0]
end
end Go.Proofs.YtniogaimhkcedaaDoor.sh
/-
  The words of a block.
-/
namespace Go.Proofs.YtniogaimhkcedaaDoor.sh
open Go Go.RowKit
set_option linter.unusedVariables false
set_option linter.unusedSimpArgs false

/-- All below 2^32. -/
def Small (l : List Nat) : Prop := ∀ (i x : Nat), l[i]? = some x → x < 4294967296
theorem Small.set {l : List Nat} (h : Small l) (i v : Nat) (hv : v < 4294967296) : Small (l.set i v) := by
  intro j x hx
  by_cases hij : i = j
  · subst hij
    rw [List.getElem?_set_self'] at hx
    cases hq : l[i]? with
    | none => simp [hq] at hx
    | some y => simp [hq] at hx; omega
  · rw [List.getElem?_set_ne hij] at hx
    exact h j x hx
theorem Small.getD {l : List Nat} (h : Small l) (i : Nat) : l.getD i 0 < 4294967296 := by
  cases hq : l[i]? with
  | none => simp [List.getD_eq_getElem?_getD, hq]
  | some y => simp [List.getD_eq_getElem?_getD, hq]; exact h i y hq

/-- The first words, behind so many bytes. -/
def packTo (b : List Nat) : Nat → List Nat
  | 0 => List.replicate 64 0
  | i + 1 => (packTo b i).set (i / 4) (((packTo b i).getD (i / 4) 0 * 256 % 4294967296) ||| b.getD i 0)
theorem packTo_len (b : List Nat) : ∀ i, (packTo b i).length = 64
  | 0 => by simp [packTo]
  | i + 1 => by rw [packTo, List.length_set]; exact packTo_len b i
theorem packTo_small (b : List Nat) (hb : ∀ (i x : Nat), b[i]? = some x → x < 256) : ∀ i, Small (packTo b i)
  | 0 => fun j x hx => by
    rw [packTo, List.getElem?_replicate] at hx
    split at hx <;> simp at hx
    omega
  | i + 1 => by
    refine (packTo_small b hb i).set _ _ (Nat.or_lt_two_pow (n := 32) (Nat.mod_lt _ (by decide)) ?_)
    cases hq : b[i]? with
    | none => simp [List.getD_eq_getElem?_getD, hq]
    | some y => simp [List.getD_eq_getElem?_getD, hq]; have := hb i y hq; omega
theorem packTo_zero (b : List Nat) : packTo b 0 = List.replicate 64 0 := rfl
/-- A further word: of the one 2, 7, 15 and 16 ahead of it. -/
def extN (near p7 far p16 : Nat) : Nat := ((((turnN near [17, 19] ^^^ near / 2 ^ 10) + p7) % 4294967296 + (turnN far [7, 18] ^^^ far / 2 ^ 3)) % 4294967296 + p16) % 4294967296
theorem extN_lt (a b c d : Nat) : extN a b c d < 4294967296 := Nat.mod_lt _ (by decide)
def extAt (P : List Nat) (i : Nat) : List Nat := P.set i (extN (P.getD (i - 2) 0) (P.getD (i - 7) 0) (P.getD (i - 15) 0) (P.getD (i - 16) 0))
/-- All words, the first 16 given, so many further ones reckoned. -/
def extTo (P : List Nat) : Nat → List Nat
  | 0 => P
  | n + 1 => extAt (extTo P n) (16 + n)
theorem extTo_zero (P : List Nat) : extTo P 0 = P := rfl
theorem extTo_succ (P : List Nat) (n : Nat) : extTo P (n + 1) = extAt (extTo P n) (16 + n) := rfl
theorem extTo_len (P : List Nat) : ∀ n, (extTo P n).length = P.length
  | 0 => rfl
  | n + 1 => by rw [extTo_succ]; unfold extAt; rw [List.length_set]; exact extTo_len P n
theorem extTo_small (P : List Nat) (h : Small P) : ∀ n, Small (extTo P n)
  | 0 => h
  | n + 1 => by rw [extTo_succ]; exact (extTo_small P h n).set _ _ (extN_lt _ _ _ _)
/-- The words W of a block. -/
def spreadL (b : List Nat) : List Nat := extTo (packTo b 64) 48
theorem amounts3 (i m : Nat) (h : [17, 19][i]? = some m) : 0 < m ∧ m < 32 := by
  rcases i with _ | _ | i <;> simp at h <;> omega
theorem amounts4 (i m : Nat) (h : [7, 18][i]? = some m) : 0 < m ∧ m < 32 := by
  rcases i with _ | _ | i <;> simp at h <;> omega
theorem zero64 : (#[.int .u32 0, .int .u32 0, .int .u32 0, .int .u32 0, .int .u32 0, .int .u32 0, .int .u32 0, .int .u32 0, .int .u32 0, .int .u32 0, .int .u32 0, .int .u32 0, .int .u32 0, .int .u32 0, .int .u32 0, .int .u32 0, .int .u32 0, .int .u32 0, .int .u32 0, .int .u32 0, .int .u32 0, .int .u32 0, .int .u32 0, .int .u32 0, .int .u32 0, .int .u32 0, .int .u32 0, .int .u32 0, .int .u32 0, .int .u32 0, .int .u32 0, .int .u32 0, .int .u32 0, .int .u32 0, .int .u32 0, .int .u32 0, .int .u32 0, .int .u32 0, .int .u32 0, .int .u32 0, .int .u32 0, .int .u32 0, .int .u32 0, .int .u32 0, .int .u32 0, .int .u32 0, .int .u32 0, .int .u32 0, .int .u32 0, .int .u32 0, .int .u32 0, .int .u32 0, .int .u32 0, .int .u32 0, .int .u32 0, .int .u32 0, .int .u32 0, .int .u32 0, .int .u32 0, .int .u32 0, .int .u32 0, .int .u32 0, .int .u32 0, .int .u32 0] : Array Value) = ints .u32 (List.replicate 64 0) := by kernel_rfl
theorem index_run {o : Oper} {a : Act} {x y : Operand} {t e : TypeId} {len i : Nat} {A : Array Value} {v : Value} (ho : o.op = .index t x y) (hx : a.eval x = .agg A) (hy : a.eval y = .int .i64 (i : Int)) (ht : Tryd.prog.underlying t = some (.array len e)) (hi : i < len) (ag : ∀ w, (isAgg e).run Tryd.prog w = .ok false w) (sz : ∀ w, (sizeOf e).run Tryd.prog w = .ok 1 w) (hv : A[i]? = some v) (w : World) : (execOp a.eval o).run Tryd.prog w = .ok (.value v) w := by
  have h1 : ((i : Int) < (len : Int)) := by omega
  unfold execOp
  simp only [ho, hx, hy, Instr.index]
  simp [asIntOf, run_underlying ht, h1, sz, go_sem, part, ag, hv]
  intro h
  omega

end Go.Proofs.YtniogaimhkcedaaDoor.sh
/-
  What 64 rounds make of a state and a block.
-/
namespace Go.Proofs.YtniogaimhkcedaaDoor.sh
open Go Go.RowKit
set_option linter.unusedVariables false
set_option linter.unusedSimpArgs false

theorem list8 (s : List Nat) (h : s.length = 8) : ∃ x0 x1 x2 x3 x4 x5 x6 x7, s = [x0, x1, x2, x3, x4, x5, x6, x7] := by
  match s, h with
  | [x0, x1, x2, x3, x4, x5, x6, x7], _ => exact ⟨x0, x1, x2, x3, x4, x5, x6, x7, rfl⟩
theorem roundL_eq (a b c d e f g h m : Nat) : roundL [a, b, c, d, e, f, g, h] m = [(tN e f g h m + uN a b c) % 4294967296, a, b, c, (d + tN e f g h m) % 4294967296, e, f, g] := by unfold roundL; rfl
theorem roundL_len (s : List Nat) (m : Nat) (h : s.length = 8) : (roundL s m).length = 8 := by
  obtain ⟨x0, x1, x2, x3, x4, x5, x6, x7, rfl⟩ := list8 s h
  rw [roundL_eq]
  simp only [List.length_cons, List.length_nil]
theorem roundL_small (s : List Nat) (m : Nat) (h : s.length = 8) (hs : Small s) : Small (roundL s m) := by
  obtain ⟨x0, x1, x2, x3, x4, x5, x6, x7, rfl⟩ := list8 s h
  intro i x hx
  rw [roundL_eq] at hx
  obtain ⟨p, hp⟩ : ∃ p, p = (tN x4 x5 x6 x7 m + uN x0 x1 x2) % 4294967296 := ⟨_, rfl⟩
  obtain ⟨q, hq⟩ : ∃ q, q = (x3 + tN x4 x5 x6 x7 m) % 4294967296 := ⟨_, rfl⟩
  have lp : p < 4294967296 := by rw [hp]; exact Nat.mod_lt _ (by decide)
  have lq : q < 4294967296 := by rw [hq]; exact Nat.mod_lt _ (by decide)
  rw [← hp, ← hq] at hx
  clear hp hq
  have e0 := hs 0 x0 (by simp)
  have e1 := hs 1 x1 (by simp)
  have e2 := hs 2 x2 (by simp)
  have e4 := hs 4 x4 (by simp)
  have e5 := hs 5 x5 (by simp)
  have e6 := hs 6 x6 (by simp)
  clear hs
  rcases i with _ | _ | _ | _ | _ | _ | _ | _ | i <;> simp at hx <;> omega
def rootsL : List Nat := [1116352408, 1899447441, 3049323471, 3921009573, 961987163, 1508970993, 2453635748, 2870763221, 3624381080, 310598401, 607225278, 1426881987, 1925078388, 2162078206, 2614888103, 3248222580, 3835390401, 4022224774, 264347078, 604807628, 770255983, 1249150122, 1555081692, 1996064986, 2554220882, 2821834349, 2952996808, 3210313671, 3336571891, 3584528711, 113926993, 338241895, 666307205, 773529912, 1294757372, 1396182291, 1695183700, 1986661051, 2177026350, 2456956037, 2730485921, 2820302411, 3259730800, 3345764771, 3516065817, 3600352804, 4094571909, 275423344, 430227734, 506948616, 659060556, 883997877, 958139571, 1322822218, 1537002063, 1747873779, 1955562222, 2024104815, 2227730452, 2361852424, 2428436474, 2756734187, 3204031479, 3329325298]
theorem rootsL_len : rootsL.length = 64 := by decide
theorem rootsL_small : Small rootsL := by
  intro i x hx
  have h : rootsL.all (fun x => decide (x < 4294967296)) = true := by decide
  have := List.all_eq_true.1 h x (List.mem_of_getElem? hx)
  simpa using this
/-- The program's variable holds the constants. -/
def RootsAt (w : World) : Prop := 0 < w.heap.size ∧ ∀ (i x : Nat), rootsL[i]? = some x → w.cell? ⟨0, i, none⟩ = some (.int .u32 (x : Int))
theorem RootsAt.below {w w' : World} {n : Nat} (h : RootsAt w) (hn : 0 < n) (hb : Below n w w') : RootsAt w' := ⟨Nat.lt_of_lt_of_le h.1 hb.size, fun i x hx => by rw [hb.cell hn]; exact h.2 i x hx⟩

/-- A state behind so many rounds. -/
def roundTo (s ws : List Nat) : Nat → List Nat
  | 0 => s
  | n + 1 => roundL (roundTo s ws n) ((rootsL.getD n 0 + ws.getD n 0) % 4294967296)
theorem roundTo_zero (s ws : List Nat) : roundTo s ws 0 = s := rfl
theorem roundTo_succ (s ws : List Nat) (n : Nat) : roundTo s ws (n + 1) = roundL (roundTo s ws n) ((rootsL.getD n 0 + ws.getD n 0) % 4294967296) := rfl
theorem roundTo_len (s ws : List Nat) (h : s.length = 8) : ∀ n, (roundTo s ws n).length = 8
  | 0 => h
  | n + 1 => by rw [roundTo_succ]; exact roundL_len _ _ (roundTo_len s ws h n)
theorem roundTo_small (s ws : List Nat) (h : s.length = 8) (hs : Small s) : ∀ n, Small (roundTo s ws n)
  | 0 => hs
  | n + 1 => by rw [roundTo_succ]; exact roundL_small _ _ (roundTo_len s ws h n) (roundTo_small s ws h hs n)
def mixedL (s b : List Nat) : List Nat := roundTo s (spreadL b) 64
theorem mixedL_len (s b : List Nat) (h : s.length = 8) : (mixedL s b).length = 8 := roundTo_len s _ h 64
theorem mixedL_small (s b : List Nat) (h : s.length = 8) (hs : Small s) : Small (mixedL s b) := roundTo_small s _ h hs 64
theorem spreadL_len (b : List Nat) : (spreadL b).length = 64 := by unfold spreadL; rw [extTo_len, packTo_len]
theorem Grew.roots {w w' : World} {g : Nat} (h : Grew w w' g) (hg : 0 < g) (hr : RootsAt w) : RootsAt w' := hr.below (n := 0 + 1) (by decide) (h.below (by omega) (by have := hr.1; omega))
theorem wl_cell {ops : Array Oper} {rest : List Oper} {o : Oper} {a : Act} {w : World} {Q : Exit → Act → World → Prop} (hgd : o.guard = none) (e : TypeId) (ag : ∀ w, (isAgg e).run Tryd.prog w = .ok false w) (x : Operand) (ho : o.op = .load e x) (A : Addr) (hx : a.eval x = .pointer (some A)) (v : Value)
    (hc : w.cell? A = some v) (h : wpList Tryd.prog ops Q rest (a.put o.dst v) w) : wpList Tryd.prog ops Q (o :: rest) a w :=
  wl_val hgd v (by
    unfold execOp
    simp only [ho, hx, Instr.loadAt, Instr.sureAddr, Sem.run_bind, Sem.run_pure, Result.andThen_ok]
    simp [loadVar, ag, go_sem, hc]) h

end Go.Proofs.YtniogaimhkcedaaDoor.sh
/-
  Numbers that lie side by side in one block: a slice literal of them is made, one of them is read.
-/
namespace Go.Proofs.YtniogaimhkcedaaDoor
open Go Go.RowKit
set_option linter.unusedVariables false
set_option linter.unusedSimpArgs false

section
variable {P : Program}

theorem run_loadVar_at (w : World) (g off : Nat) (t ty : TypeId) (cs es : Array Value) (fr : Nat × Nat) (d : TypeDesc) (hg : w.heap[g]? = some (.cells cs t fr)) (hp : ∀ j v, es[j]? = some v → cs[off + j]? = some v)
    (hu : P.underlying ty = some d) (hd : (match d with | .struct _ | .array _ _ => true | _ => false) = true) (hi : (P.info? ty).map (·.size) = some es.size) :
    (loadVar ty ⟨g, off, none⟩).run P w = .ok (.agg es) w := by
  have hl : (loadCells ⟨g, off, none⟩ es.toList.length).run P w = .ok es.toList.toArray w :=
    run_loadCells_list (P := P) w ⟨g, off, none⟩ es.toList (fun j v hv => by
      have hadd : (⟨g, off, none⟩ : Addr).add j = ⟨g, off + j, none⟩ := by unfold Addr.add; split <;> simp_all
      rw [hadd, cell_of_row w g (off + j) cs t fr hg]
      exact hp j v (by simpa using hv))
  cases hq : P.info? ty with
  | none => simp [hq] at hi
  | some i =>
    have hs : i.size = es.size := by simpa [hq] using hi
    have hagg : (isAgg ty).run P w = .ok true w := by
      unfold isAgg
      rw [Sem.run_bind, run_underlying hu w]
      cases d <;> simp_all
    simp only [Array.length_toList, Array.toArray_toList] at hl
    simp [loadVar, Sem.run_bind, hagg, sizeOf, typeInfo, hq, hs, hl]

theorem wpList_load_at {ops : Array Oper} {rest : List Oper} {o : Oper} {a : Act} {w : World} {Q : Exit → Act → World → Prop} (hgd : o.guard = none) (ty : TypeId) (x : Operand) (ho : o.op = .load ty x)
    (g off : Nat) (hx : a.eval x = .pointer (some ⟨g, off, none⟩)) (t : TypeId) (cs es : Array Value) (fr : Nat × Nat) (d : TypeDesc) (hg : w.heap[g]? = some (.cells cs t fr)) (hp : ∀ j v, es[j]? = some v → cs[off + j]? = some v)
    (hu : P.underlying ty = some d) (hd : (match d with | .struct _ | .array _ _ => true | _ => false) = true) (hi : (P.info? ty).map (·.size) = some es.size)
    (h : wpList P ops Q rest (a.put o.dst (.agg es)) w) : wpList P ops Q (o :: rest) a w :=
  wpList_plain hgd fun _ hK => by
    unfold Oper.wp execOp
    simp only [ho, hx, Instr.loadAt, Instr.sureAddr, Sem.run_bind, Sem.run_pure, Result.andThen_ok, run_loadVar_at w g off t ty cs es fr d hg hp hu hd hi]
    exact hK _ _ h
end

/-- The numbers' bytes, side by side. -/
def rowA (vs : List Nat) : Array Value := ((vs.map fun n => Value.agg (numA n)).flatMap fun v => v.cells.toList).toArray

theorem rowA_at (vs : List Nat) {i n : Nat} (hi : vs[i]? = some n) (j : Nat) (v : Value) (hv : (numA n)[j]? = some v) : (rowA vs)[i * 32 + j]? = some v := by
  have hj : j < 32 := by
    rcases Nat.lt_or_ge j 32 with h | h
    · exact h
    · rw [Array.getElem?_eq_none (by rw [numA_size]; exact h)] at hv; cases hv
  unfold rowA
  rw [List.getElem?_toArray, Great.flat_get (s := 32) (by decide) _ (fun v hv => by obtain ⟨k, _, rfl⟩ := List.mem_map.1 hv; exact numA_size k), show (i * 32 + j) / 32 = i by omega, show (i * 32 + j) % 32 = j by omega, List.getElem?_map, hi]
  exact hv

theorem wpList_buildRow {P : Program} {ops : Array Oper} {rest : List Oper} {o : Oper} {a : Act} {w : World} {Q : Exit → Act → World → Prop} (hg : o.guard = none) (t e : TypeId) (len : Nat) (parts : Array (Nat × Operand)) (ho : o.op = .buildSlice t len parts)
    (vs : List Nat) (hu : P.underlying t = some (.slice e)) (hsz : (P.info? e).map (·.size) = some 32) (hz : ((P.info? e).bind (·.zero)).isSome = true)
    (hlen : len = vs.length) (hpos : 0 < len) (hsmall : len ≤ 2 ^ 18)
    (hparts : (parts.map fun (i, x) => (i, a.eval x)).toList = ((vs.map fun n => Value.agg (numA n)).zipIdx 0).map fun x => (x.2, x.1))
    (h : wpList P ops Q rest (a.put o.dst (.slice (some ⟨w.heap.size, 0, none⟩) len len)) (w.alloc (.cells (rowA vs) e))) : wpList P ops Q (o :: rest) a w := by
  cases hie : P.info? e with
  | none => simp [hie] at hsz
  | some ie =>
    simp only [hie, Option.map_some, Option.some.injEq, Option.bind_some] at hsz hz
    obtain ⟨z, hzz⟩ := Option.isSome_iff_exists.1 hz
    refine wpList_buildSlice hg t e len parts ho _ ie z hu hie hzz (by rw [hsz]; omega) (by rw [hsz]; omega) ?_ h
    rw [hparts, hsz]
    exact Great.fill_whole (by decide) _ _ (fun v hv => by obtain ⟨k, _, rfl⟩ := List.mem_map.1 hv; exact numA_size k) (by simp [hlen])

theorem q_load1 {P : Program} {ops : Array Oper} {C : World → Prop} {Q : Act → Prop} {a : Act} {o : Oper} {rest : List Oper} (hw : Region.wanted o (yielded ops a.tmps) = true) (ty : TypeId) (x : Operand) (g off : Nat) (v : Value) (ho : o.op = .load ty x) (hx : a.eval x = .pointer (some ⟨g, off, none⟩))
    (hC : ∀ w, C w → w.cell? ⟨g, off, none⟩ = some v) (hagg : ∀ w, (isAgg ty).run P w = .ok false w)
    (h : wpQuiet P ops C Q rest (a.put o.dst v)) : wpQuiet P ops C Q (o :: rest) a := by
  refine BigFrame.wpQuiet_want hw fun K hK => ⟨v, fun w hc => ?_, hK _ h⟩
  have hrun : (execOp a.eval o).run P w = .ok (.value v) w := by
    unfold execOp
    simp only [ho, hx, Instr.loadAt, Instr.sureAddr, Sem.run_bind, Sem.run_pure, Result.andThen_ok]
    simp [loadVar, hagg, go_sem, hC w hc]
  unfold Oper.quietAt
  rw [hrun]
  exact ⟨rfl, rfl⟩

theorem cell_numA {w : World} {g n : Nat} {t : TypeId} {fr : Nat × Nat} (hg : w.heap[g]? = some (.cells (numA n) t fr)) (j : Nat) (hj : j < 32) : w.cell? ⟨g, j, none⟩ = some (.int .u8 ((n / 256 ^ j % 256 : Nat) : Int)) := by
  rw [cell_of_row w g j _ t fr hg]
  exact numA_get n j hj

theorem top_small {n : Nat} (h : n < 57896044618658097711785492504343953926634992332820282019728792003956564819949) : n / 256 ^ 31 % 256 ≤ 127 := by
  have : (256 : Nat) ^ 31 = 452312848583266388373324160190187140051835877600158453279131187530910662656 := by decide +kernel
  rw [this]
  omega
end Go.Proofs.YtniogaimhkcedaaDoor
/-
  A digest in memory; bytes that come in; what bytes one by one make of a digest.
-/
namespace Go.Proofs.YtniogaimhkcedaaDoor.sh
open Go Go.RowKit
set_option linter.unusedVariables false
set_option linter.unusedSimpArgs false

/-- All below 256. -/
def Bytes (l : List Nat) : Prop := ∀ (i x : Nat), l[i]? = some x → x < 256
theorem Bytes.drop {l : List Nat} (h : Bytes l) (k : Nat) : Bytes (l.drop k) := fun i x hx => h (k + i) x (by rw [List.getElem?_drop] at hx; exact hx)
theorem Bytes.take {l : List Nat} (h : Bytes l) (k : Nat) : Bytes (l.take k) := fun i x hx => by
  rw [List.getElem?_take] at hx
  split at hx
  · exact h i x hx
  · cases hx
theorem Bytes.append {l m : List Nat} (h : Bytes l) (h' : Bytes m) : Bytes (l ++ m) := fun i x hx => by
  rw [List.getElem?_append] at hx
  split at hx
  · exact h i x hx
  · exact h' _ x hx
theorem Bytes.splice {l m : List Nat} (h : Bytes l) (h' : Bytes m) (o : Nat) : Bytes (splice l o m) := (h.take o).append (h'.append (h.drop _))
theorem bytes_zero (n : Nat) : Bytes (List.replicate n 0) := fun i x hx => by
  rw [List.getElem?_replicate] at hx
  split at hx <;> simp at hx
  omega

theorem splice_len {l m : List Nat} {o : Nat} (h : o + m.length ≤ l.length) : (splice l o m).length = l.length := length_splice l o m h
theorem splice_mid {α : Type} (X Y Z cs : List α) (i : Nat) (h : i + cs.length ≤ Y.length) : splice (X ++ (Y ++ Z)) (X.length + i) cs = X ++ (splice Y i cs ++ Z) := by
  unfold splice
  have e1 : (X ++ (Y ++ Z)).take (X.length + i) = X ++ Y.take i := by
    rw [List.take_append, List.take_of_length_le (by omega), Nat.add_sub_cancel_left, List.take_append_of_le_length (by omega)]
  have e2 : (X ++ (Y ++ Z)).drop (X.length + i + cs.length) = Y.drop (i + cs.length) ++ Z := by
    rw [show X.length + i + cs.length = X.length + (i + cs.length) from by omega, List.drop_append, List.drop_of_length_le (by omega), List.nil_append, Nat.add_sub_cancel_left, List.drop_append_of_le_length (by omega)]
  rw [e1, e2]
  simp
theorem splice_ints (k : IntKind) (l m : List Nat) (o : Nat) : splice (ints k l).toList o (ints k m).toList = (ints k (splice l o m)).toList := by
  simp [splice, ints, List.map_take, List.map_drop]
theorem splice_all {α : Type} (l m : List α) (h : m.length = l.length) : splice l 0 m = m := by
  unfold splice
  rw [List.take_zero, List.nil_append, Nat.zero_add, h, List.drop_length, List.append_nil]
theorem splice_nil {α : Type} (l : List α) (o : Nat) : splice l o [] = l := by
  unfold splice
  simp
theorem splice_cons (l : List Nat) (o x : Nat) (r : List Nat) (h : o < l.length) : splice (l.set o x) (o + 1) r = splice l o (x :: r) := by
  unfold splice
  have e1 : (l.set o x).take (o + 1) = l.take o ++ [x] := by
    rw [List.take_add_one, List.getElem?_set_self h, List.take_set_of_le (Nat.le_refl _)]
    rfl
  have e2 : (l.set o x).drop (o + 1 + r.length) = l.drop (o + (x :: r).length) := by
    rw [List.drop_set_of_lt (by omega), List.length_cons]
    congr 1
    omega
  rw [e1, e2]
  simp

/-- The cells of a digest. -/
def digA (G R : List Nat) (n : Nat) : Array Value := ((ints .u32 G).toList ++ ((ints .u8 R).toList ++ [Value.int .u64 (n : Int)])).toArray
theorem digA_size (G R : List Nat) (n : Nat) (hG : G.length = 8) (hR : R.length = 64) : (digA G R n).size = 73 := by simp [digA, ints, hG, hR]
theorem digA_n (G R : List Nat) (n : Nat) (hG : G.length = 8) (hR : R.length = 64) : (digA G R n)[72]? = some (.int .u64 (n : Int)) := by
  simp [digA, ints, List.getElem?_append, hG, hR]
theorem digA_setn (G R : List Nat) (n m : Nat) (hG : G.length = 8) (hR : R.length = 64) : (digA G R n).setIfInBounds 72 (.int .u64 (m : Int)) = digA G R m := by
  simp [digA, ints, List.set_append, hG, hR]
theorem digA_g (G R : List Nat) (n : Nat) (hG : G.length = 8) (j : Nat) (v : Value) (hv : (ints .u32 G)[j]? = some v) : (digA G R n)[0 + j]? = some v := by
  have hj : j < 8 := by have := (Array.getElem?_eq_some_iff.1 hv).1; rw [ints_size, hG] at this; exact this
  rw [Nat.zero_add, ← hv]
  simp [digA, List.getElem?_append, ints, hG, hj]
theorem digA_r (G R : List Nat) (n : Nat) (hG : G.length = 8) (hR : R.length = 64) (j : Nat) (v : Value) (hv : (ints .u8 R)[j]? = some v) : (digA G R n)[8 + j]? = some v := by
  have hj : j < 64 := by have := (Array.getElem?_eq_some_iff.1 hv).1; rw [ints_size, hR] at this; exact this
  rw [← hv]
  have h1 : ¬ (8 + j < 8) := by omega
  simp [digA, List.getElem?_append, ints, hG, hR, hj]
theorem digA_setg (G R G' : List Nat) (n : Nat) (hG : G.length = 8) (hG' : G'.length = 8) : (splice (digA G R n).toList 0 (ints .u32 G').toList).toArray = digA G' R n := by
  have h := splice_mid ([] : List Value) (ints .u32 G).toList ((ints .u8 R).toList ++ [.int .u64 (n : Int)]) (ints .u32 G').toList 0 (by simp [ints, hG, hG'])
  simp only [List.nil_append, List.length_nil, Nat.zero_add] at h
  unfold digA
  rw [h, splice_all _ _ (by simp [ints, hG, hG'])]
theorem digA_setr (G R cs : List Nat) (n o : Nat) (hG : G.length = 8) (h : o + cs.length ≤ R.length) : (splice (digA G R n).toList (8 + o) (ints .u8 cs).toList).toArray = digA G (splice R o cs) n := by
  have h := splice_mid (ints .u32 G).toList (ints .u8 R).toList [.int .u64 (n : Int)] (ints .u8 cs).toList o (by simpa [ints] using h)
  have e : (ints .u32 G).toList.length = 8 := by simp [ints, hG]
  rw [e] at h
  unfold digA
  rw [h, splice_ints]

/-- Bytes that a slice holds. -/
def BytesV (v : Value) (w : World) (bs : List Nat) : Prop := ∃ p c, v = .slice p bs.length c ∧ bs.length ≤ c ∧ (bs ≠ [] → ∃ A, p = some A ∧ A.block < w.heap.size ∧ ∀ (j x : Nat), bs[j]? = some x → w.cell? (A.add j) = some (.int .u8 (x : Int)))
theorem add_block (A : Addr) (k : Nat) : (A.add k).block = A.block := by unfold Addr.add; split <;> rfl
theorem add_add (A : Addr) (k j : Nat) : (A.add k).add j = A.add (k + j) := by
  unfold Addr.add
  by_cases hk : k = 0
  · subst hk; simp
  · by_cases hj : j = 0
    · subst hj; simp [hk]
    · simp [hk, hj]; omega
theorem BytesV.under {v : Value} {w w' : World} {bs : List Nat} (h : BytesV v w bs) (hb : Below w.heap.size w w') : BytesV v w' bs := by
  obtain ⟨p, c, h1, h2, h3⟩ := h
  refine ⟨p, c, h1, h2, fun hne => ?_⟩
  obtain ⟨A, e1, e2, e3⟩ := h3 hne
  exact ⟨A, e1, Nat.lt_of_lt_of_le e2 hb.size, fun j x hx => by rw [hb.cell (by rw [add_block]; exact e2)]; exact e3 j x hx⟩
theorem bytesV_slice {t : TypeId} {bs : List Nat} {cap : Nat} {v : Value} {w : World} (h : SliceAt t .u8 bs cap v w) (hc : bs.length ≤ cap) : BytesV v w bs := by
  obtain ⟨g, rfl, hb⟩ := h
  exact ⟨_, cap, rfl, hc, fun _ => ⟨_, rfl, hb.lt, fun j x hx => by rw [addr_add, Nat.zero_add]; exact hb.cell (ints_get hx)⟩⟩

section
variable {o : Oper} {a : Act} {x y : Operand}
theorem cut_run {p : Option Addr} {l c k : Nat} {t e : TypeId} (ho : o.op = .slice t x (some y) none none) (hx : a.eval x = .slice p l c) (hy : a.eval y = .int .i64 (k : Int)) (ht : Tryd.prog.underlying t = some (.slice e)) (sz : ∀ w, (sizeOf e).run Tryd.prog w = .ok 1 w) (hk : k ≤ l) (w : World) :
    (execOp a.eval o).run Tryd.prog w = .ok (.value (.slice (if c = k then p else p.map (·.add k)) (l - k) (c - k))) w := by
  have h1 : ((k : Int) ≤ (l : Int)) := by omega
  unfold execOp
  simp only [ho, hx, hy, Option.map_some, Option.map_none, Instr.sliceAt, Instr.slice, Instr.sliceBounds, Sem.run_bind, run_underlying ht, Result.andThen_ok]
  simp [Instr.sliceBound, asIntOf, sz, go_sem, h1]
  intro h
  omega
theorem arr_cut_run {g off n k : Nat} {t e : TypeId} (ho : o.op = .slice t x (some y) none none) (hx : a.eval x = .pointer (some ⟨g, off, none⟩)) (hy : a.eval y = .int .i64 (k : Int)) (ht : Tryd.prog.underlying t = some (.array n e)) (sz : ∀ w, (sizeOf e).run Tryd.prog w = .ok 1 w) (hk : k < n) (w : World) :
    (execOp a.eval o).run Tryd.prog w = .ok (.value (.slice (some ⟨g, off + k, none⟩) (n - k) (n - k))) w := by
  have h1 : ((k : Int) ≤ (n : Int)) := by omega
  have h2 : ¬ n = k := by omega
  unfold execOp
  simp only [ho, hx, hy, Option.map_some, Option.map_none, Instr.sliceAt, Instr.sliceBounds, Sem.run_bind, run_underlying ht, Result.andThen_ok]
  simp [Instr.sliceBound, Instr.sureAddr, asIntOf, sz, go_sem, h1, h2, addr_add]
  intro h
  omega
end
theorem BytesV.cut {p : Option Addr} {c k : Nat} {w : World} {bs : List Nat} (h : BytesV (.slice p bs.length c) w bs) (hk : k ≤ bs.length) : BytesV (.slice (if c = k then p else p.map (·.add k)) (bs.length - k) (c - k)) w (bs.drop k) := by
  obtain ⟨p', c', h1, h2, h3⟩ := h
  cases h1
  refine ⟨_, c - k, by rw [List.length_drop], by rw [List.length_drop]; omega, fun hne => ?_⟩
  have hlt : k < bs.length := by
    rcases Nat.lt_or_ge k bs.length with h | h
    · exact h
    · exact absurd (List.drop_of_length_le h) hne
  obtain ⟨A, rfl, e2, e3⟩ := h3 (by intro e; rw [e] at hlt; simp at hlt)
  rw [if_neg (by omega)]
  refine ⟨A.add k, rfl, by rw [add_block]; exact e2, fun j x hx => ?_⟩
  rw [add_add]
  rw [List.getElem?_drop] at hx
  exact e3 _ x hx

/-- What one byte more makes of a digest. -/
def feed1 (s : List Nat × List Nat × Nat) (x : Nat) : List Nat × List Nat × Nat :=
  if s.2.2 % 64 = 63 then (plusL s.1 (mixedL (plusL firstL s.1) (s.2.1.set 63 x)), List.replicate 64 0, s.2.2 + 1) else (s.1, s.2.1.set (s.2.2 % 64) x, s.2.2 + 1)
def feed (s : List Nat × List Nat × Nat) (bs : List Nat) : List Nat × List Nat × Nat := bs.foldl feed1 s
theorem feed_append (s : List Nat × List Nat × Nat) (a b : List Nat) : feed s (a ++ b) = feed (feed s a) b := by unfold feed; rw [List.foldl_append]
theorem feed_cons (s : List Nat × List Nat × Nat) (x : Nat) (r : List Nat) : feed s (x :: r) = feed (feed1 s x) r := rfl
theorem feed_nil (s : List Nat × List Nat × Nat) : feed s [] = s := rfl
theorem feed_part (G : List Nat) : ∀ (cs R : List Nat) (n : Nat), R.length = 64 → n % 64 + cs.length < 64 → feed (G, R, n) cs = (G, splice R (n % 64) cs, n + cs.length)
  | [], R, n, hR, h => by rw [feed_nil, splice_nil]; rfl
  | x :: r, R, n, hR, h => by
    simp only [List.length_cons] at h
    have h1 : ¬ n % 64 = 63 := by omega
    have e : feed1 (G, R, n) x = (G, R.set (n % 64) x, n + 1) := if_neg h1
    have h2 : (n + 1) % 64 = n % 64 + 1 := by omega
    rw [feed_cons, e, feed_part G r _ (n + 1) (by rw [List.length_set]; exact hR) (by omega), h2, splice_cons R _ x r (by omega)]
    simp only [List.length_cons, Prod.mk.injEq, true_and]
    omega
theorem feed_chunk (G : List Nat) : ∀ (cs R : List Nat) (n : Nat), R.length = 64 → n % 64 + cs.length = 64 → feed (G, R, n) cs = (plusL G (mixedL (plusL firstL G) (splice R (n % 64) cs)), List.replicate 64 0, n + cs.length)
  | [], R, n, hR, h => by simp only [List.length_nil] at h; omega
  | x :: r, R, n, hR, h => by
    simp only [List.length_cons] at h
    by_cases h1 : n % 64 = 63
    · have hr : r = [] := List.eq_nil_of_length_eq_zero (by omega)
      subst hr
      have e : feed1 (G, R, n) x = (plusL G (mixedL (plusL firstL G) (R.set 63 x)), List.replicate 64 0, n + 1) := if_pos h1
      have e2 := splice_cons R 63 x [] (by omega)
      rw [splice_nil] at e2
      rw [feed_cons, feed_nil, e, h1, ← e2]
      rfl
    · have e : feed1 (G, R, n) x = (G, R.set (n % 64) x, n + 1) := if_neg h1
      have h2 : (n + 1) % 64 = n % 64 + 1 := by omega
      rw [feed_cons, e, feed_chunk G r _ (n + 1) (by rw [List.length_set]; exact hR) (by omega), h2, splice_cons R _ x r (by omega)]
      simp only [List.length_cons, Prod.mk.injEq, true_and]
      omega
theorem firstL_len : firstL.length = 8 := by decide
theorem firstL_small : Small firstL := by
  intro i x hx
  have h : firstL.all (fun x => decide (x < 4294967296)) = true := by decide
  have := List.all_eq_true.1 h x (List.mem_of_getElem? hx)
  simpa using this
theorem plusL_small (a b : List Nat) : Small (plusL a b) := by
  intro i x hx
  unfold plusL at hx
  rw [List.getElem?_zipWith] at hx
  cases h1 : a[i]? with
  | none => simp [h1] at hx
  | some p =>
    cases h2 : b[i]? with
    | none => simp [h1, h2] at hx
    | some q =>
      simp [h1, h2] at hx
      rw [← hx]
      exact Nat.mod_lt _ (by decide)
/-- A digest as it may be. -/
structure Good (s : List Nat × List Nat × Nat) : Prop where
  g : s.1.length = 8
  gs : Small s.1
  r : s.2.1.length = 64
  rb : Bytes s.2.1
theorem Good.feed1 {s : List Nat × List Nat × Nat} (h : Good s) (x : Nat) (hx : x < 256) : Good (feed1 s x) := by
  have hset : ∀ i, Bytes (s.2.1.set i x) := fun i j y hy => by
    by_cases hij : i = j
    · subst hij
      rw [List.getElem?_set_self'] at hy
      cases hq : s.2.1[i]? with
      | none => simp [hq] at hy
      | some z => simp [hq] at hy; omega
    · rw [List.getElem?_set_ne hij] at hy
      exact h.rb j y hy
  unfold sh.feed1
  split
  · have l1 : (plusL firstL s.1).length = 8 := by rw [plusL_len _ _ (by rw [firstL_len, h.g])]; exact firstL_len
    exact ⟨by rw [plusL_len _ _ (by rw [mixedL_len _ _ l1, h.g])]; exact h.g, plusL_small _ _, by simp, bytes_zero 64⟩
  · exact ⟨h.g, h.gs, by rw [List.length_set]; exact h.r, hset _⟩
theorem Good.feed {s : List Nat × List Nat × Nat} (h : Good s) : ∀ (bs : List Nat), Bytes bs → Good (feed s bs) := by
  intro bs
  induction bs generalizing s with
  | nil => intro _; exact h
  | cons x r ih =>
    intro hb
    rw [feed_cons]
    exact ih (h.feed1 x (hb 0 x rfl)) (fun i y hy => hb (i + 1) y hy)
theorem feed_n (s : List Nat × List Nat × Nat) : ∀ (bs : List Nat), (feed s bs).2.2 = s.2.2 + bs.length := by
  intro bs
  induction bs generalizing s with
  | nil => rfl
  | cons x r ih =>
    rw [feed_cons, ih]
    have : (feed1 s x).2.2 = s.2.2 + 1 := by unfold feed1; split <;> rfl
    rw [this, List.length_cons]
    omega

/-- A part of a block is written. -/
def setRange : Array Value → Nat → List Value → Array Value
  | A, _, [] => A
  | A, o, v :: r => setRange (A.setIfInBounds o v) (o + 1) r
theorem setRange_splice : ∀ (vs : List Value) (A : Array Value) (o : Nat), o + vs.length ≤ A.size → setRange A o vs = (splice A.toList o vs).toArray
  | [], A, o, h => by simp [setRange, splice]
  | v :: r, A, o, h => by
    simp only [List.length_cons] at h
    rw [setRange, setRange_splice r _ _ (by simp; omega)]
    congr 1
    unfold splice
    have hl : o < A.toList.length := by simp; omega
    have e1 : (A.setIfInBounds o v).toList.take (o + 1) = A.toList.take o ++ [v] := by
      rw [Array.toList_setIfInBounds, List.take_add_one, List.getElem?_set_self hl, List.take_set_of_le (Nat.le_refl _)]
      rfl
    have e2 : (A.setIfInBounds o v).toList.drop (o + 1 + r.length) = A.toList.drop (o + (v :: r).length) := by
      rw [Array.toList_setIfInBounds, List.drop_set_of_lt (by omega), List.length_cons]
      congr 1
      omega
    rw [e1, e2]
    simp
theorem setCells_heap {g : Nat} {t : TypeId} : ∀ (vs : List Value) (A : Array Value) (o : Nat) (w : World), w.heap[g]? = some (.cells A t (0, 0)) → (w.setCells g o vs).heap[g]? = some (.cells (setRange A o vs) t (0, 0))
  | [], _, _, _, h => h
  | v :: r, A, o, w, h => setCells_heap r _ _ _ (heap_setCell_same w g o A t v h)
theorem setCells_other {g k : Nat} (hne : k ≠ g) : ∀ (vs : List Value) (o : Nat) (w : World), (w.setCells g o vs).heap[k]? = w.heap[k]?
  | [], _, _ => rfl
  | v :: r, o, w => by rw [World.setCells, setCells_other hne r]; exact heap_setCell_other w ⟨g, o, none⟩ k v hne
theorem setCells_same (g : Nat) : ∀ (vs : List Value) (o : Nat) (w : World), (w.setCells g o vs).heap.size = w.heap.size ∧ (w.setCells g o vs).os = w.os ∧ (w.setCells g o vs).tape = w.tape ∧ (w.setCells g o vs).output = w.output
  | [], _, _ => ⟨rfl, rfl, rfl, rfl⟩
  | v :: r, o, w => by
    have h := setCells_same g r (o + 1) (w.setCell ⟨g, o, none⟩ v)
    rw [World.setCells]
    exact ⟨by rw [h.1]; simp, h.2.1, h.2.2.1, h.2.2.2⟩
theorem wl_setPart {ops : Array Oper} {rest : List Oper} {o : Oper} {a : Act} {w : World} {Q : Exit → Act → World → Prop} (hgd : o.guard = none) (ty : TypeId) (x y : Operand) (ho : o.op = .store ty x y) (g off : Nat) (es : Array Value) (hx : a.eval x = .pointer (some ⟨g, off, none⟩)) (hy : a.eval y = .agg es) {t : TypeId} (cur : Array Value) (hg : Blk w g t cur)
    (hfit : off + es.size ≤ cur.size) (hs : (Tryd.prog.info? ty).map (·.size) = some es.size) (h1 : es.all (·.oneCell') = true) (h : ∀ w', Blk w' g t (splice cur.toList off es.toList).toArray → Put w w' g → wpList Tryd.prog ops Q rest (a.put o.dst undef) w') : wpList Tryd.prog ops Q (o :: rest) a w := by
  have ht : w.there g off es.size := fun j hj => by
    have hlt : off + j < cur.size := by omega
    exact ⟨by rw [cell_row hg (Array.getElem?_eq_getElem hlt)]; rfl, frozen_of_row w g _ _ _ hg⟩
  refine wpList_store_mid hgd ty x y ho g off es hx hy ht hs h1 (h _ ?_ ?_)
  · have := setCells_heap es.toList cur off w hg
    rw [setRange_splice _ _ _ (by simpa using hfit)] at this
    exact this
  · have hs := setCells_same g es.toList off w
    exact ⟨⟨hs.2.1, hs.2.2.1, hs.2.2.2, by rw [hs.1]; exact Nat.le_refl _, fun k _ hk => setCells_other (fun e => hk (by rw [e])) _ _ _⟩, hs.1⟩
/-- A part of a block is read, in a region that draws its order. -/
theorem q_part {P : Program} {ops : Array Oper} {C : World → Prop} {Q : Act → Prop} {a : Act} {o : Oper} {rest : List Oper} (hw : Region.wanted o (yielded ops a.tmps) = true) (ty : TypeId) (x : Operand) (ho : o.op = .load ty x) (g off : Nat) (hx : a.eval x = .pointer (some ⟨g, off, none⟩)) (t : TypeId) (cs es : Array Value) (len : Nat) (e : TypeId)
    (hg : ∀ w, C w → Blk w g t cs) (hp : ∀ j v, es[j]? = some v → cs[off + j]? = some v) (hu : P.underlying ty = some (.array len e)) (hi : (P.info? ty).map (·.size) = some es.size) (h : wpQuiet P ops C Q rest (a.put o.dst (.agg es))) : wpQuiet P ops C Q (o :: rest) a := by
  refine BigFrame.wpQuiet_want hw fun K hK => ⟨.agg es, fun w hC => ?_, hK _ h⟩
  unfold Oper.quietAt execOp
  simp only [ho, hx, Instr.loadAt, Instr.sureAddr, Sem.run_bind, Sem.run_pure, Result.andThen_ok, run_loadVar_at w g off t ty cs es (0, 0) _ (hg w hC) hp hu rfl hi]
  exact ⟨rfl, rfl⟩
end Go.Proofs.YtniogaimhkcedaaDoor.sh
/-
  What bytes more make of a digest.
-/
namespace Go.Proofs.YtniogaimhkcedaaDoor.sh
open Go Go.RowKit
set_option linter.unusedVariables false
set_option linter.unusedSimpArgs false

def digOf (s : List Nat × List Nat × Nat) : Array Value := digA s.1 s.2.1 s.2.2
theorem zero64b : (#[.int .u8 0, .int .u8 0, .int .u8 0, .int .u8 0, .int .u8 0, .int .u8 0, .int .u8 0, .int .u8 0, .int .u8 0, .int .u8 0, .int .u8 0, .int .u8 0, .int .u8 0, .int .u8 0, .int .u8 0, .int .u8 0, .int .u8 0, .int .u8 0, .int .u8 0, .int .u8 0, .int .u8 0, .int .u8 0, .int .u8 0, .int .u8 0, .int .u8 0, .int .u8 0, .int .u8 0, .int .u8 0, .int .u8 0, .int .u8 0, .int .u8 0, .int .u8 0, .int .u8 0, .int .u8 0, .int .u8 0, .int .u8 0, .int .u8 0, .int .u8 0, .int .u8 0, .int .u8 0, .int .u8 0, .int .u8 0, .int .u8 0, .int .u8 0, .int .u8 0, .int .u8 0, .int .u8 0, .int .u8 0, .int .u8 0, .int .u8 0, .int .u8 0, .int .u8 0, .int .u8 0, .int .u8 0, .int .u8 0, .int .u8 0, .int .u8 0, .int .u8 0, .int .u8 0, .int .u8 0, .int .u8 0, .int .u8 0, .int .u8 0, .int .u8 0] : Array Value) = ints .u8 (List.replicate 64 0) := by kernel_rfl
theorem digA_one (G R : List Nat) (n : Nat) : (digA G R n).all (·.oneCell') = true := by simp [digA, ints, Value.oneCell']
theorem ints_toList (k : IntKind) (l : List Nat) : (ints k l).toList.length = l.length := by simp [ints]
theorem oneCell_ints (k : IntKind) (l : List Nat) : ∀ v ∈ (ints k l).toList, v.oneCell' = true := by
  intro v hv
  simp [ints] at hv
  obtain ⟨x, _, rfl⟩ := hv
  rfl
theorem cells_take {p : Option Addr} {l c k : Nat} {w : World} {bs : List Nat} (h : BytesV (.slice p l c) w bs) (hk : 0 < k) (hle : k ≤ bs.length) : ∃ A, p = some A ∧ ∀ j v, (ints .u8 (bs.take k)).toList[j]? = some v → w.cell? (A.add j) = some v := by
  obtain ⟨p', c', h1, h2, h3⟩ := h
  cases h1
  obtain ⟨A, rfl, _, e3⟩ := h3 (by intro e; rw [e] at hle; simp at hle; omega)
  refine ⟨A, rfl, fun j v hv => ?_⟩
  unfold ints at hv
  rw [List.toList_toArray, List.getElem?_map] at hv
  obtain ⟨x, hx, rfl⟩ := Option.map_eq_some_iff.1 hv
  rw [List.getElem?_take] at hx
  split at hx
  · exact e3 j x hx
  · cases hx

theorem build_run {o : Oper} {a : Act} {t : TypeId} {v : Value} (ho : o.op = .build t #[]) (hb : ∀ w, (Instr.build t #[]).run Tryd.prog w = .ok v w) (w : World) : (execOp a.eval o).run Tryd.prog w = .ok (.value v) w := by
  unfold execOp
  simp only [ho]
  simp [hb]
theorem put_refl (w : World) (g : Nat) : Put w w g := ⟨⟨rfl, rfl, rfl, Nat.le_refl _, fun _ _ _ => rfl⟩, rfl⟩
theorem wl_copyV {ops : Array Oper} {rest : List Oper} {o : Oper} {a : Act} {w : World} {Q : Exit → Act → World → Prop} (hgd : o.guard = none) (d s : Operand) (dT sT : TypeId) (ho : o.op = .call { callee := .builtin .copy, args := #[d, s], argTypes := #[dT, sT] }) (hu : Tryd.prog.underlying dT = some (.slice 5))
    (g off dLen dCap : Nat) (hd : a.eval d = .slice (some ⟨g, off, none⟩) dLen dCap) (p : Option Addr) (l c : Nat) (hs : a.eval s = .slice p l c) {t : TypeId} (cur : Array Value) (hg : Blk w g t cur) (bs : List Nat) (hv : BytesV (.slice p l c) w bs) (k : Nat) (hk : k = Nat.min l dLen) (hfit : off + k ≤ cur.size)
    (h : ∀ w', Blk w' g t (splice cur.toList off (ints .u8 (bs.take k)).toList).toArray → Put w w' g → wpList Tryd.prog ops Q rest (a.put o.dst (goInt k)) w') : wpList Tryd.prog ops Q (o :: rest) a w := by
  have hl : l = bs.length := by obtain ⟨_, _, h1, _⟩ := hv; cases h1; rfl
  have hle : k ≤ bs.length := by rw [hk, ← hl]; exact Nat.min_le_left _ _
  have elen : (ints .u8 (bs.take k)).toList.length = k := by rw [ints_toList, List.length_take]; omega
  by_cases h0 : k = 0
  · refine wpList_copy_nothing hgd d s dT sT ho 5 hu (by kernel_rfl) _ _ dLen dCap l c hd hs (by rw [← hk, h0]) ?_
    rw [h0] at h
    refine h w ?_ (put_refl w g)
    rw [List.take_zero]
    have e : (splice cur.toList off (ints .u8 []).toList).toArray = cur := by
      rw [show (ints .u8 []).toList = [] from rfl, splice_nil]
    rw [e]
    exact hg
  · obtain ⟨A, rfl, hA⟩ := cells_take hv (k := k) (by omega) hle
    refine wl_copy hgd d s dT sT ho 5 hu (by kernel_rfl) g off dLen dCap A l c hd hs cur hg (ints .u8 (bs.take k)).toList (by rw [elen, hk]) hA (by rw [elen]; exact hfit) (oneCell_ints _ _) ?_
    rw [elen]
    exact h

end Go.Proofs.YtniogaimhkcedaaDoor.sh
/-
  What comes behind so many bytes.
-/
namespace Go.Proofs.YtniogaimhkcedaaDoor.sh
open Go Go.RowKit
set_option linter.unusedVariables false
set_option linter.unusedSimpArgs false

theorem made_zero (n : Nat) : madeCells (Value.int .u8 0).cells n = ints .u8 (List.replicate n 0) := by
  apply Array.ext_getElem?
  intro i
  by_cases h : i < n
  · simp [madeCells, ints, Value.cells, h, Nat.mod_one]
  · rw [Array.getElem?_eq_none (by rw [size_madeCells]; omega), Array.getElem?_eq_none (by rw [ints_size, List.length_replicate]; omega)]
theorem info_u8 : (Tryd.prog.info? 5).map (fun i => (i.zero, i.size, i.bytes)) = some (some (.int .u8 0), 1, 1) := by kernel_rfl
theorem run_make8 (c : Nat) (hc : c < 1000000) (k : IntKind) (w : World) : (Instr.makeSlice 23 (.int k (c : Int)) (.int k (c : Int))).run Tryd.prog w = .ok (.slice (some ⟨w.heap.size, 0, none⟩) c c) (w.alloc (.cells (ints .u8 (List.replicate c 0)) 5)) := by
  have hi := info_u8
  cases hq : Tryd.prog.info? 5 with
  | none => rw [hq] at hi; cases hi
  | some i =>
    rw [hq] at hi
    simp only [Option.map_some, Option.some.injEq, Prod.mk.injEq] at hi
    obtain ⟨h1, h2, h3⟩ := hi
    have h := run_make (P := Tryd.prog) w 23 5 i (.int .u8 0) Tryd.underlying23 hq h1 k k (c : Int) (c : Int) (by omega) (Int.le_refl _) (by rw [h3]; omega) (by omega)
    rw [h2, Nat.mul_one, Int.toNat_natCast, made_zero] at h
    exact h
theorem wl_make {ops : Array Oper} {rest : List Oper} {o : Oper} {a : Act} {w : World} {Q : Exit → Act → World → Prop} (hgd : o.guard = none) (x : Operand) (ho : o.op = .makeSlice 23 x x) (k : IntKind) (c : Nat) (hx : a.eval x = .int k (c : Int)) (hc : c < 1000000)
    (h : wpList Tryd.prog ops Q rest (a.put o.dst (.slice (some ⟨w.heap.size, 0, none⟩) c c)) (w.alloc (.cells (ints .u8 (List.replicate c 0)) 5))) : wpList Tryd.prog ops Q (o :: rest) a w :=
  wpList_plain hgd fun K hK => by
    have hrun : (execOp a.eval o).run Tryd.prog w = .ok (.value (.slice (some ⟨w.heap.size, 0, none⟩) c c)) (w.alloc (.cells (ints .u8 (List.replicate c 0)) 5)) := by
      unfold execOp
      simp only [ho, hx]
      simp [run_make8 c hc k w]
    unfold Oper.wp
    rw [hrun]
    exact hK _ _ h

def zerosN (n : Nat) : Nat := (64 - (1 + n + 8) % 64) % 64
/-- What comes behind n bytes, so many bytes of their number laid. -/
def fillTo (n : Nat) : Nat → List Nat
  | 0 => (List.replicate (1 + zerosN n + 8) 0).set 0 128
  | i + 1 => (fillTo n i).set (1 + zerosN n + 8 - 1 - i) (n * 8 % 18446744073709551616 / 2 ^ (8 * i) % 256)
theorem fillTo_zero (n : Nat) : fillTo n 0 = (List.replicate (1 + zerosN n + 8) 0).set 0 128 := rfl
theorem fillTo_succ (n i : Nat) : fillTo n (i + 1) = (fillTo n i).set (1 + zerosN n + 8 - 1 - i) (n * 8 % 18446744073709551616 / 2 ^ (8 * i) % 256) := rfl
theorem fillTo_len (n : Nat) : ∀ i, (fillTo n i).length = 1 + zerosN n + 8
  | 0 => by rw [fillTo_zero, List.length_set, List.length_replicate]
  | i + 1 => by rw [fillTo_succ, List.length_set]; exact fillTo_len n i
theorem Bytes.set {l : List Nat} (h : Bytes l) (i v : Nat) (hv : v < 256) : Bytes (l.set i v) := by
  intro j x hx
  by_cases hij : i = j
  · subst hij
    rw [List.getElem?_set_self'] at hx
    cases hq : l[i]? with
    | none => simp [hq] at hx
    | some y => simp [hq] at hx; omega
  · rw [List.getElem?_set_ne hij] at hx
    exact h j x hx
theorem fillTo_bytes (n : Nat) : ∀ i, Bytes (fillTo n i)
  | 0 => by rw [fillTo_zero]; exact (bytes_zero _).set _ _ (by decide)
  | i + 1 => by rw [fillTo_succ]; exact (fillTo_bytes n i).set _ _ (Nat.mod_lt _ (by decide))
def fillL (n : Nat) : List Nat := fillTo n 8

end Go.Proofs.YtniogaimhkcedaaDoor.sh
/-
  The digest of all bytes by now; the digest of bytes.
-/
namespace Go.Proofs.YtniogaimhkcedaaDoor.sh
open Go Go.RowKit
set_option linter.unusedVariables false
set_option linter.unusedSimpArgs false

section
variable {P : Program} {h : List Oper} {A0 A : Act} {W0 : World} {S : Nat → Option (Value → World → Prop)} {sp : List Nat} {o : Oper}
theorem rel_calld (hA : Full h A0 A S sp) (hdet : detB h sp o = true) (hsel : notSel o = true) (hg : o.guard = none) (d : Nat) (v : Value) (hd : o.dst = some d) (hds : sp.contains d = false) (hv : A.tmps[d]? = some v) (f : Nat) (fn : Func) (c : Code) (args : List Operand) (ts : Array TypeId) (vs : List Value) (ho : o.op = .call { callee := .value (.func f), args := args.toArray, argTypes := ts })
    (hargs : args.map A.eval = vs) (hf : P.funcs[f]? = some fn) (hname : (fn.name == "runtime.NumGoroutine") = false) (hb : fn.body = some c)
    (hc : ∀ w, Below W0.heap.size W0 w → Calls P f vs.toArray w fun e w' => e = .returned v ∧ Below w.heap.size w w') : RelOk P h A0 W0 (relR A S) o :=
  rel_q hA hdet hsel (want_none hg) d v hd (fun hm => by rw [List.contains_iff_mem.2 hm] at hds; cases hds) hv fun w hw => by
    have h1 : fn.name ≠ "runtime.NumGoroutine" := by simpa using hname
    have ha : args.toArray.map A.eval = vs.toArray := by rw [List.map_toArray, hargs]
    have hrun : (execOp A.eval o).run P w = .ok (.enter f vs.toArray) w := by
      unfold execOp
      simp only [ho, resolve, ha, Act.eval]
      simp [Deferred.ofValue, invoke, callFunc, hf, h1, hb]
    unfold Oper.quietAt
    rw [hrun]
    exact ⟨rfl, hc w hw⟩
theorem rel_rowS (hA : Full h A0 A S sp) (hdet : detB h sp o = true) (hsel : notSel o = true) (hg : o.guard = none) (d : Nat) (v : Value) (hd : o.dst = some d) (hds : sp.contains d = false) (hv : A.tmps[d]? = some v) (ty : TypeId) (x : Operand) (ho : o.op = .load ty x) (g : Nat) (hx : A.eval x = .pointer (some ⟨g, 0, none⟩)) (t : TypeId) (B : Array Value) (fs : Array Field) (hu : P.underlying ty = some (.struct fs)) (hi : (P.info? ty).map (·.size) = some B.size)
    (hb : ∀ w, Below W0.heap.size W0 w → Blk w g t B) (hvB : v = .agg B) : RelOk P h A0 W0 (relR A S) o :=
  rel_q hA hdet hsel (want_none hg) d v hd (fun hm => by rw [List.contains_iff_mem.2 hm] at hds; cases hds) hv fun w hw => by
    unfold Oper.quietAt execOp
    simp only [ho, hx, Instr.loadAt, Instr.sureAddr, Sem.run_bind, Sem.run_pure, Result.andThen_ok, run_loadVar_row w g t ty B (0, 0) _ (hb w hw) hu rfl hi]
    exact ⟨rfl, hvB.symm⟩
end

theorem digA_first (G R : List Nat) (n : Nat) (hG : G.length = 8) : (digA G R n).extract 0 8 = ints .u32 G := by
  apply Array.ext'
  simp [digA, Array.toList_extract]
  rw [List.take_append_of_le_length (by simp [ints, hG]), List.take_of_length_le (by simp [ints, hG])]
def sumD (s : List Nat × List Nat × Nat) : List Nat := bytesL (plusL firstL (feed s (fillL s.2.2)).1)
theorem sumD_len (s : List Nat × List Nat × Nat) : (sumD s).length = 32 := bytesL_len _

def initD : List Nat × List Nat × Nat := (List.replicate 8 0, List.replicate 64 0, 0)
theorem init_good : Good initD := ⟨by simp [initD], fun i x hx => by
  simp only [initD, List.getElem?_replicate] at hx
  split at hx <;> simp at hx
  omega, by simp [initD], bytes_zero 64⟩
theorem init_val : (#[.int .u32 0, .int .u32 0, .int .u32 0, .int .u32 0, .int .u32 0, .int .u32 0, .int .u32 0, .int .u32 0, .int .u8 0, .int .u8 0, .int .u8 0, .int .u8 0, .int .u8 0, .int .u8 0, .int .u8 0, .int .u8 0, .int .u8 0, .int .u8 0, .int .u8 0, .int .u8 0, .int .u8 0, .int .u8 0, .int .u8 0, .int .u8 0, .int .u8 0, .int .u8 0, .int .u8 0, .int .u8 0, .int .u8 0, .int .u8 0, .int .u8 0, .int .u8 0, .int .u8 0, .int .u8 0, .int .u8 0, .int .u8 0, .int .u8 0, .int .u8 0, .int .u8 0, .int .u8 0, .int .u8 0, .int .u8 0, .int .u8 0, .int .u8 0, .int .u8 0, .int .u8 0, .int .u8 0, .int .u8 0, .int .u8 0, .int .u8 0, .int .u8 0, .int .u8 0, .int .u8 0, .int .u8 0, .int .u8 0, .int .u8 0, .int .u8 0, .int .u8 0, .int .u8 0, .int .u8 0, .int .u8 0, .int .u8 0, .int .u8 0, .int .u8 0, .int .u8 0, .int .u8 0, .int .u8 0, .int .u8 0, .int .u8 0, .int .u8 0, .int .u8 0, .int .u8 0, .int .u64 0] : Array Value) = digOf initD := by kernel_rfl
/-- The digest of bytes. -/
def sumL (bs : List Nat) : List Nat := sumD (feed initD bs)
theorem sumL_len (bs : List Nat) : (sumL bs).length = 32 := sumD_len _

end Go.Proofs.YtniogaimhkcedaaDoor.sh
/-
  Regions that draw their order, in which slices are made, appended to in place and handed on: each slot that owns a block owns it alone, until an operation takes it over.
-/
namespace Go.Proofs.YtniogaimhkcedaaDoor.sh
open Go Go.RowKit
set_option linter.unusedVariables false
set_option linter.unusedSimpArgs false

def blkOf : Value → Option Nat
  | .slice (some a) _ _ => some a.block
  | .pointer (some a) => some a.block
  | _ => none

/-- What an operation meets in the slots that it waits for and that no other one takes over. -/
def GotE (h : List Oper) (E : List (Nat × Nat)) (R : Nat → Value → World → Prop) (O : List Nat) (B i : Nat) (a : Act) (w : World) (o : Oper) : Prop :=
  ∀ d, waitsFor h o d = true → (E.all fun q => q.2 != d || q.1 == i) = true → ∃ v, a.tmps[d]? = some v ∧ R d v w ∧ (O.contains d = true → ∀ b, blkOf v = some b → B ≤ b ∧ b < w.heap.size)

/-- What is asked of each operation: what it writes is a block that it takes over, or one that it makes. -/
def OwnOk (P : Program) (h : List Oper) (A0 : Act) (W0 : World) (R : Nat → Value → World → Prop) (O : List Nat) (E : List (Nat × Nat)) (i : Nat) (o : Oper) : Prop := ∃ d, o.dst = some d ∧ ∀ a w, Fr h A0 a → Below W0.heap.size W0 w → GotE h E R O W0.heap.size i a w o →
  Region.wanted o (yielded h.toArray a.tmps) = true ∧ o.wp P a w (fun a' w' => ∃ v row, a' = a.put (some d) v ∧ R d v w' ∧ w.grownBy w' row ∧ (∀ b, row = some b → ∃ s, (i, s) ∈ E ∧ (a.tmps[s]?).bind blkOf = some b) ∧
    (O.contains d = true → ∀ b, blkOf v = some b → (w.heap.size ≤ b ∧ b < w'.heap.size) ∨ ∃ s, (i, s) ∈ E ∧ (a.tmps[s]?).bind blkOf = some b)) (fun _ _ _ => False)
def OwnAll (P : Program) (h : List Oper) (A0 : Act) (W0 : World) (R : Nat → Value → World → Prop) (O : List Nat) (E : List (Nat × Nat)) : Nat → List Oper → Prop
  | _, [] => True
  | i, o :: r => OwnOk P h A0 W0 R O E i o ∧ OwnAll P h A0 W0 R O E (i + 1) r
theorem ownAll_get {P : Program} {h : List Oper} {A0 : Act} {W0 : World} {R : Nat → Value → World → Prop} {O : List Nat} {E : List (Nat × Nat)} : ∀ (r : List Oper) (k : Nat), OwnAll P h A0 W0 R O E k r → ∀ i o, r[i]? = some o → OwnOk P h A0 W0 R O E (k + i) o
  | [], _, _, i, o, ho => by simp at ho
  | x :: r, k, hr, 0, o, ho => by simp at ho; subst ho; exact hr.1
  | x :: r, k, hr, i + 1, o, ho => by
    have := ownAll_get r (k + 1) hr.2 i o (by simpa using ho)
    rwa [show k + 1 + i = k + (i + 1) from by omega] at this

theorem grown_mono {w w' : World} {row : Option Nat} {B : Nat} (h : w.grownBy w' row) (hB : B ≤ w.heap.size) (hr : ∀ b, row = some b → B ≤ b) : Below B w w' := (Below.refl _ _).grown h hB hr
theorem grown_none {w w' : World} (h : Below w.heap.size w w') : w.grownBy w' none := ⟨h.os, h.tape, h.output, h.size, fun k hk _ => h.block k hk⟩

section
variable (h : List Oper) (E : List (Nat × Nat))
def Liv (listed : Array Bool) (d : Nat) : Prop := (∃ (i : Nat) (o : Oper), h[i]? = some o ∧ listed.getD i false = true ∧ o.dst = some d) ∧ ∀ q ∈ E, q.2 = d → listed.getD q.1 false = false
def apartB : List Nat → Bool
  | [] => true
  | x :: r => !r.contains x && apartB r
end
theorem apart_eq : ∀ (E : List (Nat × Nat)), apartB (E.map (·.2)) = true → ∀ q ∈ E, ∀ q' ∈ E, q.2 = q'.2 → q = q'
  | [], _, q, hq, _, _, _ => by cases hq
  | x :: r, h, q, hq, q', hq', he => by
    simp only [List.map_cons, apartB, Bool.and_eq_true, Bool.not_eq_true'] at h
    have hn : ∀ y ∈ r, y.2 ≠ x.2 := fun y hy e => by
      have : (r.map (·.2)).contains x.2 = true := List.contains_iff_mem.2 (List.mem_map.2 ⟨y, hy, e⟩)
      rw [h.1] at this
      cases this
    rcases List.mem_cons.1 hq with h1 | h1 <;> rcases List.mem_cons.1 hq' with h2 | h2
    · rw [h1, h2]
    · exact absurd (by rw [← he, h1]) (hn q' h2)
    · exact absurd (by rw [he, h2]) (hn q h1)
    · exact apart_eq r h.2 q h1 q' h2 he

/-- A region that draws its order: each of the first n operations makes a value of which R holds; owners' blocks are apart; the last operations wait for all of those. -/
theorem region_own {P : Program} {Q : Exit → Act → World → Prop} {id : Nat} {a : Act} {w : World} (W0 : World) (n : Nat) {l : List Oper} (R : Nat → Value → World → Prop) (O : List Nat) (E : List (Nat × Nat)) (ds : List Nat) (hm : P.follows .mixedOrders = true)
    (hE : edgesIn (l.take n) = true) (hG : guardsIn (l.take n) = true) (hA : dstsApart (l.take n) 0 = true) (hI : dstsIn (l.take n) a.tmps.size = true) (hT : tailUnder (l.take n) (l.drop n) = true)
    (hS : Region.seqB .any l.toArray (l.drop n).length (l.take n).length (Array.replicate (l.take n).length true ++ Array.replicate (l.drop n).length false) = true)
    (hEw : (E.all fun q => O.contains q.2 && match (l.take n)[q.1]? with | some o => waitsFor (l.take n) o q.2 | none => false) = true) (hEn : apartB (E.map (·.2)) = true)
    (hds : dstsOf (l.take n) = ds)
    (hst1 : ∀ d v w w', O.contains d = false → R d v w → Below W0.heap.size W0 w → Below W0.heap.size w w' → R d v w')
    (hst2 : ∀ d v w w' row, O.contains d = true → R d v w → w.grownBy w' row → (blkOf v = none ∨ blkOf v ≠ row) → (∀ b, blkOf v = some b → b < w.heap.size) → R d v w') (hw : Below W0.heap.size W0 w)
    (hok : OwnAll P (l.take n) a W0 R O E 0 (l.take n))
    (hfin : ∀ (f : Nat → Value) w', (∀ d ∈ ds, d ∉ E.map (·.2) → R d (f d) w' ∧ (O.contains d = true → ∀ b, blkOf (f d) = some b → W0.heap.size ≤ b ∧ b < w'.heap.size)) →
      (∀ d ∈ ds, ∀ d' ∈ ds, d ∉ E.map (·.2) → d' ∉ E.map (·.2) → O.contains d = true → O.contains d' = true → d ≠ d' → ∀ b, blkOf (f d) = some b → blkOf (f d') ≠ some b) → Below W0.heap.size W0 w' →
      wpList P l.toArray Q (l.drop n) (putR a (ds.map fun d => (d, f d))) w') : (Code.region id l.toArray true).wp P Q a w := by
  have e : l.take n ++ l.drop n = l := List.take_append_drop n l
  refine wp_region_any hm ?_
  generalize hh : l.take n = h at *
  have hEw' : ∀ q ∈ E, O.contains q.2 = true ∧ ∃ o, h[q.1]? = some o ∧ waitsFor h o q.2 = true := fun q hq => by
    have := List.all_eq_true.1 hEw q hq
    simp only [Bool.and_eq_true] at this
    refine ⟨this.1, ?_⟩
    cases ho : h[q.1]? with
    | none => simp [ho] at this
    | some o => exact ⟨o, rfl, by simpa [ho] using this.2⟩
  have main := wpAny_inv (P := P) (l := h) (Q := headPost P (h ++ l.drop n).toArray Q (l.drop n))
    (fun listed a' w' => Fr h a a' ∧ Below W0.heap.size W0 w' ∧ (∀ d, Liv h E listed d → ∃ v, a'.tmps[d]? = some v ∧ R d v w' ∧ (O.contains d = true → ∀ b, blkOf v = some b → W0.heap.size ≤ b ∧ b < w'.heap.size)) ∧
      ∀ d d', Liv h E listed d → Liv h E listed d' → O.contains d = true → O.contains d' = true → d ≠ d' → ∀ b, (a'.tmps[d]?).bind blkOf = some b → (a'.tmps[d']?).bind blkOf ≠ some b) hE
    (by
      intro listed a' w' i o hls hI' ho hun hall
      obtain ⟨hF, hB, hV, hD⟩ := hI'
      have hil : i < listed.size := by rw [hls]; exact (List.getElem?_eq_some_iff.1 ho).1
      have hun' : listed.getD i false = false := by simpa [hil] using hun
      obtain ⟨d, hd, hrun⟩ := by have := ownAll_get h 0 hok i o ho; rwa [Nat.zero_add] at this
      have hson : ∀ k, (listed.setIfInBounds i true).getD k false = if k = i then true else listed.getD k false := fun k => by
        by_cases hk : k = i
        · subst hk; simp [hil]
        · rw [if_neg hk, getD_set_ne false (Ne.symm hk)]
      have hlist : ∀ s, waitsFor h o s = true → ∃ (j : Nat) (o' : Oper), h[j]? = some o' ∧ listed.getD j false = true ∧ o'.dst = some s := fun s hs => by
        obtain ⟨x, hx, h1⟩ := Array.any_eq_true'.1 hs
        simp only [Bool.and_eq_true] at h1
        cases ho' : h[x.on]? with
        | none => simp [ho'] at h1
        | some o' => exact ⟨x.on, o', ho', hall x hx h1.1, by simpa [ho'] using h1.2⟩
      have hgot : GotE h E R O W0.heap.size i a' w' o := fun s hs hq => hV s ⟨hlist s hs, fun q hq' he => by
        have := List.all_eq_true.1 hq q hq'
        simp only [he, bne_self_eq_false, Bool.false_or, beq_iff_eq] at this
        rw [this]
        exact hun'⟩
      have hSe : ∀ s, (i, s) ∈ E → Liv h E listed s ∧ O.contains s = true := fun s hs => by
        obtain ⟨h1, o', h2, h3⟩ := hEw' _ hs
        rw [ho] at h2
        cases h2
        refine ⟨⟨hlist s h3, fun q hq he => ?_⟩, h1⟩
        have := apart_eq E hEn q hq (i, s) hs he
        rw [this]
        exact hun'
      obtain ⟨hwant, hwp⟩ := hrun a' w' hF hB hgot
      refine ⟨hwant, wp_false ?_ hwp⟩
      rintro a2 w2 ⟨v, row, rfl, hR, hg, hrow, hblk⟩
      have hdl : d < a'.tmps.size := by
        have := List.all_eq_true.1 hI o (List.mem_of_getElem? ho)
        rw [hd] at this
        rw [hF.size]
        simpa using this
      have hother : ∀ d', d' ≠ d → (a'.put (some d) v).tmps[d']? = a'.tmps[d']? := fun d' hne => by simp [Act.put, Array.getElem?_setIfInBounds_ne (Ne.symm hne)]
      have hself : (a'.put (some d) v).tmps[d]? = some v := by simp [Act.put, hdl]
      have hrange : ∀ s, (i, s) ∈ E → ∀ b, (a'.tmps[s]?).bind blkOf = some b → W0.heap.size ≤ b ∧ b < w'.heap.size := fun s hs b hb => by
        obtain ⟨h1, h2⟩ := hSe s hs
        obtain ⟨u, e1, _, e3⟩ := hV s h1
        rw [e1] at hb
        exact e3 h2 b hb
      have hBw : Below W0.heap.size w' w2 := grown_mono hg hB.size (fun b hb => by
        obtain ⟨s, hs, hb'⟩ := hrow b hb
        exact (hrange s hs b hb').1)
      have hold : ∀ d', Liv h E (listed.setIfInBounds i true) d' → d' ≠ d → Liv h E listed d' := fun d' hL hne => by
        obtain ⟨⟨j, o', h1, h2, h3⟩, h4⟩ := hL
        refine ⟨⟨j, o', h1, ?_, h3⟩, fun q hq he => ?_⟩
        · rw [hson j] at h2
          split at h2
          · next hji => subst hji; rw [ho] at h1; cases h1; rw [hd] at h3; exact absurd (Option.some.inj h3).symm hne
          · exact h2
        · have := h4 q hq he
          rw [hson q.1] at this
          split at this
          · cases this
          · exact this
      have hne_s : ∀ s d', (i, s) ∈ E → Liv h E (listed.setIfInBounds i true) d' → s ≠ d' := fun s d' hs hL he => by
        have := hL.2 (i, s) hs he
        rw [hson i, if_pos rfl] at this
        cases this
      refine ⟨⟨by rw [size_put]; exact hF.size, hF.defers, fun d' h' => ?_⟩, hB.trans hBw, fun d' hL => ?_, fun d1 d2 hL1 hL2 hO1 hO2 hne b hb1 hb2 => ?_⟩
      · rw [hother d' (fun e2 => h' i o ho (by rw [hd, e2]))]
        exact hF.out d' h'
      · by_cases hdd : d' = d
        · subst hdd
          refine ⟨v, hself, hR, fun hO b hb => ?_⟩
          rcases hblk hO b hb with ⟨h1, h2⟩ | ⟨s, hs, hb'⟩
          · exact ⟨Nat.le_trans hB.size h1, h2⟩
          · have := hrange s hs b hb'
            exact ⟨this.1, Nat.lt_of_lt_of_le this.2 hg.size⟩
        · have hL' := hold d' hL hdd
          obtain ⟨u, e1, e2, e3⟩ := hV d' hL'
          refine ⟨u, by rw [hother d' hdd]; exact e1, ?_, fun hO b hb => ⟨(e3 hO b hb).1, Nat.lt_of_lt_of_le (e3 hO b hb).2 hg.size⟩⟩
          cases hO : O.contains d' with
          | false => exact hst1 d' u w' w2 hO e2 hB hBw
          | true =>
            refine hst2 d' u w' w2 row hO e2 hg ?_ (fun b hb => (e3 hO b hb).2)
            cases hb : blkOf u with
            | none => exact .inl rfl
            | some b =>
              refine .inr fun hr => ?_
              obtain ⟨s, hs, hb'⟩ := hrow b hr.symm
              obtain ⟨h1, h2⟩ := hSe s hs
              exact hD s d' h1 hL' h2 hO (hne_s s d' hs hL) b hb' (by rw [e1]; exact hb)
      · by_cases h1 : d1 = d
        · subst h1
          have h2 : d2 ≠ d1 := Ne.symm hne
          have hL2' := hold d2 hL2 h2
          rw [hother d2 h2] at hb2
          rw [hself] at hb1
          rcases hblk hO1 b hb1 with ⟨h3, _⟩ | ⟨s, hs, hb'⟩
          · obtain ⟨u, e1, _, e3⟩ := hV d2 hL2'
            rw [e1] at hb2
            have := (e3 hO2 b hb2).2
            omega
          · obtain ⟨h4, h5⟩ := hSe s hs
            exact hD s d2 h4 hL2' h5 hO2 (hne_s s d2 hs hL2) b hb' hb2
        · have hL1' := hold d1 hL1 h1
          rw [hother d1 h1] at hb1
          by_cases h2 : d2 = d
          · subst h2
            rw [hself] at hb2
            rcases hblk hO2 b hb2 with ⟨h3, _⟩ | ⟨s, hs, hb'⟩
            · obtain ⟨u, e1, _, e3⟩ := hV d1 hL1'
              rw [e1] at hb1
              have := (e3 hO1 b hb1).2
              omega
            · obtain ⟨h4, h5⟩ := hSe s hs
              exact hD s d1 h4 hL1' h5 hO1 (hne_s s d1 hs hL1) b hb' hb1
          · rw [hother d2 h2] at hb2
            exact hD d1 d2 hL1' (hold d2 hL2 h2) hO1 hO2 hne b hb1 hb2)
    (by
      intro a' w' hI'
      obtain ⟨hF, hB, hV, hD⟩ := hI'
      have hliv : ∀ d ∈ ds, d ∉ E.map (·.2) → Liv h E (Array.replicate h.length true) d := fun d hd hn => by
        rw [← hds] at hd
        obtain ⟨o, ho, hd'⟩ := List.mem_filterMap.1 hd
        obtain ⟨i, hi, he⟩ := List.getElem_of_mem ho
        exact ⟨⟨i, o, by rw [List.getElem?_eq_getElem hi, he], by simp [hi], hd'⟩, fun q hq he => absurd (List.mem_map.2 ⟨q, hq, he⟩) hn⟩
      have hsome : ∀ d ∈ ds, ∃ v, a'.tmps[d]? = some v := fun d hd => by
        rw [← hds] at hd
        obtain ⟨o, ho, hd'⟩ := List.mem_filterMap.1 hd
        have := List.all_eq_true.1 hI o ho
        rw [hd'] at this
        exact ⟨_, Array.getElem?_eq_getElem (by rw [hF.size]; simpa using this)⟩
      have hfr := hfin (fun d => (a'.tmps[d]?).getD undef) w' (fun d hd hn => by obtain ⟨v, h1, h2⟩ := hV d (hliv d hd hn); simp only [h1, Option.getD_some]; exact h2)
        (fun d hd d' hd' hn hn' hO hO' hne b hb hb' => by
          obtain ⟨v, h1, _⟩ := hV d (hliv d hd hn)
          obtain ⟨v', h1', _⟩ := hV d' (hliv d' hd' hn')
          simp only [h1, h1', Option.getD_some] at hb hb'
          exact hD d d' (hliv d hd hn) (hliv d' hd' hn') hO hO' hne b (by rw [h1]; exact hb) (by rw [h1']; exact hb')) hB
      have ea : a' = putR a (ds.map fun d => (d, (a'.tmps[d]?).getD undef)) := by
        refine act_eq (Array.ext_getElem? fun d => ?_) (by rw [putR_defers]; exact hF.defers)
        by_cases hdl : d < a.tmps.size
        · rw [putR_get (fun d => (a'.tmps[d]?).getD undef) d ds a hdl]
          by_cases hd : d ∈ ds
          · rw [if_pos hd]
            obtain ⟨v, h1⟩ := hsome d hd
            simp [h1]
          · rw [if_neg hd]
            refine hF.out d fun i o ho hd' => hd ?_
            rw [← hds]
            exact List.mem_filterMap.2 ⟨o, List.mem_of_getElem? ho, hd'⟩
        · rw [Array.getElem?_eq_none (by rw [hF.size]; omega), Array.getElem?_eq_none (by rw [putR_size]; omega)]
      rw [← ea] at hfr
      show wpList P (h ++ l.drop n).toArray Q (l.drop n) a' w'
      rw [e]
      exact hfr)
    h.length (Array.replicate h.length false) a { w with drawn := w.drawn + 1 } (by simp) (by simp [open_])
    ⟨⟨rfl, rfl, fun _ _ => rfl⟩, hw.drew, fun d hL => by
      exfalso
      obtain ⟨⟨i, o, _, hon, _⟩, _⟩ := hL
      rw [Array.getD_eq_getD_getElem?, Array.getElem?_replicate] at hon
      split at hon <;> simp at hon, fun d d' hL => by
      exfalso
      obtain ⟨⟨i, o, _, hon, _⟩, _⟩ := hL
      rw [Array.getD_eq_getD_getElem?, Array.getElem?_replicate] at hon
      split at hon <;> simp at hon⟩
  have h3 := lift_under (Q := Q) hE hG hT (by rw [e]; exact hS) h.length (Array.replicate h.length false) a _ (by simp) (by simp [open_]) (closed_none _) main
  rw [e] at h3
  have e1 : l.toArray.size = h.length + (l.drop n).length := by rw [← List.length_append, e]; simp
  rw [e1, show Array.replicate (h.length + (l.drop n).length) false = Array.replicate h.length false ++ Array.replicate (l.drop n).length false by simp]
  exact h3
end Go.Proofs.YtniogaimhkcedaaDoor.sh
