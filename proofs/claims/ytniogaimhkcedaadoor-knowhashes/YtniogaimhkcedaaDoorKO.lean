/-
  (*rules).addDh, (*rules).addSealed.
-/
import Derived.Test.YtniogaimhkcedaaDoorKM
namespace Go.Proofs.YtniogaimhkcedaaDoor.sh
open Go Go.RowKit Go.Maps
set_option linter.unusedVariables false
set_option linter.unusedSimpArgs false

/-- Rules that are being built beside the maps of places: of names, of public keys. -/
structure Reg (ts : List TermL) (rb B mb pb k : Nat) (Φ : (Nat → Prop) → Prop) (M0 : Nat → Prop) (w0 : World) (M : Nat → Prop) (w : World) : Prop where
  ru : RuB rb B ts.length k Φ M w
  pl : MapI (plcR ts.length) mb ts.length w
  pu : MapI (pubR ts ts.length) pb ts.length w
  nm : ¬ M mb
  np : ¬ M pb
  tu : Turn M0 w0 M w
section
variable {ts : List TermL} {rb B mb pb k : Nat} {Φ : (Nat → Prop) → Prop} {M0 M : Nat → Prop} {w0 w w' : World}
theorem Reg.under (h : Reg ts rb B mb pb k Φ M0 w0 M w) (hb : Below w.heap.size w w') : Reg ts rb B mb pb k Φ M0 w0 M w' := ⟨h.ru.under hb, h.pl.under hb, h.pu.under hb, h.nm, h.np, h.tu.trans (Turn.of_below hb)⟩
theorem Reg.mono {k' : Nat} {Ψ : (Nat → Prop) → Prop} (h : Reg ts rb B mb pb k Φ M0 w0 M w) (hk : k ≤ k') (hp : ∀ H, Φ H ↔ Ψ H) : Reg ts rb B mb pb k' Ψ M0 w0 M w := ⟨h.ru.mono hk hp, h.pl, h.pu, h.nm, h.np, h.tu⟩
/-- add, of a new row, and of new ints. -/
theorem Reg.addG (h : Reg ts rb B mb pb k Φ M0 w0 M w) (hts : ts.length < 1000000) (hk : k ≤ 900000) (q : Below w.heap.size w w') {V1 V2 : Value} {nl gl : List Nat} (h1 : IntsV .i64 V1 w' nl) (h2 : IntsV .i64 V2 w' gl) (hb1 : ∀ b, blkOf V1 = some b → w.heap.size ≤ b ∧ b < w'.heap.size) (hb2 : ∀ b, blkOf V2 = some b → w.heap.size ≤ b ∧ b < w'.heap.size) (hn : ∀ x ∈ nl, x < ts.length) (hg : ∀ y ∈ gl, y < ts.length) (hnl : nl.length ≤ 1000000) (hgl : gl.length ≤ 1000000) :
    Calls Tryd.prog 52 #[.pointer (some ⟨rb, 0, none⟩), V1, V2] w' fun e w2 => e = .returned (.tuple #[]) ∧ ∃ M', Reg ts rb B mb pb (k + 1) (fun H => Φ H ∧ ((∀ x ∈ nl, H x) → ∀ y ∈ gl, H y)) M0 w0 M' w2 := by
  refine (addB h.ru q (by omega) hk h1 h2 hb1 hb2 hn hg hnl hgl).mono ?_
  rintro e w2 ⟨rfl, M', h3, h4⟩
  exact ⟨rfl, M', h3, h.pl.turn h4 h.nm, h.pu.turn h4 h.np, h4.not h.nm h.pl.lt, h4.not h.np h.pu.lt, h.tu.trans h4⟩
/-- add, of a new row, and of one place. -/
theorem Reg.addW (h : Reg ts rb B mb pb k Φ M0 w0 M w) (hts : ts.length < 1000000) (hk : k ≤ 900000) {w1 w2 : World} (q1 : Below w.heap.size w w1) (q2 : Below w1.heap.size w1 w2) {V : Value} {ns : List Nat} {i : Nat} (hr : Row w1.heap.size 3 .i64 ns V w2) (hn : ∀ x ∈ ns, x < ts.length) (hi : i < ts.length) (hl : ns.length ≤ 1000000) :
    Calls Tryd.prog 52 #[.pointer (some ⟨rb, 0, none⟩), V, .slice (some ⟨w2.heap.size, 0, none⟩) 1 1] (w2.alloc (.cells #[.int .i64 (i : Int)] 3)) fun e w3 => e = .returned (.tuple #[]) ∧ ∃ M', Reg ts rb B mb pb (k + 1) (fun H => Φ H ∧ ((∀ x ∈ ns, H x) → H i)) M0 w0 M' w3 := by
  have b2 := (Below.refl w2.heap.size w2).alloc (Nat.le_refl _) (.cells #[.int .i64 (i : Int)] 3)
  have hs : (w2.alloc (.cells #[.int .i64 (i : Int)] 3)).heap.size = w2.heap.size + 1 := alloc_size _ _
  have h12 := q1.trans (q2.mono q1.size)
  refine (h.addG hts hk (h12.trans (b2.mono h12.size)) ((row_cells hr).under b2) (one_int i w2) (fun b hb => ?_) (fun b hb => ?_) hn (gl := [i]) (fun y hy => by rw [List.mem_singleton] at hy; rw [hy]; exact hi) hl (by simp)).mono ?_
  · have h3 := hr.range b hb
    have := q1.size
    omega
  · cases hb
    exact ⟨h12.size, by rw [hs]; exact Nat.lt_succ_self _⟩
  · rintro e w3 ⟨rfl, M', h3⟩
    exact ⟨rfl, M', h3.mono (Nat.le_refl _) fun H => by simp⟩
/-- What within makes, as it is asked of its list. -/
theorem with_known {ll : List (List Nat)} {ns : List Nat} (h : ∀ n, n ∈ ns ↔ TodoL ts ll n) (H : Nat → Prop) : (∀ x ∈ ns, H x) ↔ ∀ l ∈ ll, KnownS ts H l := todo_known h H
end
theorem weight_one {x : List Nat} (h : x.length ≤ 40000) : weight [x] ≤ 1000000 := by rw [weight_cons, weight_nil]; omega
theorem weight_two {x y : List Nat} (h : x.length ≤ 40000) (h2 : y.length ≤ 40000) : weight [x, y] ≤ 1000000 := by rw [weight_cons, weight_cons, weight_nil]; omega
theorem weight_three {x y z : List Nat} (h : x.length ≤ 40000) (h2 : y.length ≤ 40000) (h3 : z.length ≤ 40000) : weight [x, y, z] ≤ 1000000 := by rw [weight_cons, weight_cons, weight_cons, weight_nil]; omega
/-- An append of one int onto a row that within made. -/
theorem app_row {w1 w2 w3 : World} {ns : List Nat} {V : Value} {j : Nat} (q2 : Below w1.heap.size w1 w2) (hr : Row w1.heap.size 3 .i64 ns V w2) (hg : (w2.alloc (.cells #[.int .i64 (j : Int)] 3)).grownBy w3 (blkOf V)) : Below w1.heap.size w1 w3 :=
  (q2.trans (((Below.refl w2.heap.size w2).alloc (Nat.le_refl _) _).mono q2.size)).trans (grown_mono hg (by rw [alloc_size]; have := q2.size; omega) (fun b hb => (hr.range b hb).1))
/-- Who has the one secret, and the public key of the other one. -/
theorem dh_rule {ts : List TermL} (hT : Terms ts) {H : Nat → Prop} {x y : List Nat} {i : Nat} : (MakesK ts H (3, [x, y]) → H i) ↔ (KnownS ts H x ∧ KnownS ts H y → H i) ∧ (∀ j, (pubR ts ts.length).lookup y = some j → KnownS ts H x ∧ H j → H i) ∧ ∀ j, (pubR ts ts.length).lookup x = some j → KnownS ts H y ∧ H j → H i := by
  rw [makes_dh]
  constructor
  · intro h
    exact ⟨fun h2 => h (.inl ⟨h2.1, .inr h2.2⟩), fun j hj h2 => h (.inl ⟨h2.1, (pubK_some hT hj).2 (.inl h2.2)⟩), fun j hj h2 => h (.inr ⟨h2.1, (pubK_some hT hj).2 (.inl h2.2)⟩)⟩
  · rintro ⟨h1, h2, h3⟩ (⟨h4, h5⟩ | ⟨h4, h5⟩)
    · cases hl : (pubR ts ts.length).lookup y with
      | none => exact h1 ⟨h4, (pubK_none hl).1 h5⟩
      | some j =>
        rcases (pubK_some hT hl).1 h5 with h5 | h5
        · exact h2 j hl ⟨h4, h5⟩
        · exact h1 ⟨h4, h5⟩
    · cases hl : (pubR ts ts.length).lookup x with
      | none => exact h1 ⟨(pubK_none hl).1 h5, h4⟩
      | some j =>
        rcases (pubK_some hT hl).1 h5 with h5 | h5
        · exact h3 j hl ⟨h4, h5⟩
        · exact h1 ⟨h5, h4⟩
end Go.Proofs.YtniogaimhkcedaaDoor.sh
