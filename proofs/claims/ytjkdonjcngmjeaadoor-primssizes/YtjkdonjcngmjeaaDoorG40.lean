/-
  General pieces, joined: NJ.
-/
import Derived.Test.YtjkdonjcngmjeaaDoorG33
import Derived.HandedShaped
import Derived.Handed
/-
  What the world's shape says of limb.prime: it holds some number of four parts. A row's wrap that hands on both the listed variables and the world's shape.
-/
namespace Go.Proofs.YtjkdonjcngmjeaaDoor.sh
open Go Go.RowKit
set_option linter.unusedVariables false
set_option linter.unusedSimpArgs false

set_option maxRecDepth 100000 in
theorem prime_open {w : World} (h : w.ShapedOpen Tryd.prog) : ∃ pA pB pC pD, PrimeP pA pB pC pD w := by
  obtain ⟨cs, hh, hs, hr⟩ := h.1 2 #[.int .u64 0, .int .u64 0, .int .u64 0, .int .u64 0] 144 (by decide +kernel) (by kernel_rfl)
  obtain ⟨ts, hts, _, hall⟩ := hr (by kernel_rfl)
  have e4 : Tryd.prog.cellTypes Tryd.prog.depth 144 = some [49, 49, 49, 49] := by kernel_rfl
  rw [e4] at hts
  cases hts
  have hs4 : cs.size = 4 := hs
  have key : ∀ i, i < 4 → ∃ m : Nat, m < 18446744073709551616 ∧ w.cell? ⟨2, i, none⟩ = some (.int .u64 (m : Int)) := by
    intro i hi
    have h1 : i < cs.size := by omega
    obtain ⟨u, hu, hok⟩ := hall i cs[i] (by simp [h1])
    have e : u = 49 := by
      have h5 : i = 0 ∨ i = 1 ∨ i = 2 ∨ i = 3 := by omega
      rcases h5 with rfl | rfl | rfl | rfl <;> simpa using hu.symm
    subst e
    have hcell : w.cell? ⟨2, i, none⟩ = some cs[i] := by simp [World.cell?, hh, h1]
    rw [hcell]
    unfold Cell.ok at hok
    rw [Tryd.underlying49] at hok
    cases hv : cs[i] <;> rw [hv] at hok <;> simp at hok
    case int k' n =>
      obtain ⟨rfl, hk⟩ := hok
      have hk2 : 0 ≤ n ∧ n < 18446744073709551616 := by
        have e1 : IntKind.u64.min = 0 := by kernel_rfl
        have e2 : IntKind.u64.max = 18446744073709551615 := by kernel_rfl
        unfold IntKind.has at hk
        rw [e1, e2] at hk
        omega
      exact ⟨n.toNat, by omega, by rw [Int.toNat_of_nonneg hk2.1]⟩
  obtain ⟨a, la, ha⟩ := key 0 (by omega)
  obtain ⟨b, lb, hb⟩ := key 1 (by omega)
  obtain ⟨c, lc, hc⟩ := key 2 (by omega)
  obtain ⟨d, ld, hd⟩ := key 3 (by omega)
  exact ⟨a, b, c, d, ⟨la, lb, lc, ld⟩, ha, hb, hc, hd⟩

theorem wrapS {H : Type} {enc : TypeId × Value → H} {a : Assume} {C : Checked} {os : Os} {f : FuncId} {fn : Func} {s : ChangeSpec} {conds : List PathCond} {apart fresh handsOn again : Bool} {X : World → Array Value → Prop}
    (hX : ∀ (w w' : World) (args : Array Value), w.heap = w'.heap → X w args → X w' args)
    (own : ownKnob C.prog.godebug = none) (started : os.Started) (noInit : C.prog.inits.idxOf? f = none) (hfn : C.prog.funcs[f]? = some fn)
    (witness : ∃ (w : World) (tape : Tape) (i : Input), w.os = os ∧ (w.forCall tape i).Shaped C.prog ∧ i.vars = [] ∧ Input.okWide C.prog (w.forCall tape i) .any w.heap.size f i ∧
      ((s.pre enc C.prog fn conds apart (w.forCall tape i).memory i.args ∧ X (w.forCall tape i).memory i.args) ∧ sizedMet enc C.prog fn (OpenSpec.ofChange s) apart (w.forCall tape i).memory i.args) ∧ a.holds C.prog (lone (Frame.enter C.prog f i.args .normal) [] (w.forCall tape i)))
    (con : ∀ (W : World) (base : Nat) (args : Array Value) (ds gs : List (DataW H)) (before : List MemPlace),
      (∀ (j : Nat) t v, fn.params[j]? = some t → args[j]? = some v → Value.okWide C.prog W .any base t v) →
      DataW.Whole enc C.prog fn.params.toList s.vars apart W args.toList ds gs before → X W args → W.ShapedOpen C.prog →
      Calls C.prog f args W fun e W' => ∃ v, e = .returned v ∧ s.post enc C.prog fn apart fresh handsOn again W args v W') :
    ReturnsInHanded a C os f .any (fun w args => (s.pre enc C.prog fn conds apart w args ∧ X w args) ∧ sizedMet enc C.prog fn (OpenSpec.ofChange s) apart w args) (s.post enc C.prog fn apart fresh handsOn again) := by
  refine returnsInHanded_of_calls own started noInit witness fun w tape i h1 hsh h3 hok hpre hh => ?_
  obtain ⟨-, -, -, g, hg, -, -, -, -, hval⟩ := hok
  obtain rfl : g = fn := Option.some.inj (hg.symm.trans hfn)
  obtain ⟨⟨⟨ds, gs, before, hw, hc⟩, hx⟩, hz⟩ := hpre
  have h4 := DataW.Whole.of_heap (w' := w.forCall tape i) (by rfl) hw
  refine (con _ w.heap.size i.args ds gs before hval h4 (hX _ _ _ (by rfl) hx) hsh).mono fun e W' h5 => ?_
  obtain ⟨v, rfl, h6⟩ := h5
  exact ChangeSpec.post_blind h6
end Go.Proofs.YtjkdonjcngmjeaaDoor.sh
