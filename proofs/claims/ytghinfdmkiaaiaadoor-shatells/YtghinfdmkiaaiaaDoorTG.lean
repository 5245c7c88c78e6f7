/-
  The reference's primes and roots.
-/
import Derived.Test.YtghinfdmkiaaiaaDoorTF
namespace Go.Proofs.YtghinfdmkiaaiaaDoor.sh
open Go Go.RowKit
set_option linter.unusedVariables false
set_option linter.unusedSimpArgs false


/-- The primes below a number. -/
def found : Nat → List Nat
  | 0 => []
  | p + 1 => if 2 ≤ p ∧ ((found p).all fun q => p % q != 0) = true then found p ++ [p] else found p
theorem found_ge : ∀ (p q : Nat), q ∈ found p → 2 ≤ q ∧ q < p
  | 0, q, h => by simp [found] at h
  | p + 1, q, h => by
    rw [found] at h
    split at h
    · next hc =>
      rcases List.mem_append.1 h with h | h
      · have := found_ge p q h; omega
      · simp at h; omega
    · have := found_ge p q h; omega
theorem found_mono (p : Nat) : (found p).length ≤ (found (p + 1)).length := by
  rw [found]
  split <;> simp
theorem found_le : ∀ (d p : Nat), (found p).length ≤ (found (p + d)).length
  | 0, p => Nat.le_refl _
  | d + 1, p => Nat.le_trans (found_le d p) (found_mono (p + d))
theorem found_two : found 2 = [] := by decide
theorem all_snoc (l : List Nat) (i q : Nat) (f : Nat → Bool) (h : l[i]? = some q) : (l.take (i + 1)).all f = ((l.take i).all f && f q) := by
  rw [List.take_add_one, h, List.all_append]; simp
theorem run_neq0 {o : Oper} {a : Act} {x : Operand} {r : Nat} (ho : o.op = .binOp .neq 30 x (.const (.int .u64 0)) 30) (hx : a.eval x = .int .u64 (r : Int)) (hr : ¬ r = 0) (w : World) : (execOp a.eval o).run Tryd.prog w = .ok (.value (.bool true)) w := by
  have e3 : a.eval (.const (.int .u64 0)) = .int .u64 0 := rfl
  unfold execOp
  simp only [ho, hx, e3]
  simp [go_sem, hr]
set_option maxRecDepth 100000 in
set_option maxHeartbeats 4000000 in
theorem primes_any (n N : Nat) (w : World) (hn : n ≤ 100) (h2 : 2 ≤ N) (hN : N < 65536) (H1 : ∀ p, p < N → (found p).length < n) (H2 : (found N).length = n) :
    Calls Tryd.prog 21 #[.int .i64 (n : Int)] w fun e w' => ∃ v, e = .returned v ∧ Row w.heap.size 30 .u64 (found N) v w' ∧ Below w.heap.size w w' := by
  have K1 : Kept _ := ⟨H1⟩
  have K2 : Kept _ := ⟨H2⟩
  clear H1 H2
  go_enter Tryd.func21, Tryd.ntmps21
  go_wp2_with fail
  go_loopg [3, 4] (N - 2) (fun m s3 s4 wr => ∃ p : Nat, p + m = N ∧ s4 = .int .u64 (p : Int) ∧ Kept (2 ≤ p ∧ Below w.heap.size w wr ∧ Row w.heap.size 30 .u64 (found p) s3 wr))
  case atStart => exact ⟨2, by omega, rfl, ⟨⟨Nat.le_refl _, Below.refl _ _, by rw [found_two]; exact row_nil _ _ _ _⟩⟩⟩
  case round =>
    obtain ⟨p, hp, rfl, KK⟩ := hrel
    obtain ⟨p2, HB, RO⟩ := KK.out
    have KO : Kept _ := ⟨RO⟩
    have KC : Kept _ := ⟨row_cells RO⟩
    obtain ⟨L, hL⟩ : ∃ L, L = found p := ⟨_, rfl⟩
    rw [← hL] at KO KC
    obtain ⟨nn, hnn⟩ : ∃ k, k = L.length := ⟨_, rfl⟩
    obtain ⟨pa, cpa, e3, _, _⟩ := KC.out
    rw [← hnn] at e3
    subst e3
    have EL : Kept _ := ⟨hL⟩
    have EN : Kept _ := ⟨hnn⟩
    clear KK RO hL hnn
    by_cases hk0 : gk = 0
    case pos =>
      obtain rfl : N = p := by omega
      have hA' : ¬ (nn : Int) < (n : Int) := by have := K2.out; have := EN.out; rw [EL.out] at this; omega
      have RF : Kept (Row w.heap.size 30 .u64 (found N) (.slice pa nn cpa) wr) := ⟨by rw [← EL.out]; exact KO.out⟩
      go_wp2_with fail
      go_ret
      exact ⟨_, rfl, RF.out, HB⟩
    have hA' : (nn : Int) < (n : Int) := by have := K1.out p (by omega); have := EN.out; rw [EL.out] at this; omega
    have n100 : nn ≤ 100 := by omega
    have p64 : p < 18446744073709551616 := by omega
    go_wp2_with fail
    rename World => wz
    go_loopg [5, 6] nn (fun m s5 s6 wq => ∃ (i : Nat) (t : Bool), i + m = nn ∧ s5 = .bool t ∧ s6 = .int .i64 (i : Int) ∧ Kept (t = ((L.take i).all fun q => p % q != 0)) ∧ wq = wz)
    case atStart => exact ⟨0, true, by omega, rfl, rfl, ⟨by simp⟩, rfl⟩
    case round =>
      obtain ⟨i, t, hik, rfl, rfl, KT, hwr⟩ := hrel
      obtain rfl := hwr.symm
      have i0 : (0 : Int) ≤ (i : Int) := by omega
      by_cases hi : i < nn
      case pos =>
        have hi' : (i : Int) < (nn : Int) := by omega
        obtain ⟨q, hq⟩ : ∃ q, L[i]? = some q := ⟨_, List.getElem?_eq_getElem (by have := EN.out; omega)⟩
        obtain ⟨Aa, rfl, hba, hca⟩ := KC.out.cell hq
        have hq2 := found_ge p q (by rw [← EL.out]; exact List.mem_of_getElem? hq)
        have q0 : 0 < q := by omega
        have AS : Kept _ := ⟨all_snoc L i q (fun q => p % q != 0) hq⟩
        clear hq hba hq2
        obtain ⟨r, hr⟩ : ∃ r, r = p % q := ⟨_, rfl⟩
        have ER : Kept _ := ⟨hr⟩
        clear hr
        cases t with
        | false =>
          have NT : Kept (false = ((L.take (i + 1)).all fun q => p % q != 0)) := ⟨by rw [AS.out, ← KT.out]; rfl⟩
          go_wp2_with fail
          go_roundg (gk - 1)
          case measure => omega
          case rel => exact ⟨i + 1, false, by omega, rfl, by rfl, NT, rfl⟩
        | true =>
          by_cases hr0 : r = 0
          case pos =>
            have NT : Kept (false = ((L.take (i + 1)).all fun q => p % q != 0)) := ⟨by rw [AS.out, ← KT.out, ← ER.out, hr0]; rfl⟩
            subst hr0
            go_wp2_with (first | ((with_reducible refine wv_elem (d := 25) ?hd ?hw 30 ag_u64 (.tmp 24) ?ho (Aa.add i) ?hx (.int .u64 (q : Int)) ?hg ?_); (case hd => rfl); (case hw => kernel_rfl); (case ho => rfl); (case hx => first | rfl | kernel_rfl); (case hg => exact hca); simp only [Act.put, List.setIfInBounds_toArray, List.set_cons_succ, List.set_cons_zero]) | ((with_reducible refine wv_val (d := 26) ?hd ?hw (.int .u64 ((0 : Nat) : Int)) ?hr ?_); (case hd => rfl); (case hw => kernel_rfl); (case hr => intro w; exact run_rem64 rfl (by kernel_rfl) (by kernel_rfl) q0 p64 ER.out w); simp only [Act.put, List.setIfInBounds_toArray, List.set_cons_succ, List.set_cons_zero]))
            go_roundg (gk - 1)
            case measure => omega
            case rel => exact ⟨i + 1, false, by omega, rfl, by rfl, NT, rfl⟩
          case neg =>
            have NT : Kept (true = ((L.take (i + 1)).all fun q => p % q != 0)) := ⟨by rw [AS.out, ← KT.out, ← ER.out]; simp [hr0]⟩
            go_wp2_with (first | ((with_reducible refine wv_elem (d := 25) ?hd ?hw 30 ag_u64 (.tmp 24) ?ho (Aa.add i) ?hx (.int .u64 (q : Int)) ?hg ?_); (case hd => rfl); (case hw => kernel_rfl); (case ho => rfl); (case hx => first | rfl | kernel_rfl); (case hg => exact hca); simp only [Act.put, List.setIfInBounds_toArray, List.set_cons_succ, List.set_cons_zero]) | ((with_reducible refine wv_val (d := 26) ?hd ?hw (.int .u64 (r : Int)) ?hr ?_); (case hd => rfl); (case hw => kernel_rfl); (case hr => intro w; exact run_rem64 rfl (by kernel_rfl) (by kernel_rfl) q0 p64 ER.out w); simp only [Act.put, List.setIfInBounds_toArray, List.set_cons_succ, List.set_cons_zero]) | ((with_reducible refine wv_val (d := 27) ?hd ?hw (.bool true) ?hr ?_); (case hd => rfl); (case hw => kernel_rfl); (case hr => intro w; exact run_neq0 rfl (by kernel_rfl) hr0 w); simp only [Act.put, List.setIfInBounds_toArray, List.set_cons_succ, List.set_cons_zero]))
            go_roundg (gk - 1)
            case measure => omega
            case rel => exact ⟨i + 1, true, by omega, rfl, by rfl, NT, rfl⟩
      have hi' : ¬ (i : Int) < (nn : Int) := by omega
      have KT2 : Kept (t = (L.all fun q => p % q != 0)) := ⟨by rw [KT.out, List.take_of_length_le (by have := EN.out; omega)]⟩
      cases t with
      | false =>
        have FF : Kept (found (p + 1) = L) := ⟨by rw [found, ← EL.out, ← KT2.out]; simp⟩
        go_wp2_with (first | ((with_reducible refine wv_val (d := 12) ?hd ?hw (.int .u64 ((p + 1 : Nat) : Int)) ?hr ?_); (case hd => rfl); (case hw => kernel_rfl); (case hr => intro w; exact run_add64 (n := 1) rfl (by kernel_rfl) (by kernel_rfl) rfl (by omega) w); simp only [Act.put, List.setIfInBounds_toArray, List.set_cons_succ, List.set_cons_zero]))
        go_roundg (N - p - 1)
        case measure => omega
        case rel => exact ⟨p + 1, by omega, by rfl, ⟨⟨by omega, HB, by rw [FF.out]; exact KO.out⟩⟩⟩
      | true =>
        have FF : Kept (found (p + 1) = L ++ [p]) := ⟨by rw [found, ← EL.out, ← KT2.out]; simp [p2]⟩
        have SN : Kept (L.length + [p].length ≤ 8796093022208) := ⟨by have := EN.out; simp; omega⟩
        go_wp2_with (first | (refine wl_app (by kernel_rfl) (.tmp 30) (.tmp 32) 51 30 .u64 8 rfl Tryd.underlying51 inf_u64 (by decide) (w.heap.size) (L) [p] (.slice pa nn cpa) _ rfl rfl (KO.out.alloc _) (one_ints _ _) SN.out (by simp; have := HB.size; omega) ?_))
        intro v3 w3 R3 G3 _
        have HB3 : Below w.heap.size w w3 := (HB.alloc HB.size _).trans (grown_mono G3 (by simp; have := HB.size; omega) (fun b hb => (KO.out.range b hb).1))
        have R3 : Kept _ := ⟨R3⟩
        clear G3 HB KO KC
        go_wp2_with (first | ((with_reducible refine wv_val (d := 12) ?hd ?hw (.int .u64 ((p + 1 : Nat) : Int)) ?hr ?_); (case hd => rfl); (case hw => kernel_rfl); (case hr => intro w; exact run_add64 (n := 1) rfl (by kernel_rfl) (by kernel_rfl) rfl (by omega) w); simp only [Act.put, List.setIfInBounds_toArray, List.set_cons_succ, List.set_cons_zero]))
        go_roundg (N - p - 1)
        case measure => omega
        case rel => exact ⟨p + 1, by omega, by rfl, ⟨⟨by omega, HB3, by rw [FF.out]; exact R3.out⟩⟩⟩

def rootOf (pw p : Nat) : Nat := rt (p * 4294967296 ^ pw) pw 36 % 4294967296
theorem one32 {e : TypeId} (w : World) (x : Nat) : IntsV .u32 (.slice (some ⟨w.heap.size, 0, none⟩) 1 1) (w.alloc (.cells #[.int .u32 (x : Int)] e)) [x] := one_ints w x
theorem map_snoc (L : List Nat) (f : Nat → Nat) (i q : Nat) (h : L[i]? = some q) : (L.take (i + 1)).map f = (L.take i).map f ++ [f q] := by rw [List.take_add_one, h]; simp
set_option maxRecDepth 100000 in
set_option maxHeartbeats 4000000 in
theorem roots_any (n N pw : Nat) (w : World) (hn : n ≤ 100) (h2 : 2 ≤ N) (hN : N < 65536) (H1 : ∀ p, p < N → (found p).length < n) (H2 : (found N).length = n) (hp1 : 1 ≤ pw) (hp3 : pw ≤ 3) :
    Calls Tryd.prog 13 #[.int .i64 (n : Int), .int .i64 (pw : Int)] w fun e w' => ∃ v, e = .returned v ∧ Row w.heap.size 26 .u32 ((found N).map (rootOf pw)) v w' ∧ Below w.heap.size w w' := by
  have K1 : Kept _ := ⟨H1⟩
  have K2 : Kept _ := ⟨H2⟩
  have KL : Kept (∀ q ∈ found N, q < 65536) := ⟨fun q hq => by have := found_ge N q hq; omega⟩
  clear H1 H2
  obtain ⟨L, hL⟩ : ∃ L, L = found N := ⟨_, rfl⟩
  have EL : Kept _ := ⟨hL⟩
  rw [← hL]
  clear hL
  go_enter Tryd.func13, Tryd.ntmps13
  go_wp2_with fail
  refine (primes_any n N w hn h2 hN K1.out K2.out).mono ?_
  rintro e w1 ⟨vp, rfl, RP, hb1⟩
  have KP : Kept _ := ⟨row_cells RP⟩
  obtain ⟨pa, cpa, e3, _, _⟩ := KP.out
  rw [K2.out] at e3
  subst e3
  clear RP
  rw [← EL.out] at KP KL K2
  clear EL K1
  go_wp2_with fail
  go_loopg [5, 7] n (fun m s5 s7 wr => ∃ i : Nat, i + m = n ∧ s7 = .int .i64 (i : Int) ∧ Kept (Below w1.heap.size w1 wr ∧ Row w1.heap.size 26 .u32 ((L.take i).map (rootOf pw)) s5 wr))
  case atStart => exact ⟨0, by omega, rfl, ⟨⟨Below.refl _ _, row_nil _ _ _ _⟩⟩⟩
  case round =>
    obtain ⟨i, hik, rfl, KK⟩ := hrel
    obtain ⟨HB, RO⟩ := KK.out
    have KO : Kept _ := ⟨RO⟩
    clear KK RO
    have i0 : (0 : Int) ≤ (i : Int) := by omega
    by_cases hi : i < n
    case pos =>
      have hi' : (i : Int) < (n : Int) := by omega
      obtain ⟨q, hq⟩ : ∃ q, L[i]? = some q := ⟨_, List.getElem?_eq_getElem (by have := K2.out; omega)⟩
      obtain ⟨Aa, rfl, hba, hca⟩ := (KP.out.under HB).cell hq
      have q16 : q < 65536 := KL.out q (List.mem_of_getElem? hq)
      have MS : Kept _ := ⟨map_snoc L (rootOf pw) i q hq⟩
      clear hq hba
      go_wp2_with (first | ((with_reducible refine wv_elem (d := 19) ?hd ?hw 30 ag_u64 (.tmp 18) ?ho (Aa.add i) ?hx (.int .u64 (q : Int)) ?hg ?_); (case hd => rfl); (case hw => kernel_rfl); (case ho => rfl); (case hx => first | rfl | kernel_rfl); (case hg => exact hca); simp only [Act.put, List.setIfInBounds_toArray, List.set_cons_succ, List.set_cons_zero]))
      refine (root_any q pw wr q16 hp1 hp3).mono ?_
      rintro e w2 ⟨rfl, hb2⟩
      obtain ⟨z, hz⟩ : ∃ z, z = rootOf pw q := ⟨_, rfl⟩
      rw [← show rootOf pw q = rt (q * 4294967296 ^ pw) pw 36 % 4294967296 from rfl, ← hz]
      have HB2 := HB.trans (hb2.mono HB.size)
      have R2 : Kept _ := ⟨KO.out.under hb2⟩
      have SN : Kept (((L.take i).map (rootOf pw)).length + [z].length ≤ 8796093022208) := ⟨by simp; omega⟩
      have sw : w1.heap.size ≤ w2.heap.size := HB2.size
      have MZ : Kept _ := ⟨hz⟩
      clear HB KO hb2 hz hca
      go_wp2_with (first | (refine wl_app (by kernel_rfl) (.tmp 15) (.tmp 22) 43 26 .u32 4 rfl Tryd.underlying43 inf_u32 (by decide) w1.heap.size ((L.take i).map (rootOf pw)) [z] u5 _ rfl rfl (R2.out.alloc _) (one32 _ _) SN.out (by simp; omega) ?_))
      intro v5 w3 R3 G3 _
      have HB3 : Below w1.heap.size w1 w3 := (HB2.alloc HB2.size _).trans (grown_mono G3 (by simp; omega) (fun b hb => (R2.out.range b hb).1))
      have R3 : Kept _ := ⟨R3⟩
      go_wp2_with fail
      go_roundg (gk - 1)
      case measure => omega
      case rel => exact ⟨i + 1, by omega, by rfl, ⟨⟨HB3, by rw [MS.out, ← MZ.out, List.map_take]; exact R3.out⟩⟩⟩
    have hi' : ¬ (i : Int) < (n : Int) := by omega
    have RF : Kept (Row w.heap.size 26 .u32 (L.map (rootOf pw)) u5 wr) := ⟨by have := KO.out.mono hb1.size; rw [List.take_of_length_le (by have := K2.out; omega)] at this; exact this⟩
    go_wp2_with fail
    go_ret
    exact ⟨_, rfl, RF.out, hb1.trans (HB.mono hb1.size)⟩
end Go.Proofs.YtghinfdmkiaaiaaDoor.sh
