/-
  Joined texts: TG TH TI.
-/
import Derived.Test.YthnkipicehppmaaDoorRefB
/-
  The reference's primes and roots.
-/
namespace Go.Proofs.YthnkipicehppmaaDoor.sh
open Go Go.RowKit
set_option linter.unusedVariables false
set_option linter.unusedSimpArgs false


/-- The primes below a number. -/
def found : Nat → List Nat
  | 0 => []
  | p + 1 => if 2 ≤ p ∧ ((found p).all fun q => p % q != 0) = true then found p ++ [p] else found p
theorem found_ge : ∀ (p q : Nat), q ∈ found p → 2 ≤ q ∧ q < p
  | 0, q, h => by simp [found] at h
  | p + 1, q, h => by
    rw [found] at h
    split at h
    · next hc =>
      rcases List.mem_append.1 h with h | h
      · have := found_ge p q h; omega
      · simp at h; omega
    · have := found_ge p q h; omega
theorem found_mono (p : Nat) : (found p).length ≤ (found (p + 1)).length := by
  rw [found]
  split <;> simp
theorem found_le : ∀ (d p : Nat), (found p).length ≤ (found (p + d)).length
  | 0, p => Nat.le_refl _
  | d + 1, p => Nat.le_trans (found_le d p) (found_mono (p + d))
theorem found_two : found 2 = [] := by decide
theorem all_snoc (l : List Nat) (i q : Nat) (f : Nat → Bool) (h : l[i]? = some q) : (l.take (i + 1)).all f = ((l.take i).all f && f q) := by
  rw [List.take_add_one, h, List.all_append]; simp
theorem run_neq0 {o : Oper} {a : Act} {x : Operand} {r : Nat} (ho : o.op = .binOp .neq 51 x (.const (.int .u64 0)) 51) (hx : a.eval x = .int .u64 (r : Int)) (hr : ¬ r = 0) (w : World) : (execOp a.eval o).run Tryd.prog w = .ok (.value (.bool true)) w := by
  have e3 : a.eval (.const (.int .u64 0)) = .int .u64 0 := rfl
  unfold execOp
  simp only [ho, hx, e3]
  simp [go_sem, hr]
set_option maxRecDepth 100000 in
set_option maxHeartbeats 4000000 in
theorem primes_any (n N : Nat) (w : World) (hn : n ≤ 100) (h2 : 2 ≤ N) (hN : N < 65536) (H1 : ∀ p, p < N → (found p).length < n) (H2 : (found N).length = n) :
    Calls Tryd.prog 40 #[.int .i64 (n : Int)] w fun e w' => ∃ v, e = .returned v ∧ Row w.heap.size 51 .u64 (found N) v w' ∧ Below w.heap.size w w' := by
  have K1 : Kept _ := ⟨H1⟩
  have K2 : Kept _ := ⟨H2⟩
  clear H1 H2
  go_enter Tryd.func40, Tryd.ntmps40
  go_wp2_with fail
  go_loopg [3, 4] (N - 2) (fun m s3 s4 wr => ∃ p : Nat, p + m = N ∧ s4 = .int .u64 (p : Int) ∧ Kept (2 ≤ p ∧ Below w.heap.size w wr ∧ Row w.heap.size 51 .u64 (found p) s3 wr))
  case atStart => exact ⟨2, by omega, rfl, ⟨⟨Nat.le_refl _, Below.refl _ _, by rw [found_two]; exact row_nil _ _ _ _⟩⟩⟩
  case round =>
    obtain ⟨p, hp, rfl, KK⟩ := hrel
    obtain ⟨p2, HB, RO⟩ := KK.out
    have KO : Kept _ := ⟨RO⟩
    have KC : Kept _ := ⟨row_cells RO⟩
    obtain ⟨L, hL⟩ : ∃ L, L = found p := ⟨_, rfl⟩
    rw [← hL] at KO KC
    obtain ⟨nn, hnn⟩ : ∃ k, k = L.length := ⟨_, rfl⟩
    obtain ⟨pa, cpa, e3, _, _⟩ := KC.out
    rw [← hnn] at e3
    subst e3
    have EL : Kept _ := ⟨hL⟩
    have EN : Kept _ := ⟨hnn⟩
    clear KK RO hL hnn
    by_cases hk0 : gk = 0
    case pos =>
      obtain rfl : N = p := by omega
      have hA' : ¬ (nn : Int) < (n : Int) := by have := K2.out; have := EN.out; rw [EL.out] at this; omega
      have RF : Kept (Row w.heap.size 51 .u64 (found N) (.slice pa nn cpa) wr) := ⟨by rw [← EL.out]; exact KO.out⟩
      go_wp2_with fail
      go_ret
      exact ⟨_, rfl, RF.out, HB⟩
    have hA' : (nn : Int) < (n : Int) := by have := K1.out p (by omega); have := EN.out; rw [EL.out] at this; omega
    have n100 : nn ≤ 100 := by omega
    have p64 : p < 18446744073709551616 := by omega
    go_wp2_with fail
    rename World => wz
    go_loopg [5, 6] nn (fun m s5 s6 wq => ∃ (i : Nat) (t : Bool), i + m = nn ∧ s5 = .bool t ∧ s6 = .int .i64 (i : Int) ∧ Kept (t = ((L.take i).all fun q => p % q != 0)) ∧ wq = wz)
    case atStart => exact ⟨0, true, by omega, rfl, rfl, ⟨by simp⟩, rfl⟩
    case round =>
      obtain ⟨i, t, hik, rfl, rfl, KT, hwr⟩ := hrel
      obtain rfl := hwr.symm
      have i0 : (0 : Int) ≤ (i : Int) := by omega
      by_cases hi : i < nn
      case pos =>
        have hi' : (i : Int) < (nn : Int) := by omega
        obtain ⟨q, hq⟩ : ∃ q, L[i]? = some q := ⟨_, List.getElem?_eq_getElem (by have := EN.out; omega)⟩
        obtain ⟨Aa, rfl, hba, hca⟩ := KC.out.cell hq
        have hq2 := found_ge p q (by rw [← EL.out]; exact List.mem_of_getElem? hq)
        have q0 : 0 < q := by omega
        have AS : Kept _ := ⟨all_snoc L i q (fun q => p % q != 0) hq⟩
        clear hq hba hq2
        obtain ⟨r, hr⟩ : ∃ r, r = p % q := ⟨_, rfl⟩
        have ER : Kept _ := ⟨hr⟩
        clear hr
        cases t with
        | false =>
          have NT : Kept (false = ((L.take (i + 1)).all fun q => p % q != 0)) := ⟨by rw [AS.out, ← KT.out]; rfl⟩
          go_wp2_with fail
          go_roundg (gk - 1)
          case measure => omega
          case rel => exact ⟨i + 1, false, by omega, rfl, by rfl, NT, rfl⟩
        | true =>
          by_cases hr0 : r = 0
          case pos =>
            have NT : Kept (false = ((L.take (i + 1)).all fun q => p % q != 0)) := ⟨by rw [AS.out, ← KT.out, ← ER.out, hr0]; rfl⟩
            subst hr0
            go_wp2_with (first | ((with_reducible refine wv_elem (d := 25) ?hd ?hw 51 ag_u64 (.tmp 24) ?ho (Aa.add i) ?hx (.int .u64 (q : Int)) ?hg ?_); (case hd => rfl); (case hw => kernel_rfl); (case ho => rfl); (case hx => first | rfl | kernel_rfl); (case hg => exact hca); simp only [Act.put, List.setIfInBounds_toArray, List.set_cons_succ, List.set_cons_zero]) | ((with_reducible refine wv_val (d := 26) ?hd ?hw (.int .u64 ((0 : Nat) : Int)) ?hr ?_); (case hd => rfl); (case hw => kernel_rfl); (case hr => intro w; exact run_rem64 rfl (by kernel_rfl) (by kernel_rfl) q0 p64 ER.out w); simp only [Act.put, List.setIfInBounds_toArray, List.set_cons_succ, List.set_cons_zero]))
            go_roundg (gk - 1)
            case measure => omega
            case rel => exact ⟨i + 1, false, by omega, rfl, by rfl, NT, rfl⟩
          case neg =>
            have NT : Kept (true = ((L.take (i + 1)).all fun q => p % q != 0)) := ⟨by rw [AS.out, ← KT.out, ← ER.out]; simp [hr0]⟩
            go_wp2_with (first | ((with_reducible refine wv_elem (d := 25) ?hd ?hw 51 ag_u64 (.tmp 24) ?ho (Aa.add i) ?hx (.int .u64 (q : Int)) ?hg ?_); (case hd => rfl); (case hw => kernel_rfl); (case ho => rfl); (case hx => first | rfl | kernel_rfl); (case hg => exact hca); simp only [Act.put, List.setIfInBounds_toArray, List.set_cons_succ, List.set_cons_zero]) | ((with_reducible refine wv_val (d := 26) ?hd ?hw (.int .u64 (r : Int)) ?hr ?_); (case hd => rfl); (case hw => kernel_rfl); (case hr => intro w; exact run_rem64 rfl (by kernel_rfl) (by kernel_rfl) q0 p64 ER.out w); simp only [Act.put, List.setIfInBounds_toArray, List.set_cons_succ, List.set_cons_zero]) | ((with_reducible refine wv_val (d := 27) ?hd ?hw (.bool true) ?hr ?_); (case hd => rfl); (case hw => kernel_rfl); (case hr => intro w; exact run_neq0 rfl (by kernel_rfl) hr0 w); simp only [Act.put, List.setIfInBounds_toArray, List.set_cons_succ, List.set_cons_zero]))
            go_roundg (gk - 1)
            case measure => omega
            case rel => exact ⟨i + 1, true, by omega, rfl, by rfl, NT, rfl⟩
      have hi' : ¬ (i : Int) < (nn : Int) := by omega
      have KT2 : Kept (t = (L.all fun q => p % q != 0)) := ⟨by rw [KT.out, List.take_of_length_le (by have := EN.out; omega)]⟩
      cases t with
      | false =>
        have FF : Kept (found (p + 1) = L) := ⟨by rw [found, ← EL.out, ← KT2.out]; simp⟩
        go_wp2_with (first | ((with_reducible refine wv_val (d := 12) ?hd ?hw (.int .u64 ((p + 1 : Nat) : Int)) ?hr ?_); (case hd => rfl); (case hw => kernel_rfl); (case hr => intro w; exact run_add64 (n := 1) rfl (by kernel_rfl) (by kernel_rfl) rfl (by omega) w); simp only [Act.put, List.setIfInBounds_toArray, List.set_cons_succ, List.set_cons_zero]))
        go_roundg (N - p - 1)
        case measure => omega
        case rel => exact ⟨p + 1, by omega, by rfl, ⟨⟨by omega, HB, by rw [FF.out]; exact KO.out⟩⟩⟩
      | true =>
        have FF : Kept (found (p + 1) = L ++ [p]) := ⟨by rw [found, ← EL.out, ← KT2.out]; simp [p2]⟩
        have SN : Kept (L.length + [p].length ≤ 8796093022208) := ⟨by have := EN.out; simp; omega⟩
        go_wp2_with (first | (refine wl_app (by kernel_rfl) (.tmp 30) (.tmp 32) 76 51 .u64 8 rfl Tryd.underlying76 inf_u64 (by decide) (w.heap.size) (L) [p] (.slice pa nn cpa) _ rfl rfl (KO.out.alloc _) (one_ints _ _) SN.out (by simp; have := HB.size; omega) ?_))
        intro v3 w3 R3 G3 _
        have HB3 : Below w.heap.size w w3 := (HB.alloc HB.size _).trans (grown_mono G3 (by simp; have := HB.size; omega) (fun b hb => (KO.out.range b hb).1))
        have R3 : Kept _ := ⟨R3⟩
        clear G3 HB KO KC
        go_wp2_with (first | ((with_reducible refine wv_val (d := 12) ?hd ?hw (.int .u64 ((p + 1 : Nat) : Int)) ?hr ?_); (case hd => rfl); (case hw => kernel_rfl); (case hr => intro w; exact run_add64 (n := 1) rfl (by kernel_rfl) (by kernel_rfl) rfl (by omega) w); simp only [Act.put, List.setIfInBounds_toArray, List.set_cons_succ, List.set_cons_zero]))
        go_roundg (N - p - 1)
        case measure => omega
        case rel => exact ⟨p + 1, by omega, by rfl, ⟨⟨by omega, HB3, by rw [FF.out]; exact R3.out⟩⟩⟩

def rootOf (pw p : Nat) : Nat := rt (p * 4294967296 ^ pw) pw 36 % 4294967296
theorem one32 {e : TypeId} (w : World) (x : Nat) : IntsV .u32 (.slice (some ⟨w.heap.size, 0, none⟩) 1 1) (w.alloc (.cells #[.int .u32 (x : Int)] e)) [x] := one_ints w x
theorem map_snoc (L : List Nat) (f : Nat → Nat) (i q : Nat) (h : L[i]? = some q) : (L.take (i + 1)).map f = (L.take i).map f ++ [f q] := by rw [List.take_add_one, h]; simp
set_option maxRecDepth 100000 in
set_option maxHeartbeats 4000000 in
theorem roots_any (n N pw : Nat) (w : World) (hn : n ≤ 100) (h2 : 2 ≤ N) (hN : N < 65536) (H1 : ∀ p, p < N → (found p).length < n) (H2 : (found N).length = n) (hp1 : 1 ≤ pw) (hp3 : pw ≤ 3) :
    Calls Tryd.prog 29 #[.int .i64 (n : Int), .int .i64 (pw : Int)] w fun e w' => ∃ v, e = .returned v ∧ Row w.heap.size 47 .u32 ((found N).map (rootOf pw)) v w' ∧ Below w.heap.size w w' := by
  have K1 : Kept _ := ⟨H1⟩
  have K2 : Kept _ := ⟨H2⟩
  have KL : Kept (∀ q ∈ found N, q < 65536) := ⟨fun q hq => by have := found_ge N q hq; omega⟩
  clear H1 H2
  obtain ⟨L, hL⟩ : ∃ L, L = found N := ⟨_, rfl⟩
  have EL : Kept _ := ⟨hL⟩
  rw [← hL]
  clear hL
  go_enter Tryd.func29, Tryd.ntmps29
  go_wp2_with fail
  refine (primes_any n N w hn h2 hN K1.out K2.out).mono ?_
  rintro e w1 ⟨vp, rfl, RP, hb1⟩
  have KP : Kept _ := ⟨row_cells RP⟩
  obtain ⟨pa, cpa, e3, _, _⟩ := KP.out
  rw [K2.out] at e3
  subst e3
  clear RP
  rw [← EL.out] at KP KL K2
  clear EL K1
  go_wp2_with fail
  go_loopg [5, 7] n (fun m s5 s7 wr => ∃ i : Nat, i + m = n ∧ s7 = .int .i64 (i : Int) ∧ Kept (Below w1.heap.size w1 wr ∧ Row w1.heap.size 47 .u32 ((L.take i).map (rootOf pw)) s5 wr))
  case atStart => exact ⟨0, by omega, rfl, ⟨⟨Below.refl _ _, row_nil _ _ _ _⟩⟩⟩
  case round =>
    obtain ⟨i, hik, rfl, KK⟩ := hrel
    obtain ⟨HB, RO⟩ := KK.out
    have KO : Kept _ := ⟨RO⟩
    clear KK RO
    have i0 : (0 : Int) ≤ (i : Int) := by omega
    by_cases hi : i < n
    case pos =>
      have hi' : (i : Int) < (n : Int) := by omega
      obtain ⟨q, hq⟩ : ∃ q, L[i]? = some q := ⟨_, List.getElem?_eq_getElem (by have := K2.out; omega)⟩
      obtain ⟨Aa, rfl, hba, hca⟩ := (KP.out.under HB).cell hq
      have q16 : q < 65536 := KL.out q (List.mem_of_getElem? hq)
      have MS : Kept _ := ⟨map_snoc L (rootOf pw) i q hq⟩
      clear hq hba
      go_wp2_with (first | ((with_reducible refine wv_elem (d := 19) ?hd ?hw 51 ag_u64 (.tmp 18) ?ho (Aa.add i) ?hx (.int .u64 (q : Int)) ?hg ?_); (case hd => rfl); (case hw => kernel_rfl); (case ho => rfl); (case hx => first | rfl | kernel_rfl); (case hg => exact hca); simp only [Act.put, List.setIfInBounds_toArray, List.set_cons_succ, List.set_cons_zero]))
      refine (root_any q pw wr q16 hp1 hp3).mono ?_
      rintro e w2 ⟨rfl, hb2⟩
      obtain ⟨z, hz⟩ : ∃ z, z = rootOf pw q := ⟨_, rfl⟩
      rw [← show rootOf pw q = rt (q * 4294967296 ^ pw) pw 36 % 4294967296 from rfl, ← hz]
      have HB2 := HB.trans (hb2.mono HB.size)
      have R2 : Kept _ := ⟨KO.out.under hb2⟩
      have SN : Kept (((L.take i).map (rootOf pw)).length + [z].length ≤ 8796093022208) := ⟨by simp; omega⟩
      have sw : w1.heap.size ≤ w2.heap.size := HB2.size
      have MZ : Kept _ := ⟨hz⟩
      clear HB KO hb2 hz hca
      go_wp2_with (first | (refine wl_app (by kernel_rfl) (.tmp 15) (.tmp 22) 64 47 .u32 4 rfl Tryd.underlying64 inf_u32 (by decide) w1.heap.size ((L.take i).map (rootOf pw)) [z] u5 _ rfl rfl (R2.out.alloc _) (one32 _ _) SN.out (by simp; omega) ?_))
      intro v5 w3 R3 G3 _
      have HB3 : Below w1.heap.size w1 w3 := (HB2.alloc HB2.size _).trans (grown_mono G3 (by simp; omega) (fun b hb => (R2.out.range b hb).1))
      have R3 : Kept _ := ⟨R3⟩
      go_wp2_with fail
      go_roundg (gk - 1)
      case measure => omega
      case rel => exact ⟨i + 1, by omega, by rfl, ⟨⟨HB3, by rw [MS.out, ← MZ.out, List.map_take]; exact R3.out⟩⟩⟩
    have hi' : ¬ (i : Int) < (n : Int) := by omega
    have RF : Kept (Row w.heap.size 47 .u32 (L.map (rootOf pw)) u5 wr) := ⟨by have := KO.out.mono hb1.size; rw [List.take_of_length_le (by have := K2.out; omega)] at this; exact this⟩
    go_wp2_with fail
    go_ret
    exact ⟨_, rfl, RF.out, hb1.trans (HB.mono hb1.size)⟩
end Go.Proofs.YthnkipicehppmaaDoor.sh
/-
  The roots that the reference reckons are the program's.
-/
namespace Go.Proofs.YthnkipicehppmaaDoor.sh
open Go Go.RowKit
set_option linter.unusedVariables false
set_option linter.unusedSimpArgs false

theorem found311 : (found 311).length = 63 := by kernel_rfl
theorem found312 : (found 312).length = 64 := by kernel_rfl
theorem found19 : (found 19).length = 7 := by kernel_rfl
theorem found20 : (found 20).length = 8 := by kernel_rfl
theorem cubes : (found 312).map (rootOf 3) = rootsL := by kernel_rfl
theorem squares : (found 20).map (rootOf 2) = firstL := by kernel_rfl
theorem below312 (p : Nat) (h : p < 312) : (found p).length < 64 := by
  have := found_le (311 - p) p
  rw [show p + (311 - p) = 311 from by omega, found311] at this
  omega
theorem below20 (p : Nat) (h : p < 20) : (found p).length < 8 := by
  have := found_le (19 - p) p
  rw [show p + (19 - p) = 19 from by omega, found19] at this
  omega
theorem roots64 (w : World) : Calls Tryd.prog 29 #[.int .i64 64, .int .i64 3] w fun e w' => ∃ v, e = .returned v ∧ Row w.heap.size 47 .u32 rootsL v w' ∧ Below w.heap.size w w' := by
  rw [← cubes]
  exact roots_any 64 312 3 w (by decide) (by decide) (by decide) below312 found312 (by decide) (by decide)
theorem roots8 (w : World) : Calls Tryd.prog 29 #[.int .i64 8, .int .i64 2] w fun e w' => ∃ v, e = .returned v ∧ Row w.heap.size 47 .u32 firstL v w' ∧ Below w.heap.size w w' := by
  rw [← squares]
  exact roots_any 8 20 2 w (by decide) (by decide) (by decide) below20 found20 (by decide) (by decide)
end Go.Proofs.YthnkipicehppmaaDoor.sh
/-
  The reference's turn and shift.
-/
namespace Go.Proofs.YthnkipicehppmaaDoor.sh
open Go Go.RowKit
set_option linter.unusedVariables false
set_option linter.unusedSimpArgs false


section
variable {o : Oper} {a : Act} {x y : Operand}
theorem run_quo32 {m n z : Nat} (ho : o.op = .binOp .quo 47 x y 47) (hx : a.eval x = .int .u32 (m : Int)) (hy : a.eval y = .int .u32 (n : Int)) (hn : 0 < n) (hm : m < 4294967296) (hz : z = m / n) (w : World) : (execOp a.eval o).run Tryd.prog w = .ok (.value (.int .u32 (z : Int))) w := by
  have h0 : ¬ ((n : Int) = 0) := by omega
  have hle : m / n ≤ m := Nat.div_le_self _ _
  have e2 : (m : Int).tdiv (n : Int) = (z : Int) := by rw [Int.tdiv_eq_ediv_of_nonneg (by omega), hz, Int.natCast_ediv]
  have e : (m : Int) / (n : Int) = (z : Int) := by rw [hz, Int.natCast_ediv]
  unfold execOp
  simp only [ho, hx, hy]
  simp [go_sem, IntKind.wrap_u32', e, e2, h0]
  have hz' : z ≤ m := by rw [hz]; exact hle
  rw [if_neg (show ¬ n = 0 by omega), Int.emod_eq_of_lt (by omega) (by omega)]

theorem run_rem32 {m n z : Nat} (ho : o.op = .binOp .rem 47 x y 47) (hx : a.eval x = .int .u32 (m : Int)) (hy : a.eval y = .int .u32 (n : Int)) (hn : 0 < n) (hm : m < 4294967296) (hz : z = m % n) (w : World) : (execOp a.eval o).run Tryd.prog w = .ok (.value (.int .u32 (z : Int))) w := by
  have h0 : ¬ ((n : Int) = 0) := by omega
  have hle : m % n ≤ m := Nat.mod_le _ _
  have e : (m : Int) % (n : Int) = (z : Int) := by rw [hz, Int.natCast_emod]
  have e2 : (m : Int).tmod (n : Int) = (z : Int) := by rw [Int.tmod_eq_emod_of_nonneg (by omega)]; exact e
  unfold execOp
  simp only [ho, hx, hy]
  simp [go_sem, IntKind.wrap_u32', e, e2, h0]
  omega

theorem run_mul32 {m n z : Nat} (ho : o.op = .binOp .mul 47 x y 47) (hx : a.eval x = .int .u32 (m : Int)) (hy : a.eval y = .int .u32 (n : Int))  (hz : z = m * n % 4294967296) (w : World) : (execOp a.eval o).run Tryd.prog w = .ok (.value (.int .u32 (z : Int))) w := by
  unfold execOp
  simp only [ho, hx, hy]
  simp [go_sem, IntKind.wrap_u32']
  rw [hz, Int.natCast_emod, Int.natCast_mul]
  rfl

end
theorem rot_eq (x m : Nat) (hx : x < 4294967296) (hm : m ≤ 31) : rotr x m = x / 2 ^ m + x % 2 ^ m * 2 ^ (32 - m) := by
  have e : 4294967296 = 2 ^ m * 2 ^ (32 - m) := by rw [← Nat.pow_add, show m + (32 - m) = 32 from by omega]
  have hlt : x / 2 ^ m < 2 ^ (32 - m) := Nat.div_lt_of_lt_mul (by rw [← e]; exact hx)
  unfold rotr
  rw [e, Nat.mul_mod_mul_right, Nat.mul_comm (x % 2 ^ m), ← Nat.two_pow_add_eq_or_of_lt hlt]
  omega
theorem rot_step (x m : Nat) (hx : x < 4294967296) (hm : m < 31) : rotr x (m + 1) = rotr x m / 2 + rotr x m % 2 * 2147483648 := by
  rw [rot_eq x m hx (by omega), rot_eq x (m + 1) hx (by omega)]
  have e1 : 2 ^ (32 - m) = 2 * 2 ^ (31 - m) := by rw [show 32 - m = (31 - m) + 1 from by omega, Nat.pow_succ, Nat.mul_comm]
  have e2 : 32 - (m + 1) = 31 - m := by omega
  have e3 : 2 ^ m * 2 ^ (31 - m) = 2147483648 := by rw [← Nat.pow_add, show m + (31 - m) = 31 from by omega]
  rw [e1, e2, Nat.pow_succ, ← Nat.div_div_eq_div_mul, Nat.mod_mul, ← e3]
  generalize x / 2 ^ m = y
  generalize x % 2 ^ m = z
  generalize 2 ^ (31 - m) = B
  generalize 2 ^ m = A
  have f1 : z * (2 * B) = 2 * (z * B) := by rw [Nat.mul_left_comm]
  rw [f1, Nat.add_mul_div_left _ _ (by decide), Nat.add_mul_mod_self_left, Nat.add_mul, ← Nat.add_assoc, Nat.mul_right_comm A, Nat.mul_comm (y % 2) (A * B)]
theorem rot_zero (x : Nat) (hx : x < 4294967296) : rotr x 0 = x := by rw [rot_eq x 0 hx (by omega), Nat.pow_zero, Nat.div_one, Nat.mod_one, Nat.zero_mul, Nat.add_zero]
set_option maxHeartbeats 1000000 in
theorem turn_any (x n : Nat) (w : World) (hx : x < 4294967296) (hn : n ≤ 31) :
    Calls Tryd.prog 43 #[.int .u32 (x : Int), .int .i64 (n : Int)] w fun e w' => e = .returned (.int .u32 ((rotr x n : Nat) : Int)) ∧ w' = w := by
  go_enter Tryd.func43, Tryd.ntmps43
  go_wp2_with fail
  go_loopg [0, 5] n (fun m s0 s5 wr => ∃ i y : Nat, i + m = n ∧ s0 = .int .u32 (y : Int) ∧ s5 = .int .i64 (i : Int) ∧ Kept (y = rotr x i) ∧ wr = w)
  case atStart => exact ⟨0, x, by omega, rfl, rfl, ⟨(rot_zero x hx).symm⟩, rfl⟩
  case round =>
    obtain ⟨i, y, hik, rfl, rfl, KY, hwr⟩ := hrel
    obtain rfl := hwr.symm
    have y32 : y < 4294967296 := by rw [KY.out]; exact rotr_lt x i hx
    by_cases hi : i < n
    case pos =>
      have hi' : (i : Int) < (n : Int) := by omega
      obtain ⟨a, ha⟩ : ∃ a, a = y / 2 := ⟨_, rfl⟩
      obtain ⟨b, hb⟩ : ∃ b, b = y % 2 := ⟨_, rfl⟩
      obtain ⟨c, hc⟩ : ∃ c, c = b * 2147483648 % 4294967296 := ⟨_, rfl⟩
      obtain ⟨d, hd⟩ : ∃ d, d = (a + c) % 4294967296 := ⟨_, rfl⟩
      have Ea : Kept _ := ⟨ha⟩
      have Eb : Kept _ := ⟨hb⟩
      have Ec : Kept _ := ⟨hc⟩
      have Ed : Kept _ := ⟨hd⟩
      have KD : Kept (d = rotr x (i + 1)) := ⟨by rw [rot_step x i hx (by omega), ← KY.out, hd, hc, ha, hb]; omega⟩
      clear ha hb hc hd
      go_wp2_with (first | ((with_reducible refine wv_val (d := 12) ?hd ?hw (.int .u32 (a : Int)) ?hr ?_); (case hd => rfl); (case hw => kernel_rfl); (case hr => intro w; exact run_quo32 rfl (by kernel_rfl) (by kernel_rfl) (by decide) y32 Ea.out w); simp only [Act.put, List.setIfInBounds_toArray, List.set_cons_succ, List.set_cons_zero]) | ((with_reducible refine wv_val (d := 14) ?hd ?hw (.int .u32 (b : Int)) ?hr ?_); (case hd => rfl); (case hw => kernel_rfl); (case hr => intro w; exact run_rem32 rfl (by kernel_rfl) (by kernel_rfl) (by decide) y32 Eb.out w); simp only [Act.put, List.setIfInBounds_toArray, List.set_cons_succ, List.set_cons_zero]) | ((with_reducible refine wv_val (d := 15) ?hd ?hw (.int .u32 (c : Int)) ?hr ?_); (case hd => rfl); (case hw => kernel_rfl); (case hr => intro w; exact run_mul32 (n := 2147483648) rfl (by kernel_rfl) (by kernel_rfl) Ec.out w); simp only [Act.put, List.setIfInBounds_toArray, List.set_cons_succ, List.set_cons_zero]) | ((with_reducible refine wv_val (d := 16) ?hd ?hw (.int .u32 (d : Int)) ?hr ?_); (case hd => rfl); (case hw => kernel_rfl); (case hr => intro w; exact run_add32 rfl (by kernel_rfl) (by kernel_rfl) Ed.out w); simp only [Act.put, List.setIfInBounds_toArray, List.set_cons_succ, List.set_cons_zero]))
      go_roundg (gk - 1)
      case measure => omega
      case rel => exact ⟨i + 1, d, by omega, rfl, by rfl, KD, rfl⟩
    obtain rfl : n = i := by omega
    have hi' : ¬ (n : Int) < (n : Int) := by omega
    go_wp2_with fail
    go_ret
    exact ⟨by rw [← KY.out]; rfl, rfl⟩
set_option maxHeartbeats 1000000 in
theorem shift_any (x n : Nat) (w : World) (hx : x < 4294967296) (hn : n ≤ 31) :
    Calls Tryd.prog 48 #[.int .u32 (x : Int), .int .i64 (n : Int)] w fun e w' => e = .returned (.int .u32 ((x / 2 ^ n : Nat) : Int)) ∧ w' = w := by
  obtain ⟨z, hz⟩ : ∃ z, z = x / 2 ^ n := ⟨_, rfl⟩
  rw [← hz]
  have EZ : Kept _ := ⟨hz⟩
  clear hz
  go_enter Tryd.func48, Tryd.ntmps48
  go_wp2_with fail
  go_loopg [0, 5] n (fun m s0 s5 wr => ∃ i y : Nat, i + m = n ∧ s0 = .int .u32 (y : Int) ∧ s5 = .int .i64 (i : Int) ∧ Kept (y = x / 2 ^ i) ∧ wr = w)
  case atStart => exact ⟨0, x, by omega, rfl, rfl, ⟨by rw [Nat.pow_zero, Nat.div_one]⟩, rfl⟩
  case round =>
    obtain ⟨i, y, hik, rfl, rfl, KY, hwr⟩ := hrel
    obtain rfl := hwr.symm
    have y32 : y < 4294967296 := by rw [KY.out]; exact Nat.lt_of_le_of_lt (Nat.div_le_self _ _) hx
    by_cases hi : i < n
    case pos =>
      have hi' : (i : Int) < (n : Int) := by omega
      obtain ⟨a, ha⟩ : ∃ a, a = y / 2 := ⟨_, rfl⟩
      have Ea : Kept _ := ⟨ha⟩
      have KD : Kept (a = x / 2 ^ (i + 1)) := ⟨by rw [ha, KY.out, Nat.pow_succ, Nat.div_div_eq_div_mul]⟩
      clear ha
      go_wp2_with (first | ((with_reducible refine wv_val (d := 12) ?hd ?hw (.int .u32 (a : Int)) ?hr ?_); (case hd => rfl); (case hw => kernel_rfl); (case hr => intro w; exact run_quo32 rfl (by kernel_rfl) (by kernel_rfl) (by decide) y32 Ea.out w); simp only [Act.put, List.setIfInBounds_toArray, List.set_cons_succ, List.set_cons_zero]))
      go_roundg (gk - 1)
      case measure => omega
      case rel => exact ⟨i + 1, a, by omega, rfl, by rfl, KD, rfl⟩
    obtain rfl : n = i := by omega
    have hi' : ¬ (n : Int) < (n : Int) := by omega
    go_wp2_with fail
    go_ret
    exact ⟨by rw [EZ.out, ← KY.out]; rfl, rfl⟩
end Go.Proofs.YthnkipicehppmaaDoor.sh
