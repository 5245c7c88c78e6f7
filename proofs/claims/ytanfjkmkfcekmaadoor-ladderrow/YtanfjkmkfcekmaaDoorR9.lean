/-
  What the reference package's Inv answers: the power of p - 2.
-/
import Derived.Test.YtanfjkmkfcekmaaDoorR8
import Derived.Test.YtanfjkmkfcekmaaDoorNum
import Derived.Deep.LoopGhost
namespace Go.Proofs.YtanfjkmkfcekmaaDoor
open Go.RowKit
set_option linter.unusedSimpArgs false
set_option linter.unusedVariables false

theorem inv_no (V Y i : Nat) (hi : i < 255) (h : i = 2 ∨ i = 4) (hY : Y = V ^ (57896044618658097711785492504343953926634992332820282019728792003956564819947 / 2 ^ (i + 1)) % 57896044618658097711785492504343953926634992332820282019728792003956564819949) : (Y * Y) % 57896044618658097711785492504343953926634992332820282019728792003956564819949 = V ^ (57896044618658097711785492504343953926634992332820282019728792003956564819947 / 2 ^ i) % 57896044618658097711785492504343953926634992332820282019728792003956564819949 := pow_no_bit V Y _ i hi h hY rfl
theorem inv_yes (V Y i : Nat) (hi : i < 255) (h : ¬ (i = 2 ∨ i = 4)) (hY : Y = V ^ (57896044618658097711785492504343953926634992332820282019728792003956564819947 / 2 ^ (i + 1)) % 57896044618658097711785492504343953926634992332820282019728792003956564819949) : ((Y * Y) % 57896044618658097711785492504343953926634992332820282019728792003956564819949 * V) % 57896044618658097711785492504343953926634992332820282019728792003956564819949 = V ^ (57896044618658097711785492504343953926634992332820282019728792003956564819947 / 2 ^ i) % 57896044618658097711785492504343953926634992332820282019728792003956564819949 := pow_one_bit V Y _ i hi h hY rfl
theorem inv_start (V : Nat) : 1 = V ^ (57896044618658097711785492504343953926634992332820282019728792003956564819947 / 2 ^ 255) % 57896044618658097711785492504343953926634992332820282019728792003956564819949 := by
  rw [show 57896044618658097711785492504343953926634992332820282019728792003956564819947 / 2 ^ 255 = 0 from by decide, Nat.pow_zero]

set_option maxHeartbeats 1000000 in
theorem rInv_any (n : Nat) (w : World) (hn : n < 115792089237316195423570985008687907853269984665640564039457584007913129639936) :
    Calls Tryd.prog 21 #[.agg (numA n)] w fun e w' => e = .returned (.agg (numA (invOf n))) ∧ Below w.heap.size w w' := by
  have HE : Kept (∀ Y, Y = n ^ (57896044618658097711785492504343953926634992332820282019728792003956564819947 / 2 ^ 0) % 57896044618658097711785492504343953926634992332820282019728792003956564819949 → Y = invOf n) := ⟨fun Y h => by rw [h, invOf_eq, Nat.pow_zero, Nat.div_one]⟩
  obtain ⟨r, hr⟩ : ∃ r, r = invOf n := ⟨_, rfl⟩
  rw [← hr] at HE
  rw [← hr]
  clear hr
  have HN : Kept (n < 115792089237316195423570985008687907853269984665640564039457584007913129639936) := ⟨hn⟩
  have HY : Kept (∀ Y i, i < 255 → Y = n ^ (57896044618658097711785492504343953926634992332820282019728792003956564819947 / 2 ^ (i + 1)) % 57896044618658097711785492504343953926634992332820282019728792003956564819949 → ((i = 2 ∨ i = 4) → (Y * Y) % 57896044618658097711785492504343953926634992332820282019728792003956564819949 = n ^ (57896044618658097711785492504343953926634992332820282019728792003956564819947 / 2 ^ i) % 57896044618658097711785492504343953926634992332820282019728792003956564819949) ∧ (¬ (i = 2 ∨ i = 4) → ((Y * Y) % 57896044618658097711785492504343953926634992332820282019728792003956564819949 * n) % 57896044618658097711785492504343953926634992332820282019728792003956564819949 = n ^ (57896044618658097711785492504343953926634992332820282019728792003956564819947 / 2 ^ i) % 57896044618658097711785492504343953926634992332820282019728792003956564819949)) := ⟨fun Y i hi h => ⟨fun h2 => inv_no n Y i hi h2 h, fun h2 => inv_yes n Y i hi h2 h⟩⟩
  have HS : Kept (1 = n ^ (57896044618658097711785492504343953926634992332820282019728792003956564819947 / 2 ^ 255) % 57896044618658097711785492504343953926634992332820282019728792003956564819949) := ⟨inv_start n⟩
  have HP : Kept (∀ x, x % 57896044618658097711785492504343953926634992332820282019728792003956564819949 < 115792089237316195423570985008687907853269984665640564039457584007913129639936) := ⟨fun x => Nat.lt_trans (Nat.mod_lt _ (by decide)) (by decide)⟩
  generalize hF : (fun k => n ^ (57896044618658097711785492504343953926634992332820282019728792003956564819947 / 2 ^ k) % 57896044618658097711785492504343953926634992332820282019728792003956564819949) = F at *
  have hF' : ∀ k, n ^ (57896044618658097711785492504343953926634992332820282019728792003956564819947 / 2 ^ k) % 57896044618658097711785492504343953926634992332820282019728792003956564819949 = F k := fun k => by rw [← hF]
  simp only [hF'] at HE HY HS
  clear hF hF' hn
  go_enter Tryd.func21, Tryd.ntmps21
  go_wp2_with (first | (refine l_build rfl 1 1 rfl rfl b1 ?_; simp only [Act.put, List.setIfInBounds_toArray, List.set_cons_succ, List.set_cons_zero]) | (refine wpList_put rfl _ _ rfl _ 1 rfl rfl ?hg ?_; (case hg => exact room_top _ _ (by simp))))
  intro w1 h1 hp1
  have A0 : At w1 w.heap.size n := hp1.at (((at_new w n).alloc _).alloc _) (by omega)
  have R1 : Room w1 (w.heap.size + 1) := hp1.room ((room_top (w.alloc (.cells (numA n) 22)) (w.heap.size + 1) (by simp)).alloc _) (by omega)
  have QB : Below w.heap.size w w1 := Below.trans ((((Below.refl _ _).alloc (Nat.le_refl _) _).alloc (by simp) _).alloc (by simp; omega) _) (hp1.below (by omega))
  clear hp1
  go_wp2
  go_loopg [4] 255 (fun k s4 wr => k ≤ 255 ∧ s4 = .int .i64 ((k : Int) - 1) ∧ ∃ Y, At wr (w.heap.size + 1 + 1) Y ∧ At wr w.heap.size n ∧ Room wr (w.heap.size + 1) ∧ Below w.heap.size w wr ∧ Kept (Y = F k ∧ Y < 115792089237316195423570985008687907853269984665640564039457584007913129639936))
  case atStart => exact ⟨Nat.le_refl _, rfl, 1, h1, A0, R1, QB, ⟨HS.out, by decide⟩⟩
  case round =>
    obtain ⟨hk, rfl, Y, AY, AN, RR, QR, KY⟩ := hrel
    cases gk with
    | zero =>
      have hr : Y = r := HE.out Y KY.out.1
      subst hr
      go_wp2_with (first | (refine wpList_get rfl _ rfl _ Y rfl AY ?_) | (refine wpList_put rfl _ _ rfl _ Y rfl rfl RR ?_))
      intro w2 h2 hp2
      go_wp2
      refine bodyPost_ret (v := .agg (numA Y)) ?_ rfl ⟨rfl, ?_⟩
      · exact ret_num (Q := fun _ _ => True) Tryd.results21 _ [] _ _ Y rfl h2
      · exact QR.trans (hp2.below (by omega))
    | succ i =>
      have e1 : (((i + 1 : Nat) : Int) - 1) = (i : Int) := by omega
      rw [e1]
      have hi : i < 255 := by omega
      have hst := HY.out Y i hi KY.out.1
      have HST : Kept _ := ⟨hst⟩
      clear hst e1 hk
      go_wp2_with (first | (refine wpList_get rfl _ rfl _ Y rfl AY ?_))
      refine (rMul_any Y Y _ KY.out.2 KY.out.2).mono ?_
      rintro e w2 ⟨rfl, hb2⟩
      have AN2 := AN.under hb2
      have AY2 := AY.under hb2
      have RR2 := RR.under hb2
      have QR2 := QR.trans (hb2.mono QR.size)
      have hS : Y * Y % 57896044618658097711785492504343953926634992332820282019728792003956564819949 < 115792089237316195423570985008687907853269984665640564039457584007913129639936 := HP.out _
      generalize hSS : Y * Y % 57896044618658097711785492504343953926634992332820282019728792003956564819949 = S at *
      have KS : Kept (S < 115792089237316195423570985008687907853269984665640564039457584007913129639936) := ⟨hS⟩
      clear hb2 AN AY RR QR hS hSS
      go_wp2_with (first | (refine wpList_put rfl _ _ rfl _ S rfl rfl AY2.room ?_))
      intro w3 A3 hp3
      have AN3 := hp3.at AN2 (by omega)
      have RR3 := hp3.room RR2 (by omega)
      have QR3 := QR2.trans (hp3.below (by omega))
      clear hp3 AN2 AY2 RR2 QR2
      by_cases h24 : i = 2 ∨ i = 4
      · have hS2 : Kept (S = F i) := ⟨HST.out.1 h24⟩
        rcases h24 with h24 | h24
        · have h2 : ((i : Int) != 2) = false := by subst h24; rfl
          clear HST HY h24
          go_wp2
          go_roundg i
          case rel => exact ⟨by omega, rfl, S, A3, AN3, RR3, QR3, ⟨hS2.out, KS.out⟩⟩
          case measure => omega
        · have h2 : ((i : Int) != 2) = true := by subst h24; rfl
          have h4 : ((i : Int) != 4) = false := by subst h24; rfl
          clear HST HY h24
          go_wp2
          go_roundg i
          case rel => exact ⟨by omega, rfl, S, A3, AN3, RR3, QR3, ⟨hS2.out, KS.out⟩⟩
          case measure => omega
      · have hS2 := HST.out.2 h24
        have h2 : ((i : Int) != 2) = true := by rw [bne_iff_ne]; omega
        have h4 : ((i : Int) != 4) = true := by rw [bne_iff_ne]; omega
        obtain ⟨U, hU⟩ : ∃ U, U = F i := ⟨_, rfl⟩
        have KF : Kept (U = F i) := ⟨hU⟩
        have KS2 : Kept (S * n % 57896044618658097711785492504343953926634992332820282019728792003956564819949 = U) := ⟨by rw [hU]; exact hS2⟩
        clear hU
        clear HST h24 hS2
        go_wp2_with (first | (refine wpList_get rfl (.tmp 3) rfl _ S rfl A3 ?_) | (refine wpList_get rfl (.tmp 1) rfl _ n rfl AN3 ?_))
        refine (rMul_any S n _ KS.out HN.out).mono ?_
        rintro e w4 ⟨rfl, hb4⟩
        have AN4 := AN3.under hb4
        have AY4 := A3.under hb4
        have RR4 := RR3.under hb4
        have QR4 := QR3.trans (hb4.mono QR3.size)
        have KU : Kept (S * n % 57896044618658097711785492504343953926634992332820282019728792003956564819949 < 115792089237316195423570985008687907853269984665640564039457584007913129639936) := ⟨HP.out _⟩
        rw [KS2.out] at KU
        rw [KS2.out]
        clear hb4 AN3 A3 RR3 QR3
        go_wp2_with (first | (refine wpList_put rfl _ _ rfl _ U rfl rfl AY4.room ?_))
        intro w5 A5 hp5
        have AN5 := hp5.at AN4 (by omega)
        have RR5 := hp5.room RR4 (by omega)
        have QR5 := QR4.trans (hp5.below (by omega))
        clear hp5 AN4 AY4 RR4 QR4
        go_wp2
        go_roundg i
        case rel => exact ⟨by omega, rfl, U, A5, AN5, RR5, QR5, ⟨KF.out, KU.out⟩⟩
        case measure => omega
end Go.Proofs.YtanfjkmkfcekmaaDoor
