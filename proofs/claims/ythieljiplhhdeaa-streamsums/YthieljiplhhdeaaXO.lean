/-
  StreamSums: two texts that are turned alike differ as they did.
-/
import Derived.Test.YthieljiplhhdeaaXN
namespace Go.Proofs.Ythieljiplhhdeaa.sh
open Go Go.RowKit
set_option linter.unusedVariables false
set_option linter.unusedSimpArgs false

theorem xor_cancel (p q m : Nat) : (p ^^^ m) ^^^ (q ^^^ m) = p ^^^ q := by
  rw [Nat.xor_assoc, Nat.xor_comm q m, ← Nat.xor_assoc m m q, Nat.xor_self, Nat.zero_xor]

set_option maxRecDepth 100000 in
set_option maxHeartbeats 2000000 in
theorem sums5_any (key nonce : List Nat) (count : Nat) (va : Value) (a : List Nat) (vb : Value) (b : List Nat) (w : World) (hk : key.length = 32) (hy : Bytes key) (hnl : nonce.length = 12) (hyn : Bytes nonce) (hc : count < 4294967296) (hva : BytesV va w a) (hya : Bytes a) (hla : a.length ≤ maxLen) (hvb : BytesV vb w b) (hyb : Bytes b) (hlb : b.length ≤ maxLen) :
    Calls Try.prog 5 #[.agg (placeA key nonce count), va, vb] w fun e w' => e = .returned (.bool true) ∧ Below w.heap.size w w' := by
  have KA : Kept _ := ⟨hva⟩
  have KB : Kept _ := ⟨hvb⟩
  obtain ⟨pa, ca, rfl, _, _⟩ := hva
  obtain ⟨pb, cb, rfl, _, _⟩ := hvb
  obtain ⟨na, hna⟩ : ∃ n, n = a.length := ⟨_, rfl⟩
  obtain ⟨nb, hnb⟩ : ∃ n, n = b.length := ⟨_, rfl⟩
  rw [← hna] at KA ⊢
  rw [← hnb] at KB ⊢
  have ENA : Kept _ := ⟨hna⟩
  have ENB : Kept _ := ⟨hnb⟩
  have LK : Kept _ := ⟨hk⟩
  have LN : Kept _ := ⟨hnl⟩
  have KYA : Kept _ := ⟨hya⟩
  have KYB : Kept _ := ⟨hyb⟩
  have A0 : Blk (w.alloc (.cells (placeA key nonce count) 26)) w.heap.size 26 (placeA key nonce count) := blk_new _ _ _
  have Q0 := place_below w (placeA key nonce count)
  have CX : Kept (∀ (w' : World) (v : Value) (l : List Nat), BytesV v w' l → Bytes l → l.length ≤ 65536 → Calls Try.prog 9 #[.agg (ints .u8 key), .agg (ints .u8 nonce), .int .u32 (count : Int), v] w' fun e w2 => Below w'.heap.size w' w2 ∧ ∃ v : Value, ((count + (l.length + 63) / 64 ≤ 4294967296 ∧ e = .returned (.tuple #[v, .int .i64 0]) ∧ BytesV v w2 (encL key nonce count l)) ∨ (4294967296 < count + (l.length + 63) / 64 ∧ e = .returned (.tuple #[v, .int .i64 12]) ∧ v = .slice none 0 0))) := ⟨fun w' v l h1 h2 h3 => Xor_any key nonce l count v w' hk hy hnl hyn h2 h1 hc h3⟩
  clear hk hy hnl hyn hya hyb hna hnb hla hlb
  by_cases h20 : 2000 < na
  case pos =>
    have h20' : (2000 : Int) < (na : Int) := by omega
    go_enter Try.func5, Try.ntmps5
    go_wp2_with fail
    refine (alive5_any _).mono ?_
    rintro e w1 ⟨rfl, hb1⟩
    go_wp2_with fail
    go_ret
    exact ⟨rfl, Q0.trans (hb1.mono Q0.size)⟩
  case neg =>
  have h20' : ¬ (2000 : Int) < (na : Int) := by omega
  by_cases h21 : 2000 < nb
  case pos =>
    have h21' : (2000 : Int) < (nb : Int) := by omega
    go_enter Try.func5, Try.ntmps5
    go_wp2_with fail
    refine (alive5_any _).mono ?_
    rintro e w1 ⟨rfl, hb1⟩
    go_wp2_with fail
    go_ret
    exact ⟨rfl, Q0.trans (hb1.mono Q0.size)⟩
  case neg =>
    have h21' : ¬ (2000 : Int) < (nb : Int) := by omega
    go_enter Try.func5, Try.ntmps5
    go_wp2_with fail
    generalize hW : w.alloc (.cells (placeA key nonce count) 26) = wa at *
    clear hW
    refine (alive5_any wa).mono ?_
    rintro e w1 ⟨rfl, hb1⟩
    have B0 := A0.under hb1
    have Q1 := Q0.trans (hb1.mono Q0.size)
    clear A0 Q0 hb1
    go_wp2_with (first | ((with_reducible refine wv_val (d := 23) ?hd ?hw (.pointer (some ⟨w.heap.size, 0, none⟩)) ?hr ?_); (case hd => rfl); (case hw => kernel_rfl); (case hr => intro w; kernel_rfl); simp only [Act.put, List.setIfInBounds_toArray, List.set_cons_succ, List.set_cons_zero]) | ((with_reducible refine wv_partA (d := 24) ?hd ?hw 22 (.tmp 23) ?ho (w.heap.size) 0 ?hx (t' := 26) (placeA key nonce count) (ints .u8 key) 32 5 Try.underlying22 ?hs ?hg ?hp ?_); (case hd => rfl); (case hw => kernel_rfl); (case ho => rfl); (case hx => kernel_rfl); (case hs => rw [ints_size, LK.out]; exact t32_info); (case hg => exact B0); (case hp => exact place_key _ _ _); simp only [Act.put, List.setIfInBounds_toArray, List.set_cons_succ, List.set_cons_zero]) | ((with_reducible refine wv_val (d := 25) ?hd ?hw (.pointer (some ⟨w.heap.size, 32, none⟩)) ?hr ?_); (case hd => rfl); (case hw => kernel_rfl); (case hr => intro w; kernel_rfl); simp only [Act.put, List.setIfInBounds_toArray, List.set_cons_succ, List.set_cons_zero]) | ((with_reducible refine wv_partA (d := 26) ?hd ?hw 23 (.tmp 25) ?ho (w.heap.size) 32 ?hx (t' := 26) (placeA key nonce count) (ints .u8 nonce) 12 5 Try.underlying23 ?hs ?hg ?hp ?_); (case hd => rfl); (case hw => kernel_rfl); (case ho => rfl); (case hx => kernel_rfl); (case hs => rw [ints_size, LN.out]; exact i12_info); (case hg => exact B0); (case hp => exact place_non _ _ _ LK.out); simp only [Act.put, List.setIfInBounds_toArray, List.set_cons_succ, List.set_cons_zero]) | ((with_reducible refine wv_val (d := 27) ?hd ?hw (.pointer (some ⟨w.heap.size, 44, none⟩)) ?hr ?_); (case hd => rfl); (case hw => kernel_rfl); (case hr => intro w; kernel_rfl); simp only [Act.put, List.setIfInBounds_toArray, List.set_cons_succ, List.set_cons_zero]) | ((with_reducible refine wv_elem (d := 28) ?hd ?hw 24 ag_u32 (.tmp 27) ?ho (⟨w.heap.size, 44, none⟩) ?hx (.int .u32 (count : Int)) ?hc ?_); (case hd => rfl); (case hw => kernel_rfl); (case ho => rfl); (case hx => kernel_rfl); (case hc => exact B0.cell (place_cnt _ _ _ LK.out LN.out)); simp only [Act.put, List.setIfInBounds_toArray, List.set_cons_succ, List.set_cons_zero]))
    refine (CX.out w1 _ a (KA.out.under Q1) KYA.out (by rw [← ENA.out]; omega)).mono ?_
    rintro e w2 ⟨hb2, v, hv⟩
    obtain ⟨r1, hr1, he1⟩ : ∃ r : Int, e = .returned (.tuple #[v, .int .i64 r]) ∧ ((r = 0 ∧ BytesV v w2 (encL key nonce count a)) ∨ r = 12) := by
      rcases hv with ⟨_, h1, h2⟩ | ⟨_, h1, _⟩
      · exact ⟨0, h1, .inl ⟨rfl, h2⟩⟩
      · exact ⟨12, h1, .inr rfl⟩
    subst hr1
    have KE1 : Kept _ := ⟨he1⟩
    have C0 := B0.under hb2
    have Q2 := Q1.trans (hb2.mono Q1.size)
    clear B0 Q1 hb2 hv he1
    go_wp2_with (first | ((with_reducible refine wv_val (d := 34) ?hd ?hw (.pointer (some ⟨w.heap.size, 0, none⟩)) ?hr ?_); (case hd => rfl); (case hw => kernel_rfl); (case hr => intro w; kernel_rfl); simp only [Act.put, List.setIfInBounds_toArray, List.set_cons_succ, List.set_cons_zero]) | ((with_reducible refine wv_partA (d := 35) ?hd ?hw 22 (.tmp 34) ?ho (w.heap.size) 0 ?hx (t' := 26) (placeA key nonce count) (ints .u8 key) 32 5 Try.underlying22 ?hs ?hg ?hp ?_); (case hd => rfl); (case hw => kernel_rfl); (case ho => rfl); (case hx => kernel_rfl); (case hs => rw [ints_size, LK.out]; exact t32_info); (case hg => exact C0); (case hp => exact place_key _ _ _); simp only [Act.put, List.setIfInBounds_toArray, List.set_cons_succ, List.set_cons_zero]) | ((with_reducible refine wv_val (d := 36) ?hd ?hw (.pointer (some ⟨w.heap.size, 32, none⟩)) ?hr ?_); (case hd => rfl); (case hw => kernel_rfl); (case hr => intro w; kernel_rfl); simp only [Act.put, List.setIfInBounds_toArray, List.set_cons_succ, List.set_cons_zero]) | ((with_reducible refine wv_partA (d := 37) ?hd ?hw 23 (.tmp 36) ?ho (w.heap.size) 32 ?hx (t' := 26) (placeA key nonce count) (ints .u8 nonce) 12 5 Try.underlying23 ?hs ?hg ?hp ?_); (case hd => rfl); (case hw => kernel_rfl); (case ho => rfl); (case hx => kernel_rfl); (case hs => rw [ints_size, LN.out]; exact i12_info); (case hg => exact C0); (case hp => exact place_non _ _ _ LK.out); simp only [Act.put, List.setIfInBounds_toArray, List.set_cons_succ, List.set_cons_zero]) | ((with_reducible refine wv_val (d := 38) ?hd ?hw (.pointer (some ⟨w.heap.size, 44, none⟩)) ?hr ?_); (case hd => rfl); (case hw => kernel_rfl); (case hr => intro w; kernel_rfl); simp only [Act.put, List.setIfInBounds_toArray, List.set_cons_succ, List.set_cons_zero]) | ((with_reducible refine wv_elem (d := 39) ?hd ?hw 24 ag_u32 (.tmp 38) ?ho (⟨w.heap.size, 44, none⟩) ?hx (.int .u32 (count : Int)) ?hc ?_); (case hd => rfl); (case hw => kernel_rfl); (case ho => rfl); (case hx => kernel_rfl); (case hc => exact C0.cell (place_cnt _ _ _ LK.out LN.out)); simp only [Act.put, List.setIfInBounds_toArray, List.set_cons_succ, List.set_cons_zero]))
    refine (CX.out w2 _ b (KB.out.under Q2) KYB.out (by rw [← ENB.out]; omega)).mono ?_
    rintro e w3 ⟨hb3, u, hu⟩
    have Q3 := Q2.trans (hb3.mono Q2.size)
    rcases KE1.out with ⟨rfl, hx⟩ | rfl
    case inr =>
      obtain ⟨r2, hr2⟩ : ∃ r : Int, e = .returned (.tuple #[u, .int .i64 r]) := by
        rcases hu with ⟨_, h1, _⟩ | ⟨_, h1, _⟩
        · exact ⟨0, h1⟩
        · exact ⟨12, h1⟩
      subst hr2
      clear hu
      go_wp2_with fail
      go_ret
      exact ⟨rfl, Q3⟩
    case inl =>
    rcases hu with ⟨_, rfl, hu⟩ | ⟨_, rfl, rfl⟩
    case inr =>
      go_wp2_with fail
      go_ret
      exact ⟨rfl, Q3⟩
    case inl =>
      have VX : Kept _ := ⟨hx.under hb3⟩
      have VY : Kept _ := ⟨hu⟩
      obtain ⟨px, cx, rfl, _, _⟩ := hx
      obtain ⟨py, cy, rfl, _, _⟩ := hu
      have e1 : (encL key nonce count a).length = na := by rw [encL_len, ← ENA.out]
      have e2 : (encL key nonce count b).length = nb := by rw [encL_len, ← ENB.out]
      rw [e1] at VX ⊢
      rw [e2] at VY ⊢
      clear e1 e2
      obtain ⟨X, hX⟩ : ∃ X, X = encL key nonce count a := ⟨_, rfl⟩
      obtain ⟨Y, hY⟩ : ∃ X, X = encL key nonce count b := ⟨_, rfl⟩
      rw [← hX] at VX
      rw [← hY] at VY
      have EX : Kept _ := ⟨hX⟩
      have EY : Kept _ := ⟨hY⟩
      obtain ⟨mm, hmm⟩ : ∃ m, m = min na nb := ⟨_, rfl⟩
      have Em : Kept _ := ⟨hmm⟩
      have mma : mm ≤ na := by omega
      have mmb : mm ≤ nb := by omega
      clear C0 Q2 hb3 hX hY CX KE1 hmm
      go_wp2_with (first | ((with_reducible refine wv_val (d := 54) ?hd ?hw (.int .i64 (mm : Int)) ?hr ?_); (case hd => rfl); (case hw => kernel_rfl); (case hr => intro w; exact run_min2 rfl (by kernel_rfl) (by kernel_rfl) Em.out w); simp only [Act.put, List.setIfInBounds_toArray, List.set_cons_succ, List.set_cons_zero]))
      go_loopg [55] mm (fun k s55 wr => ∃ i : Nat, i + k = mm ∧ s55 = .int .i64 (i : Int) ∧ Below w.heap.size w wr ∧ Kept (BytesV (.slice px na cx) wr X) ∧ Kept (BytesV (.slice py nb cy) wr Y))
      case atStart => exact ⟨0, by omega, rfl, Q3, VX, VY⟩
      case round =>
        clear Q3 VX VY
        obtain ⟨i, hik, rfl, HB, VX, VY⟩ := hrel
        by_cases hi : i < mm
        case pos =>
          have hi' : (i : Int) < (mm : Int) := by omega
          have hia : i < na := by omega
          have hib : i < nb := by omega
          obtain ⟨p, hp⟩ : ∃ x, a[i]? = some x := ⟨_, List.getElem?_eq_getElem (by have := ENA.out; omega)⟩
          obtain ⟨q, hq⟩ : ∃ x, b[i]? = some x := ⟨_, List.getElem?_eq_getElem (by have := ENB.out; omega)⟩
          obtain ⟨m, hm⟩ : ∃ m, m = padB key nonce count i := ⟨_, rfl⟩
          obtain ⟨x, hx⟩ : ∃ x, x = p ^^^ m := ⟨_, rfl⟩
          obtain ⟨y, hy⟩ : ∃ y, y = q ^^^ m := ⟨_, rfl⟩
          obtain ⟨z, hz⟩ : ∃ z, z = p ^^^ q := ⟨_, rfl⟩
          have hp8 : p < 256 := KYA.out i p hp
          have hq8 : q < 256 := KYB.out i q hq
          have hm8 : m < 256 := by rw [hm]; exact padB_lt _ _ _ _
          have hx8 : x < 256 := by rw [hx]; exact xor_lt8 hp8 hm8
          have hy8 : y < 256 := by rw [hy]; exact xor_lt8 hq8 hm8
          have gx : X[i]? = some x := by rw [EX.out, encL_get _ _ _ _ _ _ hp, hx, hm]
          have gy : Y[i]? = some y := by rw [EY.out, encL_get _ _ _ _ _ _ hq, hy, hm]
          have Ez : Kept (z = x ^^^ y) := ⟨by rw [hx, hy, hz, xor_cancel]⟩
          have Ez2 : Kept (z = p ^^^ q) := ⟨hz⟩
          obtain ⟨AX, rfl, _, _⟩ := bytes_at VX.out gx
          obtain ⟨AY, rfl, _, _⟩ := bytes_at VY.out gy
          obtain ⟨AA, rfl, _, _⟩ := bytes_at KA.out hp
          obtain ⟨AB, rfl, _, _⟩ := bytes_at KB.out hq
          have CX : Kept (∀ w', Below wr.heap.size wr w' → w'.cell? (AX.add i) = some (.int .u8 (x : Int))) := ⟨fun w' hb => bytes_cell (VX.out.under hb) gx⟩
          have CY : Kept (∀ w', Below wr.heap.size wr w' → w'.cell? (AY.add i) = some (.int .u8 (y : Int))) := ⟨fun w' hb => bytes_cell (VY.out.under hb) gy⟩
          have CA : Kept (∀ w', Below wr.heap.size wr w' → w'.cell? (AA.add i) = some (.int .u8 (p : Int))) := ⟨fun w' hb => bytes_cell ((KA.out.under HB).under hb) hp⟩
          have CB : Kept (∀ w', Below wr.heap.size wr w' → w'.cell? (AB.add i) = some (.int .u8 (q : Int))) := ⟨fun w' hb => bytes_cell ((KB.out.under HB).under hb) hq⟩
          clear hp hq hm hx hy hz gx gy
          go_wp2_with fail
          refine region_ownL wr 19 [(58, .slice (some AX) na cx), (59, .int .i64 (i : Int)), (60, .pointer (some (AX.add i))), (61, .int .u8 (x : Int)), (62, .slice (some AY) nb cy), (63, .int .i64 (i : Int)), (64, .pointer (some (AY.add i))), (65, .int .u8 (y : Int)), (66, .int .u8 (z : Int)), (67, .slice (some AA) na ca), (68, .int .i64 (i : Int)), (69, .pointer (some (AA.add i))), (70, .int .u8 (p : Int)), (71, .slice (some AB) nb cb), (72, .int .i64 (i : Int)), (73, .pointer (some (AB.add i))), (74, .int .u8 (q : Int)), (75, .int .u8 (z : Int)), (76, .bool false)] [] [] [] rfl (by kernel_rfl) (by kernel_rfl) (by kernel_rfl) (by kernel_rfl) (by kernel_rfl) (by kernel_rfl) (by kernel_rfl) (by kernel_rfl) (by kernel_rfl) (by kernel_rfl) (by kernel_rfl) ?hst1 ?hst2 (Below.refl _ _) (fun hA => ⟨ow_val hA (wants_none rfl) 58 (.slice (some AX) na cx) (by kernel_rfl) rfl rfl rfl rfl (by kernel_rfl) (fun w => by kernel_rfl), ow_val hA (wants_none rfl) 59 (.int .i64 (i : Int)) (by kernel_rfl) rfl rfl rfl rfl (by kernel_rfl) (fun w => by kernel_rfl), ow_val hA (wants_none rfl) 60 (.pointer (some (AX.add i))) (by kernel_rfl) rfl rfl rfl rfl (by kernel_rfl) (fun w => run_idxS (A := AX) (i := i) (l := na) (c := cx) rfl (by kernel_rfl) (by kernel_rfl) Try.underlying27 hia sz_u8 w), ow_elem hA (wants_none rfl) 61 (.int .u8 (x : Int)) (by kernel_rfl) rfl rfl rfl rfl (by kernel_rfl) 5 ag_u8 (.tmp 60) rfl (AX.add i) (by kernel_rfl) (fun w1 hb => CX.out w1 hb), ow_val hA (wants_none rfl) 62 (.slice (some AY) nb cy) (by kernel_rfl) rfl rfl rfl rfl (by kernel_rfl) (fun w => by kernel_rfl), ow_val hA (wants_none rfl) 63 (.int .i64 (i : Int)) (by kernel_rfl) rfl rfl rfl rfl (by kernel_rfl) (fun w => by kernel_rfl), ow_val hA (wants_none rfl) 64 (.pointer (some (AY.add i))) (by kernel_rfl) rfl rfl rfl rfl (by kernel_rfl) (fun w => run_idxS (A := AY) (i := i) (l := nb) (c := cy) rfl (by kernel_rfl) (by kernel_rfl) Try.underlying27 hib sz_u8 w), ow_elem hA (wants_none rfl) 65 (.int .u8 (y : Int)) (by kernel_rfl) rfl rfl rfl rfl (by kernel_rfl) 5 ag_u8 (.tmp 64) rfl (AY.add i) (by kernel_rfl) (fun w1 hb => CY.out w1 hb), ow_val hA (wants_none rfl) 66 (.int .u8 (z : Int)) (by kernel_rfl) rfl rfl rfl rfl (by kernel_rfl) (fun w => run_xorV (m := x) (n := y) rfl (by kernel_rfl) (by kernel_rfl) hx8 hy8 Ez.out w), ow_val hA (wants_none rfl) 67 (.slice (some AA) na ca) (by kernel_rfl) rfl rfl rfl rfl (by kernel_rfl) (fun w => by kernel_rfl), ow_val hA (wants_none rfl) 68 (.int .i64 (i : Int)) (by kernel_rfl) rfl rfl rfl rfl (by kernel_rfl) (fun w => by kernel_rfl), ow_val hA (wants_none rfl) 69 (.pointer (some (AA.add i))) (by kernel_rfl) rfl rfl rfl rfl (by kernel_rfl) (fun w => run_idxS (A := AA) (i := i) (l := na) (c := ca) rfl (by kernel_rfl) (by kernel_rfl) Try.underlying27 hia sz_u8 w), ow_elem hA (wants_none rfl) 70 (.int .u8 (p : Int)) (by kernel_rfl) rfl rfl rfl rfl (by kernel_rfl) 5 ag_u8 (.tmp 69) rfl (AA.add i) (by kernel_rfl) (fun w1 hb => CA.out w1 hb), ow_val hA (wants_none rfl) 71 (.slice (some AB) nb cb) (by kernel_rfl) rfl rfl rfl rfl (by kernel_rfl) (fun w => by kernel_rfl), ow_val hA (wants_none rfl) 72 (.int .i64 (i : Int)) (by kernel_rfl) rfl rfl rfl rfl (by kernel_rfl) (fun w => by kernel_rfl), ow_val hA (wants_none rfl) 73 (.pointer (some (AB.add i))) (by kernel_rfl) rfl rfl rfl rfl (by kernel_rfl) (fun w => run_idxS (A := AB) (i := i) (l := nb) (c := cb) rfl (by kernel_rfl) (by kernel_rfl) Try.underlying27 hib sz_u8 w), ow_elem hA (wants_none rfl) 74 (.int .u8 (q : Int)) (by kernel_rfl) rfl rfl rfl rfl (by kernel_rfl) 5 ag_u8 (.tmp 73) rfl (AB.add i) (by kernel_rfl) (fun w1 hb => CB.out w1 hb), ow_val hA (wants_none rfl) 75 (.int .u8 (z : Int)) (by kernel_rfl) rfl rfl rfl rfl (by kernel_rfl) (fun w => run_xorV (m := p) (n := q) rfl (by kernel_rfl) (by kernel_rfl) hp8 hq8 Ez2.out w), ow_val hA (wants_none rfl) 76 (.bool false) (by kernel_rfl) rfl rfl rfl rfl (by kernel_rfl) (fun w => run_neq8 (m := z) rfl (by kernel_rfl) (by kernel_rfl) w), trivial⟩) ?_
          case hst1 => intro q hq; cases hq
          case hst2 => intro q hq; cases hq
          intro fv w7 hf hD hb7
          simp only [putR, List.foldl_cons, List.foldl_nil, List.map_cons, List.map_nil, Act.put, List.setIfInBounds_toArray, List.set_cons_succ, List.set_cons_zero]
          clear hf hD CX CY CA CB
          have HB7 := HB.trans (hb7.mono HB.size)
          have VX7 : Kept _ := ⟨VX.out.under hb7⟩
          have VY7 : Kept _ := ⟨VY.out.under hb7⟩
          clear HB VX VY hb7 Ez Ez2
          refine (show wpList _ _ _ [] _ _ from ?_)
          refine wpList_nil ?_
          go_wp2_with fail
          go_roundg (gk - 1)
          case measure => omega
          case rel => exact ⟨i + 1, by omega, by simp, HB7, VX7, VY7⟩
        case neg =>
          have hi' : ¬ (i : Int) < (mm : Int) := by omega
          clear VX VY
          go_wp2_with fail
          go_ret
          exact ⟨rfl, HB⟩
end Go.Proofs.Ythieljiplhhdeaa.sh
