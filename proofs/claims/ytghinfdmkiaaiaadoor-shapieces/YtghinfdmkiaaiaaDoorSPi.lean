/-
  What ShaPieces answers.
-/
import Derived.Test.YtghinfdmkiaaiaaDoorSPa
namespace Go.Proofs.YtghinfdmkiaaiaaDoor.sh
open Go Go.RowKit
set_option linter.unusedVariables false
set_option linter.unusedSimpArgs false


set_option maxRecDepth 100000 in
set_option maxHeartbeats 4000000 in
theorem pieces_any (v1 : Value) (V : Nat → Value) (ll : List (List Nat)) (w : World) (hv1 : RowsV v1 w V ll) (hl1 : ll.length ≤ maxLen) (hZ : ∀ (j : Nat) (bs : List Nat), ll[j]? = some bs → bs.length ≤ reachBytes) (hr : RootsAt w) :
    Calls Tryd.prog 4 #[v1] w fun e w' => e = .returned (.bool true) ∧ Below w.heap.size w w' := by
  have KB1 : Kept _ := ⟨hv1⟩
  obtain ⟨p1, c1, rfl, hc1, _, hrw⟩ := hv1
  have KR : Kept _ := ⟨hr⟩
  have KZ : Kept (∀ (j : Nat) (bs : List Nat), ll[j]? = some bs → bs.length ≤ 140737488355328) := ⟨fun j bs h => Nat.le_trans (hZ j bs h) (by decide)⟩
  have h0 := hr.1
  obtain ⟨n1, hn1⟩ : ∃ n, n = ll.length := ⟨_, rfl⟩
  rw [← hn1] at KB1 hl1
  have EN1 : Kept _ := ⟨hn1⟩
  have l1 : n1 < 9223372036854775808 := by unfold maxLen at hl1; omega
  rw [← hn1]
  obtain ⟨pre, hpre⟩ : ∃ pre : Nat → List Nat, ∀ i, pre i = (ll.take i).flatten := ⟨_, fun _ => rfl⟩
  have PP : Kept ((∀ i cs, ll[i]? = some cs → pre (i + 1) = pre i ++ cs) ∧ pre 0 = [] ∧ (∀ i, Bytes (pre i)) ∧ ∀ i, ∃ r, pre n1 = pre i ++ r ∨ n1 < i) := ⟨by
    refine ⟨fun i cs h => ?_, by rw [hpre]; rfl, fun i => ?_, fun i => ?_⟩
    · rw [hpre, hpre, List.take_add_one, h]
      simp
    · rw [hpre]
      intro j x hx
      obtain ⟨bs, hb, hx'⟩ := List.mem_flatten.1 (List.mem_of_getElem? hx)
      obtain ⟨k, hk, e⟩ := List.getElem_of_mem (List.mem_of_mem_take hb)
      obtain ⟨m, hm, e2⟩ := List.getElem_of_mem hx'
      exact (hrw k bs (by rw [List.getElem?_eq_getElem hk, e])).2.1 m x (by rw [List.getElem?_eq_getElem hm, e2])
    · refine ⟨(ll.drop i).flatten, .inl ?_⟩
      rw [hpre, hpre, hn1, List.take_length, ← List.flatten_append, List.take_append_drop]⟩
  clear hn1 hl1 hc1 hrw hpre hZ
  have hz0 := dgs_zero
  go_enter Tryd.func4, Tryd.ntmps4
  go_wp2_with fail
  refine (alive3_any w hr).mono ?_
  rintro e w1 ⟨rfl, hb1⟩
  have R1 : Kept (RootsAt w1) := ⟨KR.out.under hb1⟩
  have h1 : 0 < w1.heap.size := R1.out.1
  have B1 : Kept (RowsV (.slice p1 n1 c1) w1 V ll) := ⟨KB1.out.under hb1⟩
  clear hr KB1
  by_cases hbig : 1000 < n1
  · have hbig' : (1000 : Int) < (n1 : Int) := by omega
    go_wp2_with fail
    go_loopg [3, 18] n1 (fun m s3 s18 wr => ∃ (i : Nat) (s : Int), i + m = n1 ∧ s3 = .int .i64 s ∧ s18 = .int .i64 (i : Int) ∧ wr = w1)
    case atStart => exact ⟨0, 0, by omega, rfl, rfl, rfl⟩
    case round =>
      obtain ⟨i, s, hik, rfl, rfl, hwr⟩ := hrel
      obtain rfl := hwr.symm
      by_cases hk0 : gk = 0
      · obtain rfl : n1 = i := by omega
        clear hik hk0
        by_cases hs : (10000 : Int) < s
        · go_wp2_with fail
          go_ret
          exact ⟨rfl, hb1⟩
        · go_wp2_with fail
          go_ret
          exact ⟨rfl, hb1⟩
      · have BRW := B1.out
        have hlt : i < n1 := by omega
        have hlt' : (i : Int) < (n1 : Int) := by omega
        have i0 : (0 : Int) ≤ (i : Int) := by omega
        obtain ⟨p', c', e1, _, hcell, hrows⟩ := BRW
        obtain ⟨rfl, hq, rfl⟩ : p1 = p' ∧ n1 = ll.length ∧ c1 = c' := by simpa using e1
        obtain ⟨Ad, rfl, hblk, hcell⟩ := hcell (by intro e; have := EN1.out; rw [e] at this; simp at this; omega)
        have hci : w1.cell? (Ad.add i) = some (V i) := (hcell i (by have := EN1.out; omega))
        obtain ⟨cs, hcs⟩ : ∃ cs, ll[i]? = some cs := ⟨_, List.getElem?_eq_getElem (by have := EN1.out; omega)⟩
        obtain ⟨hVi, yVi, lVi⟩ := hrows i cs hcs
        have BV : Kept _ := ⟨hVi⟩
        have YV : Kept _ := ⟨yVi⟩
        obtain ⟨pi, ci, eV, _, _⟩ := hVi
        obtain ⟨li, hli⟩ : ∃ l, l = cs.length := ⟨_, rfl⟩
        have EL : Kept _ := ⟨hli⟩
        have ZC : Kept _ := ⟨KZ.out i cs hcs⟩
        have PS : Kept _ := ⟨PP.out.1 i cs hcs⟩
        rw [← hli] at eV lVi
        rw [eV] at hci BV
        have li63 : li < 9223372036854775808 := by unfold maxLen at lVi; omega
        clear hcell hrows hcs yVi hli eV lVi e1 hq
        go_wp2_with (first | ((with_reducible refine wv_elem (d := 21) ?hd ?hw 22 ag_bytes (.tmp 20) ?ho (Ad.add i) ?hx (.slice pi li ci) ?hg ?_); (case hd => rfl); (case hw => kernel_rfl); (case ho => rfl); (case hx => first | rfl | kernel_rfl); (case hg => exact hci); simp only [Act.put, List.setIfInBounds_toArray, List.set_cons_succ, List.set_cons_zero]))
        go_roundg (gk - 1)
        case measure => omega
        case rel => exact ⟨i + 1, _, by omega, rfl, by rfl, rfl⟩
  have hbig' : ¬ (1000 : Int) < (n1 : Int) := by omega
  have TB : Kept (∀ i, i ≤ n1 → (pre i).length ≤ i * 140737488355328) := ⟨fun i => by
    induction i with
    | zero => intro _; rw [PP.out.2.1]; simp
    | succ i ih =>
      intro hi
      have hil : i < ll.length := by have := EN1.out; omega
      have h2 := PP.out.1 i _ (List.getElem?_eq_getElem hil)
      have h3 := KZ.out i _ (List.getElem?_eq_getElem hil)
      rw [h2, List.length_append]
      have := ih (by omega)
      omega⟩
  go_wp2_with fail
  go_loopg [3, 18] n1 (fun m s3 s18 wr => ∃ i : Nat, i + m = n1 ∧ s3 = .int .i64 (((pre i).length : Nat) : Int) ∧ s18 = .int .i64 (i : Int) ∧ wr = w1)
  case atStart => exact ⟨0, by omega, by rw [PP.out.2.1]; rfl, rfl, rfl⟩
  case round =>
    obtain ⟨i, hik, rfl, rfl, hwr⟩ := hrel
    obtain rfl := hwr.symm
    by_cases hk0 : gk = 0
    case neg =>
      have BRW := B1.out
      have hlt : i < n1 := by omega
      have hlt' : (i : Int) < (n1 : Int) := by omega
      have i0 : (0 : Int) ≤ (i : Int) := by omega
      obtain ⟨p', c', e1, _, hcell, hrows⟩ := BRW
      obtain ⟨rfl, hq, rfl⟩ : p1 = p' ∧ n1 = ll.length ∧ c1 = c' := by simpa using e1
      obtain ⟨Ad, rfl, hblk, hcell⟩ := hcell (by intro e; have := EN1.out; rw [e] at this; simp at this; omega)
      have hci : w1.cell? (Ad.add i) = some (V i) := (hcell i (by have := EN1.out; omega))
      obtain ⟨cs, hcs⟩ : ∃ cs, ll[i]? = some cs := ⟨_, List.getElem?_eq_getElem (by have := EN1.out; omega)⟩
      obtain ⟨hVi, yVi, lVi⟩ := hrows i cs hcs
      have BV : Kept _ := ⟨hVi⟩
      have YV : Kept _ := ⟨yVi⟩
      obtain ⟨pi, ci, eV, _, _⟩ := hVi
      obtain ⟨li, hli⟩ : ∃ l, l = cs.length := ⟨_, rfl⟩
      have EL : Kept _ := ⟨hli⟩
      have ZC : Kept _ := ⟨KZ.out i cs hcs⟩
      have PS : Kept _ := ⟨PP.out.1 i cs hcs⟩
      rw [← hli] at eV lVi
      rw [eV] at hci BV
      have li63 : li < 9223372036854775808 := by unfold maxLen at lVi; omega
      clear hcell hrows hcs yVi hli eV lVi e1 hq
      have tb : Kept ((pre i).length + li < 4611686018427387904) := ⟨by have := TB.out i (by omega); have := ZC.out; have := EL.out; omega⟩
      go_wp2_with (first | ((with_reducible refine wv_elem (d := 21) ?hd ?hw 22 ag_bytes (.tmp 20) ?ho (Ad.add i) ?hx (.slice pi li ci) ?hg ?_); (case hd => rfl); (case hw => kernel_rfl); (case ho => rfl); (case hx => first | rfl | kernel_rfl); (case hg => exact hci); simp only [Act.put, List.setIfInBounds_toArray, List.set_cons_succ, List.set_cons_zero]) | ((with_reducible refine wv_val (d := 25) ?hd ?hw (.int .i64 (((pre i).length + li : Nat) : Int)) ?hr ?_); (case hd => rfl); (case hw => kernel_rfl); (case hr => intro w; exact run_addV rfl (by kernel_rfl) (by kernel_rfl) tb.out w); simp only [Act.put, List.setIfInBounds_toArray, List.set_cons_succ, List.set_cons_zero]))
      go_roundg (gk - 1)
      case measure => omega
      case rel => exact ⟨i + 1, by omega, by rw [PS.out, List.length_append, ← EL.out, Int.natCast_add], by rfl, rfl⟩
    obtain rfl : n1 = i := by omega
    clear hik hk0
    obtain ⟨tt, htt⟩ : ∃ t, t = (pre n1).length := ⟨_, rfl⟩
    rw [← htt]
    have ET : Kept _ := ⟨htt⟩
    have t62 : tt < 9223372036854775808 := by rw [htt]; have := TB.out n1 (Nat.le_refl _); omega
    clear htt
    by_cases hs : 10000 < tt
    · have hs' : (10000 : Int) < (tt : Int) := by omega
      go_wp2_with fail
      go_ret
      exact ⟨rfl, hb1⟩
    have hs' : ¬ (10000 : Int) < (tt : Int) := by omega
    have BT : Kept (∀ j, j ≤ n1 → (pre j).length ≤ 10000) := ⟨fun j hj => by
      obtain ⟨r, h | h⟩ := PP.out.2.2.2 j
      · have h2 : (pre n1).length = (pre j).length + r.length := by rw [h, List.length_append]
        have := ET.out
        omega
      · omega⟩
    clear TB
    go_wp2_with fail
    generalize hW : w1.alloc (.cells (dgs []) 32) = W2
    obtain ⟨g, hg⟩ : ∃ g, g = w1.heap.size := ⟨_, rfl⟩
    have A0 : Blk W2 g 32 (dgs (pre 0)) := by subst hW; rw [PP.out.2.1, hg]; exact blk_new _ _ _
    have QB : Below w1.heap.size w1 W2 := by subst hW; exact (Below.refl _ _).alloc (Nat.le_refl _) _
    have W2s : g + 1 ≤ W2.heap.size := by subst hW; rw [hg]; simp
    rw [← hg]
    have GE : Kept (w1.heap.size ≤ g ∧ g ≤ w1.heap.size) := ⟨by omega⟩
    clear hW hz0 hg
    go_loopg [7, 8, 36] n1 (fun m s7 s8 s36 wr => ∃ i : Nat, i + m = n1 ∧ s36 = .int .i64 (i : Int) ∧ Kept (Below w1.heap.size w1 wr ∧ g + 1 ≤ wr.heap.size ∧ Blk wr g 32 (dgs (pre i)) ∧ Row (g + 1) 5 .u8 (pre i) s7 wr ∧ DRow (g + 1) ((List.range i).map pre) s8 wr ∧ ∀ b, blkOf s7 = some b → blkOf s8 ≠ some b))
    case atStart => exact ⟨0, by omega, rfl, ⟨⟨QB, W2s, A0, by rw [PP.out.2.1]; exact row_nil _ _ _ _, drow_nil _ _, fun b hb => by cases hb⟩⟩⟩
    case round =>
      clear A0 QB W2s
      obtain ⟨i, hik, rfl, KK⟩ := hrel
      obtain ⟨HB, WS, A0, R7, D8, N78⟩ := KK.out
      clear KK
      by_cases hk0 : gk = 0
      case neg =>
        have BRW := B1.out
        have hlt : i < n1 := by omega
        have hlt' : (i : Int) < (n1 : Int) := by omega
        have i0 : (0 : Int) ≤ (i : Int) := by omega
        obtain ⟨p', c', e1, _, hcell, hrows⟩ := BRW
        obtain ⟨rfl, hq, rfl⟩ : p1 = p' ∧ n1 = ll.length ∧ c1 = c' := by simpa using e1
        obtain ⟨Ad, rfl, hblk, hcell⟩ := hcell (by intro e; have := EN1.out; rw [e] at this; simp at this; omega)
        have hci : wr.cell? (Ad.add i) = some (V i) := (HB.cell (by rw [add_block]; exact hblk)).trans (hcell i (by have := EN1.out; omega))
        obtain ⟨cs, hcs⟩ : ∃ cs, ll[i]? = some cs := ⟨_, List.getElem?_eq_getElem (by have := EN1.out; omega)⟩
        obtain ⟨hVi, yVi, lVi⟩ := hrows i cs hcs
        have BV : Kept _ := ⟨hVi⟩
        have YV : Kept _ := ⟨yVi⟩
        obtain ⟨pi, ci, eV, _, _⟩ := hVi
        obtain ⟨li, hli⟩ : ∃ l, l = cs.length := ⟨_, rfl⟩
        have EL : Kept _ := ⟨hli⟩
        have ZC : Kept _ := ⟨KZ.out i cs hcs⟩
        have PS : Kept _ := ⟨PP.out.1 i cs hcs⟩
        rw [← hli] at eV lVi
        rw [eV] at hci BV
        have li63 : li < 9223372036854775808 := by unfold maxLen at lVi; omega
        clear hcell hrows hcs yVi hli eV lVi e1 hq
        have lt1000 : i < 1000 := by omega
        have K7 : Kept _ := ⟨R7⟩
        have K8 : Kept _ := ⟨D8⟩
        have KN : Kept _ := ⟨N78⟩
        have YP : Kept (Bytes (pre i)) := ⟨PP.out.2.2.1 i⟩
        have SZ : Kept ((dgs (pre i)).size = 73) := ⟨dgs_size YP.out⟩
        have LP : Kept ((pre i).length ≤ 10000) := ⟨BT.out i (by omega)⟩
        have LP2 : Kept ((pre (i + 1)).length ≤ 10000) := ⟨BT.out (i + 1) (by omega)⟩
        clear R7 D8 N78
        go_wp2_with (first | ((with_reducible refine wv_elem (d := 39) ?hd ?hw 22 ag_bytes (.tmp 38) ?ho (Ad.add i) ?hx (.slice pi li ci) ?hg ?_); (case hd => rfl); (case hw => kernel_rfl); (case ho => rfl); (case hx => first | rfl | kernel_rfl); (case hg => exact hci); simp only [Act.put, List.setIfInBounds_toArray, List.set_cons_succ, List.set_cons_zero]) | ((with_reducible refine wv_rowS (d := 41) ?hd ?hw 32 (.tmp 6) ?ho (g) ?hx (t' := 32) (dgs (pre i)) _ Tryd.underlying32 ?hs ?hg ?_); (case hd => rfl); (case hw => kernel_rfl); (case ho => rfl); (case hx => kernel_rfl); (case hs => rw [SZ.out]; exact dig_info); (case hg => exact A0); simp only [Act.put, List.setIfInBounds_toArray, List.set_cons_succ, List.set_cons_zero]) | (refine wl_build1 rfl 37 32 (.tmp 41) rfl (dgs (pre i)) rfl Tryd.underlying37 (by rw [SZ.out]; exact dig_info) dig_zero (by rw [SZ.out]; decide) (by rw [SZ.out]; decide) ?_) | (refine wl_appD rfl (.tmp 40) (.tmp 42) rfl (g + 1) ((List.range i).map pre) (pre i) _ wr.heap.size rfl rfl (K8.out.alloc _) (blk_new wr _ _) YP.out (by simp; omega) (by simp; omega) ?_))
        intro v8 w3 D3 G3 E3
        have HB3 : Below (g + 1) wr w3 := ((Below.refl _ _).alloc WS _).trans (grown_mono G3 (by simp; omega) (fun b hb => (K8.out.range b hb).1))
        have A3 : Blk w3 g 32 (dgs (pre i)) := A0.below HB3 (by omega)
        have R3 := (K7.out.alloc (.cells (dgs (pre i)) 32)).keeps G3 (by
          cases h : blkOf u7 with
          | none => exact .inl rfl
          | some b => exact .inr fun e => KN.out b h e.symm)
        have N3 : ∀ b, blkOf u7 = some b → blkOf v8 ≠ some b := fun b hb e => by
          rcases E3 with h | h
          · exact KN.out b hb (by rw [← h]; exact e)
          · rw [e] at h
            have := (K7.out.range b hb).2
            simp at h
            omega
        have D3 : Kept (DRow (g + 1) ((List.range (i + 1)).map pre) v8 w3) := ⟨by rw [List.range_succ, List.map_append]; exact D3⟩
        have K3 : Kept _ := ⟨R3⟩
        have KN3 : Kept _ := ⟨N3⟩
        have HG3 : Below w1.heap.size w1 w3 := HB.trans (HB3.mono (by have := GE.out; omega))
        have s3 : g + 1 ≤ w3.heap.size := Nat.le_trans WS HB3.size
        clear A0 K7 K8 KN G3 E3 R3 N3 HB HB3 WS
        have LC : Kept ((pre i).length + cs.length < 1000000000) := ⟨by have := LP2.out; rw [PS.out, List.length_append] at this; omega⟩
        go_wp2_with (first | ((with_reducible refine wv_rowS (d := 44) ?hd ?hw 32 (.tmp 6) ?ho (g) ?hx (t' := 32) (dgs (pre i)) _ Tryd.underlying32 ?hs ?hg ?_); (case hd => rfl); (case hw => kernel_rfl); (case ho => rfl); (case hx => kernel_rfl); (case hs => rw [SZ.out]; exact dig_info); (case hg => exact A3); simp only [Act.put, List.setIfInBounds_toArray, List.set_cons_succ, List.set_cons_zero]))
        refine (cWrite YP.out YV.out LC.out (R1.out.under HG3) (BV.out.under HG3)).mono ?_
        rintro e w4 ⟨rfl, hb4⟩
        have YQ : Kept (Bytes (pre i ++ cs)) := ⟨YP.out.append YV.out⟩
        have SQ : Kept ((dgs (pre i ++ cs)).size = 73) := ⟨dgs_size YQ.out⟩
        have A4 := A3.under hb4
        have HG4 := HG3.trans (hb4.mono HG3.size)
        have K4 : Kept _ := ⟨K3.out.under hb4⟩
        have D4 : Kept _ := ⟨D3.out.under hb4⟩
        have s4 : g + 1 ≤ w4.heap.size := Nat.le_trans s3 hb4.size
        have v8lt : ∀ b, blkOf v8 = some b → b < w4.heap.size := fun b hb => (D4.out.range b hb).2
        clear A3 HG3 K3 D3 s3 hb4
        have KV : Kept _ := ⟨v8lt⟩
        clear v8lt
        go_wp2_with (first | (refine wl_store rfl 32 (.tmp 6) (.tmp 46) rfl g (dgs (pre i ++ cs)) rfl rfl _ A4 (by rw [SQ.out]; exact dig_info) (by rw [SQ.out, SZ.out]) (dgs_one _) ?_))
        intro w5 A5 P5
        have K5 : Kept _ := ⟨K4.out.keeps P5.grown (ne_of_range (fun b hb => (K4.out.range b hb).1) (Nat.lt_succ_self g))⟩
        have D5 : Kept _ := ⟨D4.out.keeps P5.grown (ne_of_range (fun b hb => (D4.out.range b hb).1) (Nat.lt_succ_self g))⟩
        have HG5 := HG4.trans (P5.below (by have := GE.out; omega))
        have s5 : g + 1 ≤ w5.heap.size := Nat.le_trans s4 P5.grown.size
        have KV5 : Kept (∀ b, blkOf v8 = some b → b < w5.heap.size) := ⟨fun b hb => Nat.lt_of_lt_of_le (KV.out b hb) P5.grown.size⟩
        clear A4 K4 D4 HG4 s4 KV P5
        have B5 : Kept _ := ⟨BV.out.under HG5⟩
        have LD : Kept ((pre i).length + cs.length ≤ 8796093022208) := ⟨by have := LC.out; omega⟩
        go_wp2_with (first | (refine wl_app (by kernel_rfl) (.tmp 47) (.tmp 48) 22 5 .u8 1 rfl Tryd.underlying22 inf_u8 (by decide) (g + 1) (pre i) (cs) (u7) (.slice pi li ci) (by kernel_rfl) (by kernel_rfl) K5.out B5.out LD.out s5 ?_))
        intro v7 w6 R6 G6 E6
        have HB6 : Below (g + 1) w5 w6 := grown_mono G6 s5 (fun b hb => (K5.out.range b hb).1)
        have A6 := A5.below HB6 (Nat.lt_succ_self g)
        have D6 : Kept _ := ⟨D5.out.keeps G6 (by
          cases h : blkOf v8 with
          | none => exact .inl rfl
          | some b => exact .inr fun e => KN3.out b e.symm h)⟩
        have N6 : Kept (∀ b, blkOf v7 = some b → blkOf v8 ≠ some b) := ⟨fun b hb e => by
          rcases E6 with h | h
          · exact KN3.out b (by rw [← h]; exact hb) e
          · rw [hb] at h
            have h2 := KV5.out b e
            simp at h
            omega⟩
        have R6 : Kept _ := ⟨R6⟩
        have HG6 := HG5.trans (HB6.mono (by have := GE.out; omega))
        have s6 : g + 1 ≤ w6.heap.size := Nat.le_trans s5 G6.size
        clear A5 K5 D5 HG5 s5 KV5 B5 G6 E6 HB6 KN3
        have LQ : Kept ((pre i ++ cs).length < 1000000000) := ⟨by rw [List.length_append]; exact LC.out⟩
        go_wp2_with (first | ((with_reducible refine wv_rowS (d := 50) ?hd ?hw 32 (.tmp 6) ?ho (g) ?hx (t' := 32) (dgs (pre i ++ cs)) _ Tryd.underlying32 ?hs ?hg ?_); (case hd => rfl); (case hw => kernel_rfl); (case ho => rfl); (case hx => kernel_rfl); (case hs => rw [SQ.out]; exact dig_info); (case hg => exact A6); simp only [Act.put, List.setIfInBounds_toArray, List.set_cons_succ, List.set_cons_zero]))
        refine (cDSum YQ.out LQ.out (R1.out.under HG6)).mono ?_
        rintro e w7 ⟨rfl, hb7⟩
        have A7 := A6.under hb7
        have HG7 := HG6.trans (hb7.mono HG6.size)
        have R7 : Kept _ := ⟨R6.out.under hb7⟩
        have D7 : Kept _ := ⟨D6.out.under hb7⟩
        have s7 : g + 1 ≤ w7.heap.size := Nat.le_trans s6 hb7.size
        clear A6 HG6 R6 D6 s6 hb7
        go_wp2_with fail
        refine (cSum YQ.out LQ.out (R1.out.under HG7) (row_bytes R7.out)).mono ?_
        rintro e w8 ⟨rfl, hb8⟩
        have A8 := A7.under hb8
        have HG8 := HG7.trans (hb8.mono HG7.size)
        have R8 : Kept _ := ⟨R7.out.under hb8⟩
        have D8 : Kept _ := ⟨D7.out.under hb8⟩
        have s8 : g + 1 ≤ w8.heap.size := Nat.le_trans s7 hb8.size
        clear A7 HG7 R7 D7 s7 hb8
        go_wp2_with (first | ((with_reducible refine wv_val (d := 54) ?hd ?hw (.bool false) ?hr ?_); (case hd => rfl); (case hw => kernel_rfl); (case hr => intro w; rw [run_neq_row (sumL (pre i ++ cs)) (sumL (pre i ++ cs)) rfl (by kernel_rfl) (by kernel_rfl) (sumL_len _) (sumL_len _) Tryd.underlying24 Tryd.underlying5 sz_u8 ag_u8 eg32]; rw [decide_eq_true rfl]; rfl); simp only [Act.put, List.setIfInBounds_toArray, List.set_cons_succ, List.set_cons_zero]))
        go_roundg (gk - 1)
        case measure => omega
        case rel => exact ⟨i + 1, by omega, by rfl, ⟨⟨HG8, s8, by rw [PS.out]; exact A8, by rw [PS.out]; exact R8.out, D8.out, N6.out⟩⟩⟩
      obtain rfl : n1 = i := by omega
      clear hik hk0 N78 A0 WS
      have K7 : Kept _ := ⟨row_cells R7⟩
      have K8 : Kept _ := ⟨D8⟩
      clear R7 D8
      obtain ⟨p7, c7, hs7, hc7, _⟩ := K7.out
      obtain ⟨l7, hl7⟩ : ∃ l, l = (pre n1).length := ⟨_, rfl⟩
      rw [← hl7] at hs7 hc7
      have E7 : Kept _ := ⟨hl7⟩
      subst hs7
      clear hl7
      go_wp2_with fail
      rename World => wz
      go_loopg [11, 58] n1 (fun m s11 s58 wq => ∃ i : Nat, i + m = n1 ∧ s11 = .int .i64 (((pre i).length : Nat) : Int) ∧ s58 = .int .i64 (i : Int) ∧ Kept (Below wz.heap.size wz wq))
      case atStart => exact ⟨0, by omega, by rw [PP.out.2.1]; rfl, rfl, ⟨Below.refl _ _⟩⟩
      case round =>
        obtain ⟨i, hik, rfl, rfl, KH⟩ := hrel
        have HQ := KH.out
        have HB1 := HB.trans (HQ.mono HB.size)
        clear KH
        by_cases hk0 : gk = 0
        · obtain rfl : n1 = i := by omega
          clear hik hk0
          go_wp2_with fail
          go_ret
          exact ⟨rfl, hb1.trans (HB1.mono hb1.size)⟩
        have BRW := B1.out
        have hlt : i < n1 := by omega
        have hlt' : (i : Int) < (n1 : Int) := by omega
        have i0 : (0 : Int) ≤ (i : Int) := by omega
        obtain ⟨p', c', e1, _, hcell, hrows⟩ := BRW
        obtain ⟨rfl, hq, rfl⟩ : p1 = p' ∧ n1 = ll.length ∧ c1 = c' := by simpa using e1
        obtain ⟨Ad, rfl, hblk, hcell⟩ := hcell (by intro e; have := EN1.out; rw [e] at this; simp at this; omega)
        have hci : wr.cell? (Ad.add i) = some (V i) := (HB1.cell (by rw [add_block]; exact hblk)).trans (hcell i (by have := EN1.out; omega))
        obtain ⟨cs, hcs⟩ : ∃ cs, ll[i]? = some cs := ⟨_, List.getElem?_eq_getElem (by have := EN1.out; omega)⟩
        obtain ⟨hVi, yVi, lVi⟩ := hrows i cs hcs
        have BV : Kept _ := ⟨hVi⟩
        have YV : Kept _ := ⟨yVi⟩
        obtain ⟨pi, ci, eV, _, _⟩ := hVi
        obtain ⟨li, hli⟩ : ∃ l, l = cs.length := ⟨_, rfl⟩
        have EL : Kept _ := ⟨hli⟩
        have ZC : Kept _ := ⟨KZ.out i cs hcs⟩
        have PS : Kept _ := ⟨PP.out.1 i cs hcs⟩
        rw [← hli] at eV lVi
        rw [eV] at hci BV
        have li63 : li < 9223372036854775808 := by unfold maxLen at lVi; omega
        clear hcell hrows hcs yVi hli eV lVi e1 hq
        obtain ⟨g8, c8, cur, e8, A8, C8⟩ := (K8.out.under HQ).form (by simp; omega) (fun b hb => by obtain ⟨k, _, rfl⟩ := List.mem_map.1 hb; exact PP.out.2.2.1 k)
        have C8 : Kept _ := ⟨C8 i (pre i) (by simp [hlt])⟩
        obtain ⟨m8, hm8⟩ : ∃ m, m = ((List.range n1).map pre).length := ⟨_, rfl⟩
        rw [← hm8] at e8
        have hlm : i < m8 := by rw [hm8]; simpa using hlt
        subst e8
        clear hm8
        obtain ⟨r, hr⟩ : ∃ r, pre n1 = pre i ++ r := by
          obtain ⟨r, h | h⟩ := PP.out.2.2.2 i
          · exact ⟨r, h⟩
          · omega
        have hatl : (pre i).length ≤ l7 := by rw [E7.out, hr, List.length_append]; omega
        have hatc : (pre i).length ≤ c7 := by omega
        have hr : Kept _ := ⟨hr⟩
        obtain ⟨q7, hq7⟩ : ∃ q, q = if c7 = (pre i).length then p7 else p7.map (·.add (pre i).length) := ⟨_, rfl⟩
        have EQ7 : Kept _ := ⟨hq7⟩
        clear hq7
        have SZ : Kept ((dgs (pre i)).size = 73) := ⟨dgs_size (PP.out.2.2.1 i)⟩
        have LI : Kept ((pre i).length < 1000000000) := ⟨by have := BT.out i (by omega); omega⟩
        have LN : Kept ((pre n1).length < 1000000000) := ⟨by have := BT.out n1 (by omega); omega⟩
        have V7 : Kept (BytesV (.slice p7 l7 c7) wr (pre n1)) := ⟨BytesV.under K7.out HQ⟩
        have V70 : Kept (BytesV (.slice p7 (pre i).length c7) wr (pre i)) := ⟨by
          have h := IntsV.take (m := (pre i).length) V7.out (by rw [hr.out, List.length_append]; omega)
          rw [hr.out, List.take_left] at h
          exact h⟩
        have V80 : Kept (BytesV (.slice q7 (l7 - (pre i).length) (c7 - (pre i).length)) wr r) := ⟨by
          have hv := V7.out
          rw [E7.out] at hv
          have h := hv.cut (k := (pre i).length) (by rw [hr.out, List.length_append]; omega)
          rw [← EQ7.out, ← E7.out, hr.out, List.drop_left] at h
          exact h⟩
        have YR : Kept (Bytes r) := ⟨fun j x hx => PP.out.2.2.1 n1 ((pre i).length + j) x (by rw [hr.out, List.getElem?_append_right (by omega), Nat.add_sub_cancel_left]; exact hx)⟩
        have RR : ∀ w', Below wr.heap.size wr w' → RootsAt w' := fun w' hb => (R1.out.under HB1).under hb
        have K1 : Kept (∀ w', Below wr.heap.size wr w' → Calls Tryd.prog 12 [.agg (dgs (pre i))].toArray w' fun e w2 => e = .returned (.agg (ints .u8 (sumL (pre i)))) ∧ Below w'.heap.size w' w2) := ⟨fun w' hb => cDSum (PP.out.2.2.1 i) LI.out (RR w' hb)⟩
        have K2 : Kept (∀ w', Below wr.heap.size wr w' → Calls Tryd.prog 9 [.slice p7 (pre i).length c7].toArray w' fun e w2 => e = .returned (.agg (ints .u8 (sumL (pre i)))) ∧ Below w'.heap.size w' w2) := ⟨fun w' hb => cSum (PP.out.2.2.1 i) LI.out (RR w' hb) (V70.out.under hb)⟩
        have K3 : Kept (∀ w', Below wr.heap.size wr w' → Calls Tryd.prog 11 [.agg (dgs (pre i)), .slice q7 (l7 - (pre i).length) (c7 - (pre i).length)].toArray w' fun e w2 => e = .returned (.agg (dgs (pre n1))) ∧ Below w'.heap.size w' w2) := ⟨fun w' hb => by
          have hl := LN.out
          rw [hr.out, List.length_append] at hl
          rw [hr.out]
          exact cWrite (PP.out.2.2.1 i) YR.out hl (RR w' hb) (V80.out.under hb)⟩
        have K4 : Kept (∀ w', Below wr.heap.size wr w' → Calls Tryd.prog 12 [.agg (dgs (pre n1))].toArray w' fun e w2 => e = .returned (.agg (ints .u8 (sumL (pre n1)))) ∧ Below w'.heap.size w' w2) := ⟨fun w' hb => cDSum (PP.out.2.2.1 n1) LN.out (RR w' hb)⟩
        have K5 : Kept (∀ w', Below wr.heap.size wr w' → Calls Tryd.prog 9 [.slice p7 l7 c7].toArray w' fun e w2 => e = .returned (.agg (ints .u8 (sumL (pre n1)))) ∧ Below w'.heap.size w' w2) := ⟨fun w' hb => cSum (PP.out.2.2.1 n1) LN.out (RR w' hb) (V7.out.under hb)⟩
        clear RR
        go_wp2_with (first | ((with_reducible refine wv_elem (d := 62) ?hd ?hw 22 ag_bytes (.tmp 61) ?ho (Ad.add i) ?hx (.slice pi li ci) ?hg ?_); (case hd => rfl); (case hw => kernel_rfl); (case ho => rfl); (case hx => first | rfl | kernel_rfl); (case hg => exact hci); simp only [Act.put, List.setIfInBounds_toArray, List.set_cons_succ, List.set_cons_zero]))
        refine region_ownL wr 24 [(63, .slice (some ⟨g8, 0, none⟩) m8 c8), (64, .int .i64 (i : Int)), (65, .pointer (some ⟨g8, i * 73, none⟩)), (66, .agg (dgs (pre i))), (67, .agg (ints .u8 (sumL (pre i)))), (68, .slice p7 l7 c7), (69, .int .i64 (((pre i).length : Nat) : Int)), (70, .slice p7 (pre i).length c7), (71, .agg (ints .u8 (sumL (pre i)))), (72, .bool false), (73, .bool false), (74, .slice (some ⟨g8, 0, none⟩) m8 c8), (75, .int .i64 (i : Int)), (76, .pointer (some ⟨g8, i * 73, none⟩)), (77, .agg (dgs (pre i))), (78, .slice p7 l7 c7), (79, .int .i64 (((pre i).length : Nat) : Int)), (80, .slice q7 (l7 - (pre i).length) (c7 - (pre i).length)), (81, .agg (dgs (pre n1))), (82, .agg (ints .u8 (sumL (pre n1)))), (83, .slice p7 l7 c7), (84, .agg (ints .u8 (sumL (pre n1)))), (85, .bool false), (86, .bool false)] [] [] [] rfl (by kernel_rfl) (by kernel_rfl) (by kernel_rfl) (by kernel_rfl) (by kernel_rfl) (by kernel_rfl) (by kernel_rfl) (by kernel_rfl) (by kernel_rfl) (by kernel_rfl) (by kernel_rfl) ?hst1 ?hst2 (Below.refl _ _) (fun hA => ⟨ow_val hA (wants_none rfl) 63 (.slice (some ⟨g8, 0, none⟩) m8 c8) (by kernel_rfl) rfl rfl rfl rfl (by kernel_rfl) (fun w => by kernel_rfl), ow_val hA (wants_none rfl) 64 (.int .i64 (i : Int)) (by kernel_rfl) rfl rfl rfl rfl (by kernel_rfl) (fun w => by kernel_rfl), ow_val hA (wants_none rfl) 65 (.pointer (some ⟨g8, i * 73, none⟩)) (by kernel_rfl) rfl rfl rfl rfl (by kernel_rfl) (fun w => run_idxD (c := c8) rfl (by kernel_rfl) (by kernel_rfl) hlm w), ow_partS hA (wants_none rfl) 66 (.agg (dgs (pre i))) (by kernel_rfl) rfl rfl rfl rfl (by kernel_rfl) 32 (.tmp 65) rfl g8 (i * 73) (by kernel_rfl) 32 cur (dgs (pre i)) _ Tryd.underlying32 (by rw [SZ.out]; exact dig_info) (fun w1 hb => Blk.under A8 hb) C8.out rfl, ow_calld hA (wants_none rfl) 67 (.agg (ints .u8 (sumL (pre i)))) (by kernel_rfl) rfl rfl rfl rfl (by kernel_rfl) 12 Tryd.f12 _ [.tmp 66] _ [.agg (dgs (pre i))] rfl (by kernel_rfl) Tryd.func12 (by kernel_rfl) rfl (fun w3 hb => K1.out w3 hb), ow_val hA (wants_none rfl) 68 (.slice p7 l7 c7) (by kernel_rfl) rfl rfl rfl rfl (by kernel_rfl) (fun w => by kernel_rfl), ow_val hA (wants_none rfl) 69 (.int .i64 (((pre i).length : Nat) : Int)) (by kernel_rfl) rfl rfl rfl rfl (by kernel_rfl) (fun w => by kernel_rfl), ow_val hA (wants_none rfl) 70 (.slice p7 (pre i).length c7) (by kernel_rfl) rfl rfl rfl rfl (by kernel_rfl) (fun w => cutTo_run (l := l7) rfl (by kernel_rfl) (by kernel_rfl) Tryd.underlying22 sz_u8 hatc w), ow_calld hA (wants_none rfl) 71 (.agg (ints .u8 (sumL (pre i)))) (by kernel_rfl) rfl rfl rfl rfl (by kernel_rfl) 9 Tryd.f9 _ [.tmp 70] _ [.slice p7 (pre i).length c7] rfl (by kernel_rfl) Tryd.func9 (by kernel_rfl) rfl (fun w3 hb => K2.out w3 hb), ow_val hA (wants_none rfl) 72 (.bool false) (by kernel_rfl) rfl rfl rfl rfl (by kernel_rfl) (fun w => by rw [run_neq_row (sumL (pre i)) (sumL (pre i)) rfl (by kernel_rfl) (by kernel_rfl) (sumL_len _) (sumL_len _) Tryd.underlying24 Tryd.underlying5 sz_u8 ag_u8 eg32]; rw [decide_eq_true rfl]; rfl), ow_val hA (wants_none rfl) 73 (.bool false) (by kernel_rfl) rfl rfl rfl rfl (by kernel_rfl) (fun w => by kernel_rfl), ow_val hA (wants_at hA 10 false 73 rfl rfl (by kernel_rfl) rfl rfl (by kernel_rfl)) 74 (.slice (some ⟨g8, 0, none⟩) m8 c8) (by kernel_rfl) rfl rfl rfl rfl (by kernel_rfl) (fun w => by kernel_rfl), ow_val hA (wants_at hA 10 false 73 rfl rfl (by kernel_rfl) rfl rfl (by kernel_rfl)) 75 (.int .i64 (i : Int)) (by kernel_rfl) rfl rfl rfl rfl (by kernel_rfl) (fun w => by kernel_rfl), ow_val hA (wants_at hA 10 false 73 rfl rfl (by kernel_rfl) rfl rfl (by kernel_rfl)) 76 (.pointer (some ⟨g8, i * 73, none⟩)) (by kernel_rfl) rfl rfl rfl rfl (by kernel_rfl) (fun w => run_idxD (c := c8) rfl (by kernel_rfl) (by kernel_rfl) hlm w), ow_partS hA (wants_at hA 10 false 73 rfl rfl (by kernel_rfl) rfl rfl (by kernel_rfl)) 77 (.agg (dgs (pre i))) (by kernel_rfl) rfl rfl rfl rfl (by kernel_rfl) 32 (.tmp 76) rfl g8 (i * 73) (by kernel_rfl) 32 cur (dgs (pre i)) _ Tryd.underlying32 (by rw [SZ.out]; exact dig_info) (fun w1 hb => Blk.under A8 hb) C8.out rfl, ow_val hA (wants_at hA 10 false 73 rfl rfl (by kernel_rfl) rfl rfl (by kernel_rfl)) 78 (.slice p7 l7 c7) (by kernel_rfl) rfl rfl rfl rfl (by kernel_rfl) (fun w => by kernel_rfl), ow_val hA (wants_at hA 10 false 73 rfl rfl (by kernel_rfl) rfl rfl (by kernel_rfl)) 79 (.int .i64 (((pre i).length : Nat) : Int)) (by kernel_rfl) rfl rfl rfl rfl (by kernel_rfl) (fun w => by kernel_rfl), ow_val hA (wants_at hA 10 false 73 rfl rfl (by kernel_rfl) rfl rfl (by kernel_rfl)) 80 (.slice q7 (l7 - (pre i).length) (c7 - (pre i).length)) (by kernel_rfl) rfl rfl rfl rfl (by kernel_rfl) (fun w => by rw [EQ7.out]; exact cut_run rfl (by kernel_rfl) (by kernel_rfl) Tryd.underlying22 sz_u8 hatl w), ow_calld hA (wants_at hA 10 false 73 rfl rfl (by kernel_rfl) rfl rfl (by kernel_rfl)) 81 (.agg (dgs (pre n1))) (by kernel_rfl) rfl rfl rfl rfl (by kernel_rfl) 11 Tryd.f11 _ [.tmp 77, .tmp 80] _ [.agg (dgs (pre i)), .slice q7 (l7 - (pre i).length) (c7 - (pre i).length)] rfl (by kernel_rfl) Tryd.func11 (by kernel_rfl) rfl (fun w3 hb => K3.out w3 hb), ow_calld hA (wants_at hA 10 false 73 rfl rfl (by kernel_rfl) rfl rfl (by kernel_rfl)) 82 (.agg (ints .u8 (sumL (pre n1)))) (by kernel_rfl) rfl rfl rfl rfl (by kernel_rfl) 12 Tryd.f12 _ [.tmp 81] _ [.agg (dgs (pre n1))] rfl (by kernel_rfl) Tryd.func12 (by kernel_rfl) rfl (fun w3 hb => K4.out w3 hb), ow_val hA (wants_at hA 10 false 73 rfl rfl (by kernel_rfl) rfl rfl (by kernel_rfl)) 83 (.slice p7 l7 c7) (by kernel_rfl) rfl rfl rfl rfl (by kernel_rfl) (fun w => by kernel_rfl), ow_calld hA (wants_at hA 10 false 73 rfl rfl (by kernel_rfl) rfl rfl (by kernel_rfl)) 84 (.agg (ints .u8 (sumL (pre n1)))) (by kernel_rfl) rfl rfl rfl rfl (by kernel_rfl) 9 Tryd.f9 _ [.tmp 83] _ [.slice p7 l7 c7] rfl (by kernel_rfl) Tryd.func9 (by kernel_rfl) rfl (fun w3 hb => K5.out w3 hb), ow_val hA (wants_at hA 10 false 73 rfl rfl (by kernel_rfl) rfl rfl (by kernel_rfl)) 85 (.bool false) (by kernel_rfl) rfl rfl rfl rfl (by kernel_rfl) (fun w => by rw [run_neq_row (sumL (pre n1)) (sumL (pre n1)) rfl (by kernel_rfl) (by kernel_rfl) (sumL_len _) (sumL_len _) Tryd.underlying24 Tryd.underlying5 sz_u8 ag_u8 eg32]; rw [decide_eq_true rfl]; rfl), ow_val hA (wants_none rfl) 86 (.bool false) (by kernel_rfl) rfl rfl rfl rfl (by kernel_rfl) (fun w => by kernel_rfl), trivial⟩) ?_
        case hst1 => intro q hq; cases hq
        case hst2 => intro q hq; cases hq
        intro fv w3 hf hD hb3
        simp only [putR, List.foldl_cons, List.foldl_nil, List.map_cons, List.map_nil, Act.put, List.setIfInBounds_toArray, List.set_cons_succ, List.set_cons_zero]
        simp only [List.drop_succ_cons, List.drop_zero, List.drop_nil]
        have HQ3 := HQ.trans (hb3.mono HQ.size)
        have tb : Kept ((pre i).length + li < 4611686018427387904) := ⟨by have := LI.out; have := ZC.out; have := EL.out; omega⟩
        clear hf hD K1 K2 K3 K4 K5 V7 V70 V80 A8 C8 HQ HB1 hb3
        go_wp2_with (first | ((with_reducible refine wv_val (d := 90) ?hd ?hw (.int .i64 (((pre i).length + li : Nat) : Int)) ?hr ?_); (case hd => rfl); (case hw => kernel_rfl); (case hr => intro w; exact run_addV rfl (by kernel_rfl) (by kernel_rfl) tb.out w); simp only [Act.put, List.setIfInBounds_toArray, List.set_cons_succ, List.set_cons_zero]))
        go_roundg (gk - 1)
        case measure => omega
        case rel => exact ⟨i + 1, by omega, by rw [PS.out, List.length_append, ← EL.out, Int.natCast_add], by rfl, ⟨HQ3⟩⟩
end Go.Proofs.YtghinfdmkiaaiaaDoor.sh
