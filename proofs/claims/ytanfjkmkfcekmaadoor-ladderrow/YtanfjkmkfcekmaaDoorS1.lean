/-
  What limb.Swap answers.
-/
import Derived.Test.YtanfjkmkfcekmaaDoorNum
import Derived.Deep.RegionWith
namespace Go.Proofs.YtanfjkmkfcekmaaDoor
open Go.RowKit
set_option linter.unusedSimpArgs false
set_option linter.unusedVariables false

theorem ret_two_num {f : Func} {p q : Tmp} (h : f.results = #[.cell p 22, .cell q 22]) (tmps : Array Value) (w : World) (g k n m : Nat) (hp : tmps.getD p undef = .pointer (some ⟨g, 0, none⟩)) (hq : tmps.getD q undef = .pointer (some ⟨k, 0, none⟩)) (hg : At w g n) (hk : At w k m) : (results f tmps).run Tryd.prog w = .ok (.tuple #[.agg (numA n), .agg (numA m)]) w := by
  have hp' : tmps[p]?.getD undef = .pointer (some ⟨g, 0, none⟩) := by simpa using hp
  have hq' : tmps[q]?.getD undef = .pointer (some ⟨k, 0, none⟩) := by simpa using hq
  simp [results, h, hp', hq', asAddr, run_loadVar_row w g 22 22 (numA n) (0, 0) _ hg Tryd.underlying22 rfl (by rw [numA_size]; kernel_rfl), run_loadVar_row w k 22 22 (numA m) (0, 0) _ hk Tryd.underlying22 rfl (by rw [numA_size]; kernel_rfl)]

/-- One operation of a region whose order is drawn: a number is read. -/
theorem ar_get {md : Region.Mode} {ops : Array Oper} {Q : Exit → Act → World → Prop} {fuel : Nat} {listed : Array Bool} {a : Act} {w : World} {i : Nat} {o : Oper} {rs : List Nat} (ho : ops[i]? = some o) (hw : Region.wanted o (yielded ops a.tmps) = true)
    (x : Operand) (hop : o.op = .load 22 x) (g n : Nat) (hx : a.eval x = .pointer (some ⟨g, 0, none⟩)) (hg : At w g n)
    (h : wpAny Tryd.prog md ops Q fuel (listed.setIfInBounds i true) (a.put o.dst (.agg (numA n))) w) (hs : AllReady Tryd.prog md ops Q fuel listed a w rs) : AllReady Tryd.prog md ops Q fuel listed a w (i :: rs) :=
  AllReady.cons ho (fun K hK => by
    rw [if_pos hw]
    exact wp_load_row 22 x hop g hx 22 (numA n) (0, 0) _ hg Tryd.underlying22 rfl (by rw [numA_size]; kernel_rfl) (hK _ _ h)) hs

/-- The same: a number is written. -/
theorem ar_put {md : Region.Mode} {ops : Array Oper} {Q : Exit → Act → World → Prop} {fuel : Nat} {listed : Array Bool} {a : Act} {w : World} {i : Nat} {o : Oper} {rs : List Nat} (ho : ops[i]? = some o) (hw : Region.wanted o (yielded ops a.tmps) = true)
    (x y : Operand) (hop : o.op = .store 22 x y) (g n : Nat) (hx : a.eval x = .pointer (some ⟨g, 0, none⟩)) (hy : a.eval y = .agg (numA n)) (hg : Room w g)
    (h : ∀ w', At w' g n → Put w w' g → wpAny Tryd.prog md ops Q fuel (listed.setIfInBounds i true) (a.put o.dst undef) w') (hs : AllReady Tryd.prog md ops Q fuel listed a w rs) : AllReady Tryd.prog md ops Q fuel listed a w (i :: rs) :=
  AllReady.cons ho (fun K hK => by
    rw [if_pos hw]
    obtain ⟨cs, hz, hc⟩ := hg
    exact wp_store_row 22 x y hop g (numA n) hx hy 22 cs hc (by rw [numA_size]; kernel_rfl) (by rw [numA_size, hz]) (numA_one n) (hK _ _ (h _ (setRow_heap _ _ _ _ _ _ hc) ⟨⟨rfl, rfl, rfl, by simp, fun k _ hk => setRow_other _ _ _ _ (fun e => hk (by rw [e]))⟩, by simp⟩))) hs

theorem four_alloc (w : World) (a b : Nat) (W : World) (hW : (((w.alloc (.cells (numA a) 22)).alloc (.cells (numA b) 22)).alloc (.cells #[.int .u8 0, .int .u8 0, .int .u8 0, .int .u8 0, .int .u8 0, .int .u8 0, .int .u8 0, .int .u8 0, .int .u8 0, .int .u8 0, .int .u8 0, .int .u8 0, .int .u8 0, .int .u8 0, .int .u8 0, .int .u8 0, .int .u8 0, .int .u8 0, .int .u8 0, .int .u8 0, .int .u8 0, .int .u8 0, .int .u8 0, .int .u8 0, .int .u8 0, .int .u8 0, .int .u8 0, .int .u8 0, .int .u8 0, .int .u8 0, .int .u8 0, .int .u8 0] 22)).alloc (.cells #[.int .u8 0, .int .u8 0, .int .u8 0, .int .u8 0, .int .u8 0, .int .u8 0, .int .u8 0, .int .u8 0, .int .u8 0, .int .u8 0, .int .u8 0, .int .u8 0, .int .u8 0, .int .u8 0, .int .u8 0, .int .u8 0, .int .u8 0, .int .u8 0, .int .u8 0, .int .u8 0, .int .u8 0, .int .u8 0, .int .u8 0, .int .u8 0, .int .u8 0, .int .u8 0, .int .u8 0, .int .u8 0, .int .u8 0, .int .u8 0, .int .u8 0, .int .u8 0] 22) = W) :
    At W w.heap.size a ∧ At W (w.heap.size + 1) b ∧ Room W (w.heap.size + 1 + 1) ∧ Room W (w.heap.size + 1 + 1 + 1) ∧ Below w.heap.size w W := by
  subst hW
  refine ⟨(((at_new w a).alloc _).alloc _).alloc _, ?_, (room_top _ _ (by simp)).alloc _, room_top _ _ (by simp), ?_⟩
  · have h := at_new (w.alloc (.cells (numA a) 22)) b
    rw [show (w.alloc (.cells (numA a) 22)).heap.size = w.heap.size + 1 from by simp] at h
    exact (h.alloc _).alloc _
  · exact ((((Below.refl _ _).alloc (Nat.le_refl _) _).alloc (by simp) _).alloc (by simp; omega) _).alloc (by simp; omega) _

/-- What a swap leaves, whatever order its reads and writes took. -/
structure Swapped (W W' : World) (g k n m B : Nat) : Prop where
  one : At W' g n
  two : At W' k m
  below : Below B W W'




set_option maxHeartbeats 1000000 in
theorem Swap_yes (a b : Nat) (w : World) :
    Calls Tryd.prog 10 #[.bool true, .agg (numA a), .agg (numA b)] w fun e w' => e = .returned (.tuple #[.agg (numA b), .agg (numA a)]) ∧ Below w.heap.size w w' := by
  go_enter Tryd.func10, Tryd.ntmps10
  go_wp2_with fail
  generalize hW : (((w.alloc (.cells (numA a) 22)).alloc (.cells (numA b) 22)).alloc (.cells #[.int .u8 0, .int .u8 0, .int .u8 0, .int .u8 0, .int .u8 0, .int .u8 0, .int .u8 0, .int .u8 0, .int .u8 0, .int .u8 0, .int .u8 0, .int .u8 0, .int .u8 0, .int .u8 0, .int .u8 0, .int .u8 0, .int .u8 0, .int .u8 0, .int .u8 0, .int .u8 0, .int .u8 0, .int .u8 0, .int .u8 0, .int .u8 0, .int .u8 0, .int .u8 0, .int .u8 0, .int .u8 0, .int .u8 0, .int .u8 0, .int .u8 0, .int .u8 0] 22)).alloc (.cells #[.int .u8 0, .int .u8 0, .int .u8 0, .int .u8 0, .int .u8 0, .int .u8 0, .int .u8 0, .int .u8 0, .int .u8 0, .int .u8 0, .int .u8 0, .int .u8 0, .int .u8 0, .int .u8 0, .int .u8 0, .int .u8 0, .int .u8 0, .int .u8 0, .int .u8 0, .int .u8 0, .int .u8 0, .int .u8 0, .int .u8 0, .int .u8 0, .int .u8 0, .int .u8 0, .int .u8 0, .int .u8 0, .int .u8 0, .int .u8 0, .int .u8 0, .int .u8 0] 22) = W
  obtain ⟨Aa, Ab, R1, R2, QB⟩ := four_alloc w a b W hW
  clear hW
  refine wp_region_any (by kernel_rfl) ?_
  refine wpAny_ready (rs := [0, 1]) (by kernel_rfl) (by simp) ?_
  refine ar_get rfl rfl (.tmp 5) rfl _ b rfl (by exact Ab) ?_ ?_
  · refine wpAny_ready (rs := [1, 2]) (by kernel_rfl) (by simp) ?_
    refine ar_get rfl rfl (.tmp 4) rfl _ a rfl (by exact Aa) ?_ ?_
    · refine wpAny_ready (rs := [2]) (by kernel_rfl) (by simp) (ar_put rfl rfl (.tmp 6) (.tmp 9) rfl _ b rfl rfl (by exact R1) (fun w1 A1 P1 => ?_) AllReady.nil)
      refine wpAny_ready (rs := [3]) (by kernel_rfl) (by simp) (ar_put rfl rfl (.tmp 7) (.tmp 10) rfl _ a rfl rfl (P1.room (k := w.heap.size + 1 + 1 + 1) (by exact R2) (by omega)) (fun w2 A2 P2 => ?_) AllReady.nil)
      have A1' := P2.at A1 (by omega)
      have QC : Below w.heap.size w w2 := QB.drew.trans ((P1.below (B := w.heap.size) (by omega)).trans (P2.below (B := w.heap.size) (by omega)))
      refine wpAny_done (by kernel_rfl) ?_ _
      clear P1 P2
      go_wp2
      exact bodyPost_ret (v := .tuple #[.agg (numA b), .agg (numA a)]) (ret_two_num Tryd.results10 _ _ _ _ b a rfl rfl A1' A2) rfl ⟨rfl, QC⟩
    · refine ar_put rfl rfl (.tmp 6) (.tmp 9) rfl _ b rfl rfl (by exact R1) (fun w1 A1 P1 => ?_) AllReady.nil
      refine wpAny_ready (rs := [1]) (by kernel_rfl) (by simp) (ar_get rfl rfl (.tmp 4) rfl _ a rfl (P1.at (k := w.heap.size) (by exact Aa) (by omega)) ?_ AllReady.nil)
      refine wpAny_ready (rs := [3]) (by kernel_rfl) (by simp) (ar_put rfl rfl (.tmp 7) (.tmp 10) rfl _ a rfl rfl (P1.room (k := w.heap.size + 1 + 1 + 1) (by exact R2) (by omega)) (fun w2 A2 P2 => ?_) AllReady.nil)
      have A1' := P2.at A1 (by omega)
      have QC : Below w.heap.size w w2 := QB.drew.trans ((P1.below (B := w.heap.size) (by omega)).trans (P2.below (B := w.heap.size) (by omega)))
      refine wpAny_done (by kernel_rfl) ?_ _
      clear P1 P2
      go_wp2
      exact bodyPost_ret (v := .tuple #[.agg (numA b), .agg (numA a)]) (ret_two_num Tryd.results10 _ _ _ _ b a rfl rfl A1' A2) rfl ⟨rfl, QC⟩
  · refine ar_get rfl rfl (.tmp 4) rfl _ a rfl (by exact Aa) ?_ AllReady.nil
    refine wpAny_ready (rs := [0]) (by kernel_rfl) (by simp) (ar_get rfl rfl (.tmp 5) rfl _ b rfl (by exact Ab) ?_ AllReady.nil)
    refine wpAny_ready (rs := [2]) (by kernel_rfl) (by simp) (ar_put rfl rfl (.tmp 6) (.tmp 9) rfl _ b rfl rfl (by exact R1) (fun w1 A1 P1 => ?_) AllReady.nil)
    refine wpAny_ready (rs := [3]) (by kernel_rfl) (by simp) (ar_put rfl rfl (.tmp 7) (.tmp 10) rfl _ a rfl rfl (P1.room (k := w.heap.size + 1 + 1 + 1) (by exact R2) (by omega)) (fun w2 A2 P2 => ?_) AllReady.nil)
    have A1' := P2.at A1 (by omega)
    have QC : Below w.heap.size w w2 := QB.drew.trans ((P1.below (B := w.heap.size) (by omega)).trans (P2.below (B := w.heap.size) (by omega)))
    refine wpAny_done (by kernel_rfl) ?_ _
    clear P1 P2
    go_wp2
    exact bodyPost_ret (v := .tuple #[.agg (numA b), .agg (numA a)]) (ret_two_num Tryd.results10 _ _ _ _ b a rfl rfl A1' A2) rfl ⟨rfl, QC⟩

set_option maxHeartbeats 1000000 in
theorem Swap_no (a b : Nat) (w : World) :
    Calls Tryd.prog 10 #[.bool false, .agg (numA a), .agg (numA b)] w fun e w' => e = .returned (.tuple #[.agg (numA a), .agg (numA b)]) ∧ Below w.heap.size w w' := by
  go_enter Tryd.func10, Tryd.ntmps10
  go_wp2_with fail
  generalize hW : (((w.alloc (.cells (numA a) 22)).alloc (.cells (numA b) 22)).alloc (.cells #[.int .u8 0, .int .u8 0, .int .u8 0, .int .u8 0, .int .u8 0, .int .u8 0, .int .u8 0, .int .u8 0, .int .u8 0, .int .u8 0, .int .u8 0, .int .u8 0, .int .u8 0, .int .u8 0, .int .u8 0, .int .u8 0, .int .u8 0, .int .u8 0, .int .u8 0, .int .u8 0, .int .u8 0, .int .u8 0, .int .u8 0, .int .u8 0, .int .u8 0, .int .u8 0, .int .u8 0, .int .u8 0, .int .u8 0, .int .u8 0, .int .u8 0, .int .u8 0] 22)).alloc (.cells #[.int .u8 0, .int .u8 0, .int .u8 0, .int .u8 0, .int .u8 0, .int .u8 0, .int .u8 0, .int .u8 0, .int .u8 0, .int .u8 0, .int .u8 0, .int .u8 0, .int .u8 0, .int .u8 0, .int .u8 0, .int .u8 0, .int .u8 0, .int .u8 0, .int .u8 0, .int .u8 0, .int .u8 0, .int .u8 0, .int .u8 0, .int .u8 0, .int .u8 0, .int .u8 0, .int .u8 0, .int .u8 0, .int .u8 0, .int .u8 0, .int .u8 0, .int .u8 0] 22) = W
  obtain ⟨Aa, Ab, R1, R2, QB⟩ := four_alloc w a b W hW
  clear hW
  refine wp_region_any (by kernel_rfl) ?_
  refine wpAny_ready (rs := [0, 1]) (by kernel_rfl) (by simp) ?_
  refine ar_get rfl rfl (.tmp 4) rfl _ a rfl (by exact Aa) ?_ ?_
  · refine wpAny_ready (rs := [1, 2]) (by kernel_rfl) (by simp) ?_
    refine ar_get rfl rfl (.tmp 5) rfl _ b rfl (by exact Ab) ?_ ?_
    · refine wpAny_ready (rs := [2]) (by kernel_rfl) (by simp) (ar_put rfl rfl (.tmp 6) (.tmp 11) rfl _ a rfl rfl (by exact R1) (fun w1 A1 P1 => ?_) AllReady.nil)
      refine wpAny_ready (rs := [3]) (by kernel_rfl) (by simp) (ar_put rfl rfl (.tmp 7) (.tmp 12) rfl _ b rfl rfl (P1.room (k := w.heap.size + 1 + 1 + 1) (by exact R2) (by omega)) (fun w2 A2 P2 => ?_) AllReady.nil)
      have A1' := P2.at A1 (by omega)
      have QC : Below w.heap.size w w2 := QB.drew.trans ((P1.below (B := w.heap.size) (by omega)).trans (P2.below (B := w.heap.size) (by omega)))
      refine wpAny_done (by kernel_rfl) ?_ _
      clear P1 P2
      go_wp2
      exact bodyPost_ret (v := .tuple #[.agg (numA a), .agg (numA b)]) (ret_two_num Tryd.results10 _ _ _ _ a b rfl rfl A1' A2) rfl ⟨rfl, QC⟩
    · refine ar_put rfl rfl (.tmp 6) (.tmp 11) rfl _ a rfl rfl (by exact R1) (fun w1 A1 P1 => ?_) AllReady.nil
      refine wpAny_ready (rs := [1]) (by kernel_rfl) (by simp) (ar_get rfl rfl (.tmp 5) rfl _ b rfl (P1.at (k := w.heap.size + 1) (by exact Ab) (by omega)) ?_ AllReady.nil)
      refine wpAny_ready (rs := [3]) (by kernel_rfl) (by simp) (ar_put rfl rfl (.tmp 7) (.tmp 12) rfl _ b rfl rfl (P1.room (k := w.heap.size + 1 + 1 + 1) (by exact R2) (by omega)) (fun w2 A2 P2 => ?_) AllReady.nil)
      have A1' := P2.at A1 (by omega)
      have QC : Below w.heap.size w w2 := QB.drew.trans ((P1.below (B := w.heap.size) (by omega)).trans (P2.below (B := w.heap.size) (by omega)))
      refine wpAny_done (by kernel_rfl) ?_ _
      clear P1 P2
      go_wp2
      exact bodyPost_ret (v := .tuple #[.agg (numA a), .agg (numA b)]) (ret_two_num Tryd.results10 _ _ _ _ a b rfl rfl A1' A2) rfl ⟨rfl, QC⟩
  · refine ar_get rfl rfl (.tmp 5) rfl _ b rfl (by exact Ab) ?_ AllReady.nil
    refine wpAny_ready (rs := [0]) (by kernel_rfl) (by simp) (ar_get rfl rfl (.tmp 4) rfl _ a rfl (by exact Aa) ?_ AllReady.nil)
    refine wpAny_ready (rs := [2]) (by kernel_rfl) (by simp) (ar_put rfl rfl (.tmp 6) (.tmp 11) rfl _ a rfl rfl (by exact R1) (fun w1 A1 P1 => ?_) AllReady.nil)
    refine wpAny_ready (rs := [3]) (by kernel_rfl) (by simp) (ar_put rfl rfl (.tmp 7) (.tmp 12) rfl _ b rfl rfl (P1.room (k := w.heap.size + 1 + 1 + 1) (by exact R2) (by omega)) (fun w2 A2 P2 => ?_) AllReady.nil)
    have A1' := P2.at A1 (by omega)
    have QC : Below w.heap.size w w2 := QB.drew.trans ((P1.below (B := w.heap.size) (by omega)).trans (P2.below (B := w.heap.size) (by omega)))
    refine wpAny_done (by kernel_rfl) ?_ _
    clear P1 P2
    go_wp2
    exact bodyPost_ret (v := .tuple #[.agg (numA a), .agg (numA b)]) (ret_two_num Tryd.results10 _ _ _ _ a b rfl rfl A1' A2) rfl ⟨rfl, QC⟩
end Go.Proofs.YtanfjkmkfcekmaaDoor
