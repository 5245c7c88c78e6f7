/-
  General pieces, joined: MC MD ME.
-/
import Derived.Test.YtjkdonjcngmjeaaDoorG26
import Derived.Test.YtjkdonjcngmjeaaDoorG28
import Derived.Test.YtjkdonjcngmjeaaDoorG20
/-
  Strings as keys: what prims.keyOf answers, and what the statements' key does.
-/
namespace Go.Proofs.YtjkdonjcngmjeaaDoor.sh
open Go Go.RowKit
set_option linter.unusedVariables false
set_option linter.unusedSimpArgs false

/-- A block of whatever make that begins with these bytes. -/
def RowF (w : World) (g : Nat) (l : List Nat) : Prop := ∃ cs t fr, w.heap[g]? = some (.cells cs t fr) ∧ ∀ (j : Nat) (v : Value), (ints .u8 l)[j]? = some v → cs[0 + j]? = some v
theorem RowF.under {w w' : World} {g : Nat} {l : List Nat} (h : RowF w g l) (hb : Below w.heap.size w w') : RowF w' g l := by
  obtain ⟨cs, t, fr, h1, h2⟩ := h
  exact ⟨cs, t, fr, (hb.block g (Array.getElem?_eq_some_iff.1 h1).1).trans h1, h2⟩
theorem csb_row (l : List Nat) (hl : Bytes l) (w : World) : ∃ c w', (convert 9 32 (.string (strOf l))).run Tryd.prog w = .ok (.slice (some ⟨w.heap.size, 0, none⟩) l.length c) w' ∧ RowF w' w.heap.size l ∧ l.length ≤ c ∧ Below w.heap.size w w' := by
  have h := run_bytes_of_string (P := Tryd.prog) w 9 32 5 (strOf l) str_u Tryd.underlying32 Tryd.underlying5
  refine ⟨_, _, by rw [← strOf_size]; exact h, ⟨_, _, _, by show (w.heap.push _)[w.heap.size]? = _; simp; exact ⟨rfl, rfl, rfl⟩, fun j v hj => ?_⟩, ?_, ((Below.refl w.heap.size w).drew.alloc (Nat.le_refl _) _)⟩
  · have hjl : j < l.length := by
      have := (Array.getElem?_eq_some_iff.1 hj).1
      rwa [ints_size] at this
    obtain ⟨x, hx⟩ : ∃ x, l[j]? = some x := ⟨_, List.getElem?_eq_getElem hjl⟩
    rw [ints_get hx] at hj
    cases hj
    have hx8 := hl j x hx
    rw [Nat.zero_add]
    unfold bytesRow
    rw [Array.getElem?_append_left (by rw [Array.size_map]; show j < (strOf l).size; rw [strOf_size]; exact hjl), Array.getElem?_map]
    have h2 : (strOf l).data[j]? = some (UInt8.ofNat x) := by rw [← Array.getElem?_toList, sa_data, List.getElem?_map, hx]; rfl
    rw [h2]
    simp
    omega
  · have := grownCap_ge w (strOf l).size 0 5
    rw [strOf_size] at this
    first | exact this | (rw [strOf_size]; exact this)
theorem RowF.bytes {w : World} {g c : Nat} {l : List Nat} (h : RowF w g l) (hc : l.length ≤ c) : BytesV (.slice (some ⟨g, 0, none⟩) l.length c) w l := by
  obtain ⟨cs, t, fr, h1, h2⟩ := h
  refine ⟨_, c, rfl, hc, fun hne => ⟨_, rfl, (Array.getElem?_eq_some_iff.1 h1).1, fun j x hx => ?_⟩⟩
  rw [addr_add, Nat.zero_add]
  have := h2 j _ (ints_get hx)
  rw [Nat.zero_add] at this
  unfold World.cell?
  simp only
  rw [h1]
  exact this

section
variable {ops : Array Oper} {rest : List Oper} {o : Oper} {a : Act} {w : World} {Q : Exit → Act → World → Prop}
/-- Bytes of a string. -/
theorem wl_csb (hgd : o.guard = none) (x : Operand) (ho : o.op = .convert 9 32 x) (l : List Nat) (hx : a.eval x = .string (strOf l)) (hl : Bytes l)
    (h : ∀ g c w', g = w.heap.size → RowF w' g l → l.length ≤ c → Below w.heap.size w w' → wpList Tryd.prog ops Q rest (a.put o.dst (.slice (some ⟨g, 0, none⟩) l.length c)) w') : wpList Tryd.prog ops Q (o :: rest) a w :=
  wpList_plain hgd fun K hK => by
    obtain ⟨c, w', h1, h2, h3, h4⟩ := csb_row l hl w
    unfold Oper.wp execOp
    simp only [ho, hx, Sem.run_bind, h1, Result.andThen_ok, Sem.run_pure]
    exact hK _ _ (h _ c w' rfl h2 h3 h4)
theorem run_sta {x : Operand} {A : Addr} {l c n : Nat} {t e : TypeId} (ho : o.op = .sliceToArrayPointer t x) (hx : a.eval x = .slice (some A) l c) (ht : Tryd.prog.underlying t = some (.array n e)) (hn : n ≤ l) (w : World) : (execOp a.eval o).run Tryd.prog w = .ok (.value (.pointer (some A))) w := by
  unfold execOp
  simp only [ho, hx, Instr.arrayAt, Sem.run_bind, run_underlying ht, Result.andThen_ok]
  simp [show ¬ l < n by omega]
theorem wv_rowF {d : Nat} (hd : o.dst = some d) (hw : Region.wanted o (yielded ops a.tmps) = true) (t : TypeId) (x : Operand) (ho : o.op = .load t x) (g : Nat) (hx : a.eval x = .pointer (some ⟨g, 0, none⟩)) (A : Array Value) (len : Nat) (e : TypeId) (hu : Tryd.prog.underlying t = some (.array len e)) (hs : (Tryd.prog.info? t).map (·.size) = some A.size)
    (hg : ∃ cs t' fr, w.heap[g]? = some (.cells cs t' fr) ∧ ∀ (j : Nat) (v : Value), A[j]? = some v → cs[0 + j]? = some v) (h : wpList Tryd.prog ops Q rest (a.put o.dst (.agg A)) w) : wpList Tryd.prog ops Q (o :: rest) a w :=
  BigFrame.wpList_want hw fun K hK => by
    obtain ⟨cs, t', fr, h1, h2⟩ := hg
    unfold Oper.wp execOp
    simp only [ho, hx, Instr.loadAt, Instr.sureAddr, Sem.run_bind, Sem.run_pure, Result.andThen_ok, run_loadVar_at w g 0 t' t cs A fr _ h1 h2 hu rfl hs]
    exact hK _ _ h
end
theorem ret_arr_bool {f : Func} {p q : Tmp} (h : f.results = #[.cell p 22, .tmp q]) (tmps : Array Value) (w : World) (g : Nat) (A : Array Value) (b : Bool) (hA : A.size = 32) (hp : tmps.getD p undef = .pointer (some ⟨g, 0, none⟩)) (hg : Blk w g 22 A) (hq : tmps.getD q undef = .bool b) : (results f tmps).run Tryd.prog w = .ok (.tuple #[.agg A, .bool b]) w := by
  have hp' : tmps[p]?.getD undef = .pointer (some ⟨g, 0, none⟩) := by simpa using hp
  have hq' : tmps[q]?.getD undef = .bool b := by simpa using hq
  simp [results, h, hp', hq', asAddr, run_loadVar_row w g 22 22 A (0, 0) _ hg Tryd.underlying22 rfl (by rw [hA]; kernel_rfl)]

set_option maxRecDepth 100000 in
theorem keyOf_ok {s : List Nat} {w : World} (hs : Bytes s) (h32 : s.length = 32) :
    Calls Tryd.prog 66 #[.string (strOf s)] w fun e w' => e = .returned (.tuple #[.agg (ints .u8 s), .bool true]) ∧ Below w.heap.size w w' := by
  have Ks : Kept _ := ⟨hs⟩
  have Kn : Kept (32 = s.length) := ⟨h32.symm⟩
  have i32s : Kept ((Tryd.prog.info? 22).map (·.size) = some (ints .u8 s).size) := ⟨by rw [ints_size, h32]; exact t32_info⟩
  have is : Kept ((ints .u8 s).size = 32) := ⟨by rw [ints_size, h32]⟩
  have B0 : Kept (Blk (w.alloc (.cells #[.int .u8 0, .int .u8 0, .int .u8 0, .int .u8 0, .int .u8 0, .int .u8 0, .int .u8 0, .int .u8 0, .int .u8 0, .int .u8 0, .int .u8 0, .int .u8 0, .int .u8 0, .int .u8 0, .int .u8 0, .int .u8 0, .int .u8 0, .int .u8 0, .int .u8 0, .int .u8 0, .int .u8 0, .int .u8 0, .int .u8 0, .int .u8 0, .int .u8 0, .int .u8 0, .int .u8 0, .int .u8 0, .int .u8 0, .int .u8 0, .int .u8 0, .int .u8 0] 22)) w.heap.size 22 #[.int .u8 0, .int .u8 0, .int .u8 0, .int .u8 0, .int .u8 0, .int .u8 0, .int .u8 0, .int .u8 0, .int .u8 0, .int .u8 0, .int .u8 0, .int .u8 0, .int .u8 0, .int .u8 0, .int .u8 0, .int .u8 0, .int .u8 0, .int .u8 0, .int .u8 0, .int .u8 0, .int .u8 0, .int .u8 0, .int .u8 0, .int .u8 0, .int .u8 0, .int .u8 0, .int .u8 0, .int .u8 0, .int .u8 0, .int .u8 0, .int .u8 0, .int .u8 0]) := ⟨blk_new w _ _⟩
  have Q0 : Kept (Below w.heap.size w (w.alloc (.cells #[.int .u8 0, .int .u8 0, .int .u8 0, .int .u8 0, .int .u8 0, .int .u8 0, .int .u8 0, .int .u8 0, .int .u8 0, .int .u8 0, .int .u8 0, .int .u8 0, .int .u8 0, .int .u8 0, .int .u8 0, .int .u8 0, .int .u8 0, .int .u8 0, .int .u8 0, .int .u8 0, .int .u8 0, .int .u8 0, .int .u8 0, .int .u8 0, .int .u8 0, .int .u8 0, .int .u8 0, .int .u8 0, .int .u8 0, .int .u8 0, .int .u8 0, .int .u8 0] 22))) := ⟨(Below.refl _ _).alloc (Nat.le_refl _) _⟩
  clear hs h32
  go_enter Tryd.func66, Tryd.ntmps66
  go_wp2_with (first | ((with_reducible refine wv_val (d := 5) ?hd ?hw (.int .i64 (32 : Int)) ?hr ?_); (case hd => rfl); (case hw => kernel_rfl); (case hr => intro w; exact run_slen rfl (by kernel_rfl) Kn.out w); simp only [Act.put, List.setIfInBounds_toArray, List.set_cons_succ, List.set_cons_zero]) | (refine wl_csb rfl (.tmp 8) rfl s (by kernel_rfl) Ks.out ?_; intro g c v hg hr hc hb; clear hg; simp only [Act.put, List.setIfInBounds_toArray, List.set_cons_succ, List.set_cons_zero]) | ((with_reducible refine wv_val (d := 10) ?hd ?hw (.pointer (some ⟨g, 0, none⟩)) ?hr ?_); (case hd => rfl); (case hw => kernel_rfl); (case hr => intro w; exact run_sta (A := ⟨g, 0, none⟩) (l := s.length) (c := c) rfl (by kernel_rfl) Tryd.underlying22 (by rw [← Kn.out]; decide) w); simp only [Act.put, List.setIfInBounds_toArray, List.set_cons_succ, List.set_cons_zero]) | ((with_reducible refine wv_rowF (d := 11) ?hd ?hw 22 (.tmp 10) ?ho (g) ?hx (ints .u8 s) _ _ Tryd.underlying22 ?hs ?hg ?_); (case hd => rfl); (case hw => kernel_rfl); (case ho => rfl); (case hx => kernel_rfl); (case hs => exact i32s.out); (case hg => exact hr); simp only [Act.put, List.setIfInBounds_toArray, List.set_cons_succ, List.set_cons_zero]) | (refine wl_store rfl 22 (.tmp 2) (.tmp 11) rfl w.heap.size (ints .u8 s) rfl rfl _ (B0.out.under hb) i32s.out (by rw [is.out]; rfl) (ints_one _ _) ?_; intro w2 hB hp; simp only [Act.put, List.setIfInBounds_toArray, List.set_cons_succ, List.set_cons_zero]))
  have KB : Kept _ := ⟨hB⟩
  have Kq : Kept _ := ⟨(Q0.out.trans (hb.mono Q0.out.size)).trans (hp.below (Nat.le_refl _))⟩
  refine ⟨rfl, _, ret_arr_bool Tryd.results66 _ _ w.heap.size (ints .u8 s) true is.out rfl KB.out rfl, rfl, Kq.out⟩
end Go.Proofs.YtjkdonjcngmjeaaDoor.sh
/-
  Prims of bytes: what is no key; digests; keys; boxes.
-/
namespace Go.Proofs.YtjkdonjcngmjeaaDoor.sh
open Go Go.RowKit
set_option linter.unusedVariables false
set_option linter.unusedSimpArgs false

theorem blk_bytes {w : World} {g n : Nat} {t : TypeId} {l : List Nat} (h : Blk w g t (ints .u8 l)) (hn : l.length = n) : BytesV (.slice (some ⟨g, 0, none⟩) n n) w l := by
  subst hn
  refine ⟨_, _, rfl, Nat.le_refl _, fun _ => ⟨_, rfl, h.lt, fun j x hx => ?_⟩⟩
  rw [addr_add, Nat.zero_add]
  exact h.cell (ints_get hx)

set_option maxRecDepth 100000 in
theorem keyOf_no {s zl : List Nat} {w : World} (hz : zl = List.replicate 32 0) (hs : Bytes s) (hne : s.length ≠ 32) :
    Calls Tryd.prog 66 #[.string (strOf s)] w fun e w' => e = .returned (.tuple #[.agg (ints .u8 zl), .bool false]) ∧ Below w.heap.size w w' := by
  obtain ⟨n, hn⟩ : ∃ n, n = s.length := ⟨_, rfl⟩
  have Kn : Kept (n = s.length) := ⟨hn⟩
  have Kb : Kept (true = !decide ((n : Int) = 32)) := ⟨by rw [decide_eq_false (by omega)]; rfl⟩
  have KZ : Kept (#[.int .u8 0, .int .u8 0, .int .u8 0, .int .u8 0, .int .u8 0, .int .u8 0, .int .u8 0, .int .u8 0, .int .u8 0, .int .u8 0, .int .u8 0, .int .u8 0, .int .u8 0, .int .u8 0, .int .u8 0, .int .u8 0, .int .u8 0, .int .u8 0, .int .u8 0, .int .u8 0, .int .u8 0, .int .u8 0, .int .u8 0, .int .u8 0, .int .u8 0, .int .u8 0, .int .u8 0, .int .u8 0, .int .u8 0, .int .u8 0, .int .u8 0, .int .u8 0] = ints .u8 zl) := ⟨by rw [hz]; rfl⟩
  have LZ : Kept (zl.length = 32) := ⟨by rw [hz]; rfl⟩
  have B0 : Kept (Blk (w.alloc (.cells #[.int .u8 0, .int .u8 0, .int .u8 0, .int .u8 0, .int .u8 0, .int .u8 0, .int .u8 0, .int .u8 0, .int .u8 0, .int .u8 0, .int .u8 0, .int .u8 0, .int .u8 0, .int .u8 0, .int .u8 0, .int .u8 0, .int .u8 0, .int .u8 0, .int .u8 0, .int .u8 0, .int .u8 0, .int .u8 0, .int .u8 0, .int .u8 0, .int .u8 0, .int .u8 0, .int .u8 0, .int .u8 0, .int .u8 0, .int .u8 0, .int .u8 0, .int .u8 0] 22)) w.heap.size 22 #[.int .u8 0, .int .u8 0, .int .u8 0, .int .u8 0, .int .u8 0, .int .u8 0, .int .u8 0, .int .u8 0, .int .u8 0, .int .u8 0, .int .u8 0, .int .u8 0, .int .u8 0, .int .u8 0, .int .u8 0, .int .u8 0, .int .u8 0, .int .u8 0, .int .u8 0, .int .u8 0, .int .u8 0, .int .u8 0, .int .u8 0, .int .u8 0, .int .u8 0, .int .u8 0, .int .u8 0, .int .u8 0, .int .u8 0, .int .u8 0, .int .u8 0, .int .u8 0]) := ⟨blk_new w _ _⟩
  have Q0 : Kept (Below w.heap.size w (w.alloc (.cells #[.int .u8 0, .int .u8 0, .int .u8 0, .int .u8 0, .int .u8 0, .int .u8 0, .int .u8 0, .int .u8 0, .int .u8 0, .int .u8 0, .int .u8 0, .int .u8 0, .int .u8 0, .int .u8 0, .int .u8 0, .int .u8 0, .int .u8 0, .int .u8 0, .int .u8 0, .int .u8 0, .int .u8 0, .int .u8 0, .int .u8 0, .int .u8 0, .int .u8 0, .int .u8 0, .int .u8 0, .int .u8 0, .int .u8 0, .int .u8 0, .int .u8 0, .int .u8 0] 22))) := ⟨(Below.refl _ _).alloc (Nat.le_refl _) _⟩
  clear hs hne hn hz
  go_enter Tryd.func66, Tryd.ntmps66
  go_wp2_with (first | ((with_reducible refine wv_val (d := 5) ?hd ?hw (.int .i64 (n : Int)) ?hr ?_); (case hd => rfl); (case hw => kernel_rfl); (case hr => intro w; exact run_slen rfl (by kernel_rfl) Kn.out w); simp only [Act.put, List.setIfInBounds_toArray, List.set_cons_succ, List.set_cons_zero]) | ((with_reducible refine wv_val (d := 6) ?hd ?hw (.bool true) ?hr ?_); (case hd => rfl); (case hw => kernel_rfl); (case hr => intro w; exact run_neI (m := (n : Int)) (n := 32) rfl (by kernel_rfl) (by kernel_rfl) Kb.out w); simp only [Act.put, List.setIfInBounds_toArray, List.set_cons_succ, List.set_cons_zero]) | ((with_reducible refine wv_val (d := 7) ?hd ?hw (.agg (ints .u8 zl)) ?hr ?_); (case hd => rfl); (case hw => kernel_rfl); (case hr => intro w; rw [← KZ.out]; kernel_rfl); simp only [Act.put, List.setIfInBounds_toArray, List.set_cons_succ, List.set_cons_zero]) | (refine wl_store rfl 22 (.tmp 2) (.tmp 7) rfl w.heap.size (ints .u8 zl) rfl rfl _ B0.out (by rw [ints_size, LZ.out]; exact t32_info) (by rw [ints_size, LZ.out]; rfl) (ints_one _ _) ?_; intro w2 hB hp; simp only [Act.put, List.setIfInBounds_toArray, List.set_cons_succ, List.set_cons_zero]))
  exact ⟨rfl, _, ret_arr_bool Tryd.results66 _ _ w.heap.size (ints .u8 zl) false (by rw [ints_size, LZ.out]) rfl hB rfl, rfl, Q0.out.trans (hp.below (Nat.le_refl _))⟩

set_option maxRecDepth 100000 in
theorem Pub_no {s : List Nat} {w : World} (hs : Bytes s) (hne : s.length ≠ 32) :
    Calls Tryd.prog 64 #[.agg #[], .string (strOf s)] w fun e w' => e = .returned (.string ⟨#[]⟩) ∧ Below w.heap.size w w' := by
  obtain ⟨zl, hz⟩ : ∃ z : List Nat, z = List.replicate 32 0 := ⟨_, rfl⟩
  have IZ : Kept ((Tryd.prog.info? 22).map (·.size) = some (ints .u8 zl).size ∧ (ints .u8 zl).size = 32) := ⟨by rw [ints_size, hz, List.length_replicate]; exact ⟨t32_info, rfl⟩⟩
  have KC : Kept (∀ w, Calls Tryd.prog 66 [.string (strOf s)].toArray w fun e w' => e = .returned (.tuple #[.agg (ints .u8 zl), .bool false]) ∧ Below w.heap.size w w') := ⟨fun w => keyOf_no hz hs hne⟩
  clear hz hs hne
  go_enter Tryd.func64, Tryd.ntmps64
  go_wp2_with fail
  refine (KC.out _).mono ?_
  rintro e w1 ⟨rfl, hb1⟩
  have Q1 : Kept (Below w.heap.size w w1) := ⟨((Below.refl w.heap.size w).alloc (Nat.le_refl _) _).trans (hb1.mono (by simp))⟩
  clear hb1
  go_wp2_with (first | (refine wl_store rfl 22 (.tmp 5) (.tmp 11) rfl w1.heap.size (ints .u8 zl) rfl rfl _ (blk_new _ _ _) IZ.out.1 (by rw [IZ.out.2]; rfl) (ints_one _ _) ?_; intro w5 hB5 hp5; simp only [Act.put, List.setIfInBounds_toArray, List.set_cons_succ, List.set_cons_zero]))
  go_ret
  exact ⟨rfl, (Q1.out.alloc Q1.out.size _).trans (hp5.below Q1.out.size)⟩

set_option maxRecDepth 100000 in
theorem HashR {x y : List Nat} {w : World} (hx : Bytes x) (hy : Bytes y) (hn : x.length + y.length < 1000000) (hr : RootsAt w) :
    Calls Tryd.prog 61 #[.agg #[], .string (strOf x), .string (strOf y)] w fun e w' => e = .returned (.string (strOf (sumL (x ++ y)))) ∧ Below w.heap.size w w' := by
  obtain ⟨z, hz⟩ : ∃ z, z = x ++ y := ⟨_, rfl⟩
  obtain ⟨D, hD⟩ : ∃ d, d = sumL (x ++ y) := ⟨_, rfl⟩
  have Kz : Kept (z = x ++ y) := ⟨hz⟩
  have Kn : Kept (x.length + y.length < 4611686018427387904) := ⟨by omega⟩
  have Yz : Kept (Bytes z) := ⟨by rw [hz]; exact hx.append hy⟩
  have LD : Kept (D.length = 32) := ⟨by rw [hD]; exact sumL_len _⟩
  have IZ : Kept ((Tryd.prog.info? 22).map (·.size) = some (ints .u8 D).size ∧ (ints .u8 D).size = 32) := ⟨by rw [ints_size, LD.out]; exact ⟨t32_info, rfl⟩⟩
  have CS : Kept (∀ v w', Below w.heap.size w w' → BytesV v w' z → Calls Tryd.prog 8 [v].toArray w' fun e w2 => e = .returned (.agg (ints .u8 D)) ∧ Below w'.heap.size w' w2) := ⟨fun v w' hb hv => by rw [hD, ← hz]; exact cSum Yz.out (by rw [hz, List.length_append]; omega) (hr.under hb) hv⟩
  have Q0 : Kept (Below w.heap.size w (w.alloc (.cells #[] 39))) := ⟨(Below.refl _ _).alloc (Nat.le_refl _) _⟩
  rw [← hD]
  clear hx hy hn hr hz hD
  go_enter Tryd.func61, Tryd.ntmps61
  go_wp2_with (first | ((with_reducible refine wv_val (d := 10) ?hd ?hw (.string (strOf z)) ?hr ?_); (case hd => rfl); (case hw => kernel_rfl); (case hr => intro w; exact run_scat rfl (by kernel_rfl) (by kernel_rfl) Kn.out Kz.out w); simp only [Act.put, List.setIfInBounds_toArray, List.set_cons_succ, List.set_cons_zero]) | (refine wl_csb rfl (.tmp 10) rfl z (by kernel_rfl) Yz.out ?_; intro g c v hg hr hc hb; clear hg; simp only [Act.put, List.setIfInBounds_toArray, List.set_cons_succ, List.set_cons_zero]))
  refine (CS.out _ _ (Q0.out.trans (hb.mono Q0.out.size)) (hr.bytes hc)).mono ?_
  rintro e w1 ⟨rfl, hb1⟩
  have Q1 : Kept (Below w.heap.size w w1) := ⟨(Q0.out.trans (hb.mono Q0.out.size)).trans (hb1.mono (Q0.out.trans (hb.mono Q0.out.size)).size)⟩
  clear hb1 hb hr hc Q0
  go_wp2_with (first | (refine wl_store rfl 22 (.tmp 7) (.tmp 12) rfl w1.heap.size (ints .u8 D) rfl rfl _ (blk_new _ _ _) IZ.out.1 (by rw [IZ.out.2]; rfl) (ints_one _ _) ?_; intro w5 hB5 hp5; simp only [Act.put, List.setIfInBounds_toArray, List.set_cons_succ, List.set_cons_zero]) | ((with_reducible refine wv_str (d := 14) ?hd ?hw (.tmp 13) ?ho (.slice (some ⟨w1.heap.size, 0, none⟩) 32 32) ?hx (D) ?hl ?_); (case hd => rfl); (case hw => kernel_rfl); (case ho => rfl); (case hx => kernel_rfl); (case hl => exact blk_bytes hB5 LD.out); simp only [Act.put, List.setIfInBounds_toArray, List.set_cons_succ, List.set_cons_zero]))
  go_ret
  exact ⟨rfl, (Q1.out.alloc Q1.out.size _).trans (hp5.below Q1.out.size)⟩
end Go.Proofs.YtjkdonjcngmjeaaDoor.sh
/-
  Prims of bytes: boxes and keys, of what is a key.
-/
namespace Go.Proofs.YtjkdonjcngmjeaaDoor.sh
open Go Go.RowKit
set_option linter.unusedVariables false
set_option linter.unusedSimpArgs false

/-- The first i of the texts, and empty ones. -/
def partS (kl : List (List Nat)) (n i : Nat) : Array Value := (strs (kl.take i) ++ List.replicate (n - i) (Value.string ⟨#[]⟩)).toArray
theorem partS_size {kl : List (List Nat)} {n i : Nat} (hl : kl.length = n) (hi : i ≤ n) : (partS kl n i).size = n := by
  simp [partS, strs_len, hl]
  omega
theorem partS_set {kl : List (List Nat)} {n i : Nat} {K : List Nat} (hl : kl.length = n) (hK : kl[i]? = some K) : (partS kl n i).setIfInBounds i (.string (strOf K)) = partS kl n (i + 1) := by
  have hi : i < n := by rw [← hl]; exact (List.getElem?_eq_some_iff.1 hK).1
  have h1 : (strs (kl.take i)).length = i := by rw [strs_len, List.length_take, hl]; omega
  have h2 : n - i = (n - (i + 1)) + 1 := by omega
  have h3 : kl.take (i + 1) = kl.take i ++ [K] := by rw [List.take_add_one, hK]; rfl
  unfold partS
  rw [h2, List.replicate_succ, h3, strs_append, List.setIfInBounds_toArray, List.set_append_right _ _ (by omega), h1, Nat.sub_self, List.set_cons_zero]
  simp [strs]
theorem partS_all {kl : List (List Nat)} {n : Nat} (hl : kl.length = n) : (partS kl n n).toList = strs kl := by
  unfold partS
  rw [List.take_of_length_le (by omega), Nat.sub_self]
  simp
theorem vrow_blkS {base n g : Nat} {vs : List Value} {A : Array Value} {w : World} (hg : Blk w g 9 A) (hb : base ≤ g) (hA : A.toList = vs) (hn : A.size = n) (hm : n ≤ maxLen) : VRow base 9 vs (.slice (some ⟨g, 0, none⟩) n n) w := by
  subst hA
  subst hn
  unfold VRow
  rw [Array.length_toList]
  refine ⟨by simp, .inr ⟨g, A.size, A, rfl, hb, hg, Nat.le_refl _, hm, by omega, ?_⟩⟩
  rw [Nat.mul_one, List.take_of_length_le (by simp)]
theorem make_S1 (w : World) : (Instr.makeSlice 34 (.int .i64 ((1 : Nat) : Int)) (.int .i64 ((1 : Nat) : Int))).run Tryd.prog w = .ok (.slice (some ⟨w.heap.size, 0, none⟩) 1 1) (w.alloc (.cells (partS [] 1 0) 9)) := by kernel_rfl
theorem make_S2 (w : World) : (Instr.makeSlice 34 (.int .i64 ((2 : Nat) : Int)) (.int .i64 ((2 : Nat) : Int))).run Tryd.prog w = .ok (.slice (some ⟨w.heap.size, 0, none⟩) 2 2) (w.alloc (.cells (partS [] 2 0) 9)) := by kernel_rfl
theorem make_S3 (w : World) : (Instr.makeSlice 34 (.int .i64 ((3 : Nat) : Int)) (.int .i64 ((3 : Nat) : Int))).run Tryd.prog w = .ok (.slice (some ⟨w.heap.size, 0, none⟩) 3 3) (w.alloc (.cells (partS [] 3 0) 9)) := by kernel_rfl
theorem make_S {n : Nat} (h1 : 1 ≤ n) (h3 : n ≤ 3) (w : World) : (Instr.makeSlice 34 (.int .i64 (n : Int)) (.int .i64 (n : Int))).run Tryd.prog w = .ok (.slice (some ⟨w.heap.size, 0, none⟩) n n) (w.alloc (.cells (partS [] n 0) 9)) := by
  have h : n = 1 ∨ n = 2 ∨ n = 3 := by omega
  rcases h with h | h | h
  · subst h; exact make_S1 w
  · subst h; exact make_S2 w
  · subst h; exact make_S3 w
theorem partS_zero (kl : List (List Nat)) (n : Nat) : partS kl n 0 = partS [] n 0 := by simp [partS]
theorem wl_makeS {ops : Array Oper} {rest : List Oper} {o : Oper} {a : Act} {w : World} {Q : Exit → Act → World → Prop} (hgd : o.guard = none) (x : Operand) (ho : o.op = .makeSlice 34 x x) (n : Nat) (hx : a.eval x = .int .i64 (n : Int)) (h1 : 1 ≤ n) (h3 : n ≤ 3) (kl : List (List Nat))
    (h : ∀ g w', g = w.heap.size → Blk w' g 9 (partS kl n 0) → Below w.heap.size w w' → wpList Tryd.prog ops Q rest (a.put o.dst (.slice (some ⟨g, 0, none⟩) n n)) w') : wpList Tryd.prog ops Q (o :: rest) a w :=
  wpList_plain hgd fun K hK => by
    have hrun : (execOp a.eval o).run Tryd.prog w = .ok (.value (.slice (some ⟨w.heap.size, 0, none⟩) n n)) (w.alloc (.cells (partS kl n 0) 9)) := by
      unfold execOp
      simp only [ho, hx]
      simp [make_S h1 h3 w, partS_zero kl n]
    unfold Oper.wp
    rw [hrun]
    exact hK _ _ (h _ _ rfl (blk_new w _ _) ((Below.refl _ _).alloc (Nat.le_refl _) _))

set_option maxRecDepth 100000 in
theorem Keys_err {s y : List Nat} {z : Int} {w : World} (hs : Bytes s) (h32 : s.length = 32) (hy : Bytes y) (hz : z < 1 ∨ 3 < z) :
    Calls Tryd.prog 62 #[.agg #[], .string (strOf s), .string (strOf y), .int .i64 z] w fun e w' => e = .returned (.slice none 0 0) ∧ Below w.heap.size w w' := by
  have CK : Kept (∀ w, Calls Tryd.prog 66 [.string (strOf s)].toArray w fun e w' => e = .returned (.tuple #[.agg (ints .u8 s), .bool true]) ∧ Below w.heap.size w w') := ⟨fun w => keyOf_ok hs h32⟩
  have L32 : Kept (s.length = 32) := ⟨h32⟩
  have Ys : Kept _ := ⟨hs⟩
  have IZ : Kept ((Tryd.prog.info? 22).map (·.size) = some (ints .u8 s).size ∧ (ints .u8 s).size = 32) := ⟨by rw [ints_size, h32]; exact ⟨t32_info, rfl⟩⟩
  have CA : Kept (∀ va w', Calls Tryd.prog 67 [.agg (ints .u8 s), va, .int .i64 z].toArray w' fun e w2 => e = .returned (.tuple #[.slice none 0 0, .int .i64 2]) ∧ Below w'.heap.size w' w2) := ⟨fun va w' => Keys_bad _ z va w' hz⟩
  have Yy : Kept _ := ⟨hy⟩
  clear hs h32 hy hz
  go_enter Tryd.func62, Tryd.ntmps62
  go_wp2_with fail
  refine (CK.out _).mono ?_
  rintro e w1 ⟨rfl, hb1⟩
  have Q1 : Kept (Below w.heap.size w w1) := ⟨((Below.refl w.heap.size w).alloc (Nat.le_refl _) _).trans (hb1.mono (by simp))⟩
  clear hb1
  go_wp2_with (first | (refine wl_store rfl 22 (.tmp 9) (.tmp 19) rfl w1.heap.size (ints .u8 s) rfl rfl _ (blk_new _ _ _) IZ.out.1 (by rw [IZ.out.2]; rfl) (ints_one _ _) ?_; intro w5 hB5 hp5; simp only [Act.put, List.setIfInBounds_toArray, List.set_cons_succ, List.set_cons_zero]) | ((with_reducible refine wv_row (d := 24) ?hd ?hw 22 (.tmp 9) ?ho (w1.heap.size) ?hx (t' := 22) (ints .u8 s) _ _ Tryd.underlying22 ?hs ?hg ?_); (case hd => rfl); (case hw => kernel_rfl); (case ho => rfl); (case hx => kernel_rfl); (case hs => exact IZ.out.1); (case hg => exact hB5); simp only [Act.put, List.setIfInBounds_toArray, List.set_cons_succ, List.set_cons_zero]) | (refine wl_csb rfl (.tmp 25) rfl y (by kernel_rfl) Yy.out ?_; intro g1 c1 v1 hg hr1 hc1 hb1; clear hg; simp only [Act.put, List.setIfInBounds_toArray, List.set_cons_succ, List.set_cons_zero]))
  refine (CA.out _ _).mono ?_
  rintro e w6 ⟨rfl, hb6⟩
  have q5 := (Q1.out.alloc Q1.out.size _).trans (hp5.below Q1.out.size)
  have q1 := q5.trans (hb1.mono q5.size)
  have Q6 : Kept _ := ⟨q1.trans (hb6.mono q1.size)⟩
  clear q5 q1 hb1 hb6 hr1 hc1 hB5 hp5
  go_wp2_with fail
  go_ret
  exact ⟨rfl, Q6.out⟩

set_option maxRecDepth 100000 in
set_option maxHeartbeats 1000000 in
theorem KeysR {s y : List Nat} {n : Nat} {w : World} (hs : Bytes s) (h32 : s.length = 32) (hy : Bytes y) (hyn : y.length < 800000000) (h1 : 1 ≤ n) (h3 : n ≤ 3) (hr : RootsAt w) :
    Calls Tryd.prog 62 #[.agg #[], .string (strOf s), .string (strOf y), .int .i64 (n : Int)] w fun e w' => ∃ V, e = .returned V ∧ VRow w.heap.size 9 (strs (keysL s y n)) V w' ∧ Below w.heap.size w w' := by
  have CK : Kept (∀ w, Calls Tryd.prog 66 [.string (strOf s)].toArray w fun e w' => e = .returned (.tuple #[.agg (ints .u8 s), .bool true]) ∧ Below w.heap.size w w') := ⟨fun w => keyOf_ok hs h32⟩
  have L32 : Kept (s.length = 32) := ⟨h32⟩
  have Ys : Kept _ := ⟨hs⟩
  have IZ : Kept ((Tryd.prog.info? 22).map (·.size) = some (ints .u8 s).size ∧ (ints .u8 s).size = 32) := ⟨by rw [ints_size, h32]; exact ⟨t32_info, rfl⟩⟩
  obtain ⟨kl, hkl⟩ : ∃ k, k = keysL s y n := ⟨_, rfl⟩
  have CA : Kept (∀ va w', Below w.heap.size w w' → BytesV va w' y → Calls Tryd.prog 67 [.agg (ints .u8 s), va, .int .i64 (n : Int)].toArray w' fun e w2 => ∃ v, e = .returned (.tuple #[v, .int .i64 0]) ∧ KeysV v w2 kl ∧ Below w'.heap.size w' w2) := ⟨fun va w' hb hv => by
    refine (Keys_ok s y n va w' h32 hs hy hyn h1 h3 (hr.under hb) hv).mono ?_
    rintro e w2 ⟨v, e1, e2, e3⟩
    exact ⟨v, e1, by rw [hkl]; exact e2.keys (keysL_32 s y n), e3⟩⟩
  have Lk : Kept (kl.length = n ∧ ∀ k ∈ kl, k.length = 32 ∧ Bytes k) := ⟨by rw [hkl, keysL_len], fun k hk => ⟨keysL_32 s y n k (hkl ▸ hk), by
    rw [hkl] at hk
    obtain ⟨i, _, rfl⟩ := List.mem_map.1 hk
    exact tL_bytes _ _ _⟩⟩
  have Yy : Kept _ := ⟨hy⟩
  rw [← hkl]
  clear hs h32 hy hyn hr hkl
  go_enter Tryd.func62, Tryd.ntmps62
  go_wp2_with fail
  refine (CK.out _).mono ?_
  rintro e w1 ⟨rfl, hb1⟩
  have Q1 : Kept (Below w.heap.size w w1) := ⟨((Below.refl w.heap.size w).alloc (Nat.le_refl _) _).trans (hb1.mono (by simp))⟩
  clear hb1
  go_wp2_with (first | (refine wl_store rfl 22 (.tmp 9) (.tmp 19) rfl w1.heap.size (ints .u8 s) rfl rfl _ (blk_new _ _ _) IZ.out.1 (by rw [IZ.out.2]; rfl) (ints_one _ _) ?_; intro w5 hB5 hp5; simp only [Act.put, List.setIfInBounds_toArray, List.set_cons_succ, List.set_cons_zero]) | ((with_reducible refine wv_row (d := 24) ?hd ?hw 22 (.tmp 9) ?ho (w1.heap.size) ?hx (t' := 22) (ints .u8 s) _ _ Tryd.underlying22 ?hs ?hg ?_); (case hd => rfl); (case hw => kernel_rfl); (case ho => rfl); (case hx => kernel_rfl); (case hs => exact IZ.out.1); (case hg => exact hB5); simp only [Act.put, List.setIfInBounds_toArray, List.set_cons_succ, List.set_cons_zero]) | (refine wl_csb rfl (.tmp 25) rfl y (by kernel_rfl) Yy.out ?_; intro g1 c1 v1 hg hr1 hc1 hb1; clear hg; simp only [Act.put, List.setIfInBounds_toArray, List.set_cons_succ, List.set_cons_zero]))
  have q5 := (Q1.out.alloc Q1.out.size _).trans (hp5.below Q1.out.size)
  have q1 := q5.trans (hb1.mono q5.size)
  refine (CA.out _ _ q1 (hr1.bytes hc1)).mono ?_
  rintro e w6 ⟨v, rfl, hv, hb6⟩
  have Q6 : Kept _ := ⟨q1.trans (hb6.mono q1.size)⟩
  clear q5 q1 hb1 hb6 hr1 hc1 hB5 hp5
  obtain ⟨p8, c8, e8, _, hg8⟩ := hv
  rw [Lk.out.1] at e8
  obtain ⟨g8, cur, rfl, hB8, hcur⟩ := hg8 (by intro e; have := Lk.out.1; rw [e] at this; simp at this; omega)
  subst e8
  have B8 : Kept _ := ⟨hB8⟩
  have P8 : Kept _ := ⟨hcur⟩
  clear hB8 hcur hg8
  go_wp2_with (first | (refine wl_makeS rfl (.tmp 34) rfl n (by kernel_rfl) h1 h3 kl ?_; intro gl w7 hgl hBl hb7; simp only [Act.put, List.setIfInBounds_toArray, List.set_cons_succ, List.set_cons_zero]))
  have Kgl : Kept (gl = w6.heap.size) := ⟨hgl⟩
  have Bl : Kept _ := ⟨hBl⟩
  have K7 : Kept _ := ⟨hb7⟩
  clear hgl hBl hb7
  go_loopg [38] n (fun g s38 wr => ∃ i : Nat, i + g = n ∧ s38 = .int .i64 (i : Int) ∧ Blk wr gl 9 (partS kl n i) ∧ Below w6.heap.size w6 wr)
  case atStart => exact ⟨0, by omega, rfl, Bl.out, K7.out⟩
  case round =>
    rename World => wz
    obtain ⟨i, hik, rfl, hr, hbz⟩ := hrel
    by_cases hk0 : gk = 0
    case neg =>
      have hin : i < n := by omega
      have hin' : (i : Int) < (n : Int) := by omega
      have hi1 : (i : Int) + 1 ≤ 9223372036854775807 := by omega
      obtain ⟨K, hK⟩ : ∃ K, kl[i]? = some K := ⟨_, List.getElem?_eq_getElem (by rw [Lk.out.1]; exact hin)⟩
      have KK : Kept (K.length = 32 ∧ Bytes K) := ⟨Lk.out.2 K (List.mem_of_getElem? hK)⟩
      have IK : Kept ((Tryd.prog.info? 22).map (·.size) = some (ints .u8 K).size ∧ (ints .u8 K).size = 32) := ⟨by rw [ints_size, KK.out.1]; exact ⟨t32_info, rfl⟩⟩
      have PK : Kept _ := ⟨P8.out i K hK⟩
      have BK : Kept _ := ⟨B8.out.under hbz⟩
      have SK : Kept _ := ⟨partS_set Lk.out.1 hK⟩
      have ZK : Kept (i < (partS kl n i).size) := ⟨by rw [partS_size Lk.out.1 (by omega)]; exact hin⟩
      have Kr : Kept _ := ⟨hr⟩
      have Kbz : Kept _ := ⟨hbz⟩
      have Kl : Kept (w6.heap.size ≤ gl ∧ gl < wz.heap.size) := ⟨by rw [Kgl.out]; exact Nat.le_refl _, hr.lt⟩
      clear hK hr hbz
      go_wp2_with (first | ((with_reducible refine wv_val (d := 41) ?hd ?hw (.pointer (some ⟨g8, i * 32, none⟩)) ?hr ?_); (case hd => rfl); (case hw => kernel_rfl); (case hr => intro w; exact run_idxK (i := i) (l := n) (c := c8) rfl (by kernel_rfl) (by kernel_rfl) hin w); simp only [Act.put, List.setIfInBounds_toArray, List.set_cons_succ, List.set_cons_zero]) | ((with_reducible refine wv_partA (d := 42) ?hd ?hw 22 (.tmp 41) ?ho (g8) (i * 32) ?hx (t' := 22) cur (ints .u8 K) _ _ Tryd.underlying22 ?hs ?hg ?hp ?_); (case hd => rfl); (case hw => kernel_rfl); (case ho => rfl); (case hx => kernel_rfl); (case hs => exact IK.out.1); (case hg => exact BK.out); (case hp => exact PK.out); simp only [Act.put, List.setIfInBounds_toArray, List.set_cons_succ, List.set_cons_zero]) | (refine wl_store rfl 22 (.tmp 15) (.tmp 42) rfl wz.heap.size (ints .u8 K) rfl rfl _ (blk_new _ _ _) IK.out.1 (by rw [IK.out.2]; rfl) (ints_one _ _) ?_; intro w5 hB5 hp5; simp only [Act.put, List.setIfInBounds_toArray, List.set_cons_succ, List.set_cons_zero]) | ((with_reducible refine wv_str (d := 46) ?hd ?hw (.tmp 45) ?ho (.slice (some ⟨wz.heap.size, 0, none⟩) 32 32) ?hx (K) ?hl ?_); (case hd => rfl); (case hw => kernel_rfl); (case ho => rfl); (case hx => kernel_rfl); (case hl => exact blk_bytes hB5 KK.out.1); simp only [Act.put, List.setIfInBounds_toArray, List.set_cons_succ, List.set_cons_zero]) | ((with_reducible refine wv_val (d := 47) ?hd ?hw (.pointer (some ⟨gl, i, none⟩)) ?hr ?_); (case hd => rfl); (case hw => kernel_rfl); (case hr => intro w; exact run_idxS0 (i := i) (l := n) (c := n) (g := gl) rfl (by kernel_rfl) (by kernel_rfl) Tryd.underlying34 hin Tryd.sizeOf9 w); simp only [Act.put, List.setIfInBounds_toArray, List.set_cons_succ, List.set_cons_zero]) | (refine wl_set1 rfl 9 Tryd.sizeOf9 (.tmp 47) (.tmp 46) rfl gl i (.string (strOf K)) (by kernel_rfl) (by kernel_rfl) rfl (partS kl n i) (blk_grown hp5.grown (Kr.out.under ((Below.refl _ _).alloc (Nat.le_refl _) _)) (by have := Kl.out.2; simp; omega)) ZK.out ?_; intro w9 hB9 hp9; simp only [Act.put, List.setIfInBounds_toArray, List.set_cons_succ, List.set_cons_zero]))
      go_roundg (gk - 1)
      case measure => omega
      case rel => exact ⟨i + 1, by omega, by simp, by rw [← SK.out]; exact hB9, ((Kbz.out.alloc Kbz.out.size _).trans (hp5.below Kbz.out.size)).trans (hp9.below Kl.out.1)⟩
    case pos =>
      obtain rfl : n = i := by omega
      have Kr : Kept _ := ⟨hr⟩
      have Kbz : Kept _ := ⟨hbz⟩
      clear hr hbz
      go_wp2_with fail
      go_ret
      refine ⟨_, rfl, vrow_blkS Kr.out (Nat.le_trans Q6.out.size (by rw [Kgl.out]; exact Nat.le_refl _)) (partS_all Lk.out.1) (partS_size Lk.out.1 (Nat.le_refl _)) (Nat.le_trans h3 (by decide)), Q6.out.trans (Kbz.out.mono Q6.out.size)⟩
end Go.Proofs.YtjkdonjcngmjeaaDoor.sh
