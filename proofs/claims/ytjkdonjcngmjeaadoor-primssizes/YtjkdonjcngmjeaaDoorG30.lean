/-
  General pieces, joined: MG.
-/
import Derived.Test.YtjkdonjcngmjeaaDoorG27
import Derived.Test.YtjkdonjcngmjeaaDoorG29
/-
  Prims of terms: keys.
-/
namespace Go.Proofs.YtjkdonjcngmjeaaDoor.sh
open Go Go.RowKit
set_option linter.unusedVariables false
set_option linter.unusedSimpArgs false

theorem Tab.put {tb B g : Nat} {ts : List TermL} {M : Nat → Prop} {w w' : World} (h : Tab tb B ts M w) (hp : w.grownBy w' (some g)) (hg : ¬ M g) : Tab tb B ts M w' := by
  obtain ⟨mb, v, h1, h2, h3, h4, h5, h6⟩ := h.at'
  have n1 : tb ≠ g := fun e => hg ((h6 g).2 (.inl e.symm))
  have n2 : mb ≠ g := fun e => hg ((h6 g).2 (.inr (.inl e.symm)))
  have n3 : blkOf v ≠ some g := fun e => hg ((h6 g).2 (.inr (.inr e)))
  exact ⟨⟨mb, v, blk_grown hp h1 (fun e => n1 (Option.some.inj e)), h2, h3.kept (row := some g) hp (by simpa using n2), h4.keeps hp (.inr n3), h5, h6⟩, h.terms⟩
theorem Turn.put {g : Nat} {M M' : Nat → Prop} {w w1 w2 : World} (h : Turn M w M' w1) (hp : Put w1 w2 g) (hg : w.heap.size ≤ g) : Turn M w M' w2 :=
  ⟨⟨hp.grown.os.trans h.1.os, hp.grown.tape.trans h.1.tape, hp.grown.output.trans h.1.output, by rw [hp.size]; exact h.1.size, fun k hk hM => (hp.grown.block k (Nat.lt_of_lt_of_le hk h.1.size) (fun e => by cases e; omega)).trans (h.1.block k hk hM)⟩, h.2⟩
theorem run_idxG0 {o : Oper} {a : Act} {x y : Operand} {i l c g : Nat} {t e : TypeId} (ho : o.op = .indexAddr t x y) (hx : a.eval x = .slice (some ⟨g, 0, none⟩) l c) (hy : a.eval y = .int .i64 (i : Int)) (ht : Tryd.prog.underlying t = some (.slice e)) (hi : i < l) (sz : ∀ w, (sizeOf e).run Tryd.prog w = .ok 1 w) (w : World) : (execOp a.eval o).run Tryd.prog w = .ok (.value (.pointer (some ⟨g, i, none⟩))) w := by
  have h := run_idxS ho hx hy ht hi sz w
  rw [addr_add, Nat.zero_add] at h
  exact h
theorem run_conv3L {o : Oper} {a : Act} {x : Operand} {m : Nat} (ho : o.op = .convert 3 49 x) (hx : a.eval x = .int .i64 (m : Int)) (hm : m < 1000) (w : World) : (execOp a.eval o).run Tryd.prog w = .ok (.value (.int .u64 (m : Int))) w := by
  unfold execOp
  simp only [ho, hx]
  simp [convert, go_sem, Tryd.underlying49]
  simp only [IntKind.wrap_u64]
  omega
theorem run_addL1 {o : Oper} {a : Act} {x y : Operand} {m n : Nat} (ho : o.op = .binOp .add 49 x y 49) (hx : a.eval x = .int .u64 (m : Int)) (hy : a.eval y = .int .u64 1) (hn : n = m + 1) (hm : m < 1000) (w : World) : (execOp a.eval o).run Tryd.prog w = .ok (.value (.int .u64 (n : Int))) w := by
  unfold execOp
  simp only [ho, hx, hy]
  subst hn
  simp [go_sem]
  simp only [IntKind.wrap_u64]
  omega
theorem fits_any {ll : List (List Nat)} (h : ll.length ≤ 5) (h2 : ∀ l ∈ ll, l.length ≤ 4000) : Fits ll := by
  refine ⟨by omega, h2, ?_⟩
  rw [itemsL_len]
  have hs : ∀ r : List (List Nat), (∀ l ∈ r, l.length ≤ 4000) → (r.map fun l => l.length + 2).sum ≤ 4002 * r.length := fun r => by
    induction r with
    | nil => intro _; simp
    | cons l r ih =>
      intro h
      have h1 := h l List.mem_cons_self
      have h3 := ih (fun l hl => h l (List.mem_cons_of_mem _ hl))
      simp only [List.map_cons, List.sum_cons, List.length_cons]
      omega
  have := hs ll h2
  omega

/-- The i-th key's term, the table behind i of them, their names. -/
def keyT (x y : List Nat) (i : Nat) : TermL := (4, [keyW, numL (i + 1), x, y])
def tsK (ts : List TermL) (x y : List Nat) : Nat → List TermL
  | 0 => ts
  | i + 1 => (putL (tsK ts x y i) (keyT x y i)).1
def nmK (ts : List TermL) (x y : List Nat) (i : Nat) : List Nat := (putL (tsK ts x y i) (keyT x y i)).2
def nmsK (ts : List TermL) (x y : List Nat) (n : Nat) : List (List Nat) := (List.range n).map (nmK ts x y)
theorem nmsK_len (ts : List TermL) (x y : List Nat) (n : Nat) : (nmsK ts x y n).length = n := by simp [nmsK]
theorem nmsK_get {ts : List TermL} {x y : List Nat} {n i : Nat} (h : i < n) : (nmsK ts x y n)[i]? = some (nmK ts x y i) := by simp [nmsK, h]
theorem tsK_len (ts : List TermL) (x y : List Nat) : ∀ i, (tsK ts x y i).length ≤ ts.length + i
  | 0 => Nat.le_refl _
  | i + 1 => by
    have h1 := tsK_len ts x y i
    have h2 := putL_len (tsK ts x y i) (keyT x y i)
    show (putL (tsK ts x y i) (keyT x y i)).1.length ≤ _
    omega
theorem keyT_fits {x y : List Nat} {i : Nat} (hx : x.length ≤ 4000) (hy : y.length ≤ 4000) : Fits (keyT x y i).2 := fits_any (by simp [keyT]) (by
  intro l hl
  simp only [keyT, List.mem_cons, List.not_mem_nil, or_false] at hl
  have := numL_len (i + 1)
  rcases hl with rfl | rfl | rfl | rfl
  · exact keyW_ok.2.1
  · omega
  · exact hx
  · exact hy)
theorem putL_ne {ts : List TermL} {t : TermL} (hF : Fits t.2) : (putL ts t).2 ≠ [] ∧ (putL ts t).2.length = 32 := by
  rw [(putL_name hF).1]
  have : (nameOf (putL ts t).1 t).length = 32 := termN_len _
  exact ⟨fun e => (by rw [e] at this; cases this), this⟩

set_option maxRecDepth 100000 in
set_option maxHeartbeats 2000000 in
theorem KeysT {tb B n : Nat} {ts : List TermL} {x y : List Nat} {M : Nat → Prop} {w : World} (hT : Tab tb B ts M w) (hx : Bytes x) (hy : Bytes y) (hxl : x.length ≤ 4000) (hyl : y.length ≤ 4000) (h1 : 1 ≤ n) (h3 : n ≤ 3) (hn : ts.length < 900000) :
    Calls Tryd.prog 107 #[.agg #[.pointer (some ⟨tb, 0, none⟩)], .string (strOf x), .string (strOf y), .int .i64 (n : Int)] w fun e w' => ∃ V M', e = .returned V ∧ VRow w.heap.size 9 (strs (nmsK ts x y n)) V w' ∧ (∀ b, blkOf V = some b → ¬ M' b) ∧ Tab tb B (tsK ts x y n) M' w' ∧ Turn M w M' w' := by
  obtain ⟨kl, hkl⟩ : ∃ k, k = nmsK ts x y n := ⟨_, rfl⟩
  have Lk : Kept (kl.length = n ∧ ∀ i, i < n → kl[i]? = some (nmK ts x y i)) := ⟨⟨by rw [hkl, nmsK_len], fun i hi => by rw [hkl]; exact nmsK_get hi⟩⟩
  have Kl4 : Kept (x.length ≤ 4000 ∧ y.length ≤ 4000 ∧ Bytes x ∧ Bytes y ∧ ts.length < 900000) := ⟨⟨hxl, hyl, hx, hy, hn⟩⟩
  have KT0 : Kept _ := ⟨hT⟩
  obtain ⟨bx, hbx⟩ : ∃ b, b = w.heap.size := ⟨_, rfl⟩
  obtain ⟨w0, hw0⟩ : ∃ v, v = w.alloc (.cells #[.pointer (some ⟨tb, 0, none⟩)] 41) := ⟨_, rfl⟩
  have B0 : Kept (Blk w0 bx 41 #[.pointer (some ⟨tb, 0, none⟩)]) := ⟨by rw [hw0, hbx]; exact blk_new w _ _⟩
  have Q0 : Kept (Below w.heap.size w w0) := ⟨by rw [hw0]; exact (Below.refl _ _).alloc (Nat.le_refl _) _⟩
  have Kbx : Kept (bx = w.heap.size ∧ ¬ M bx) := ⟨⟨hbx, fun hM => by have := (hT.range hM).2; omega⟩⟩
  have KT : Kept (Tab tb B ts M w0) := ⟨hT.under Q0.out⟩
  have hz1 : ¬ (n : Int) < 1 := by omega
  have hz3 : ¬ (3 : Int) < (n : Int) := by omega
  have Kh1 : Kept (1 ≤ n ∧ n ≤ 3) := ⟨⟨h1, h3⟩⟩
  rw [← hkl]
  have Kw0 : Kept _ := ⟨hw0⟩
  clear hT hx hy hxl hyl hn hkl h1 h3 hw0 hbx
  go_enter Tryd.func107, Tryd.ntmps107
  go_wp2_with (first | (refine wl_makeS rfl (.tmp 17) rfl n (by kernel_rfl) Kh1.out.1 Kh1.out.2 kl ?_; intro gl w7 hgl hBl hb7; have Kg0 : Kept (gl = _) := ⟨hgl⟩; clear hgl; simp only [Act.put, List.setIfInBounds_toArray, List.set_cons_succ, List.set_cons_zero]))
  have hgl := Kg0.out
  rw [← Kw0.out] at hgl hb7
  rw [← Kbx.out.1]
  have Kgl : Kept (gl = w0.heap.size) := ⟨hgl⟩
  have Bl : Kept _ := ⟨hBl⟩
  have K7 : Kept _ := ⟨hb7⟩
  clear hgl hBl hb7 hz1 hz3 Kg0
  go_loopg [21] n (fun g s21 wr => ∃ (i : Nat) (Mz : Nat → Prop), i + g = n ∧ s21 = .int .i64 (i : Int) ∧ Blk wr gl 9 (partS kl n i) ∧ ¬ Mz gl ∧ Tab tb B (tsK ts x y i) Mz wr ∧ Turn M w0 Mz wr)
  case atStart => exact ⟨0, M, by omega, rfl, Bl.out, fun hM => by have := (KT.out.range hM).2; have := Kgl.out; omega, KT.out.under K7.out, Turn.of_below K7.out⟩
  case round =>
    rename World => wz
    obtain ⟨i, Mz, hik, rfl, hr, hMg, hTz, htz⟩ := hrel
    by_cases hk0 : gk = 0
    case neg =>
      have hin : i < n := by omega
      have hin' : (i : Int) < (n : Int) := by omega
      have hi1 : (i : Int) + 1 ≤ 9223372036854775807 := by have := Kh1.out.2; omega
      obtain ⟨NK, hNK⟩ : ∃ N, N = nmK ts x y i := ⟨_, rfl⟩
      have hK : kl[i]? = some NK := by rw [hNK]; exact Lk.out.2 i hin
      obtain ⟨TS, hTS⟩ : ∃ t, t = tsK ts x y i := ⟨_, rfl⟩
      obtain ⟨US, hUS⟩ : ∃ t, t = tsK ts x y (i + 1) := ⟨_, rfl⟩
      obtain ⟨iS, hiS⟩ : ∃ j, j = i + 1 := ⟨_, rfl⟩
      obtain ⟨J, hJ⟩ : ∃ j, j = numL iS := ⟨_, rfl⟩
      have KP : Kept (putL TS (4, [keyW, J, x, y]) = (US, NK)) := ⟨by rw [hTS, hUS, hNK, hJ, hiS]; rfl⟩
      have KN : Kept (TS.length < 1000000) := ⟨by have := tsK_len ts x y i; have := Kl4.out.2.2.2.2; have := Kh1.out.2; rw [hTS]; omega⟩
      have KNe : Kept (Bytes NK ∧ NK ≠ []) := ⟨⟨by rw [hNK]; exact putL_bytes _ _, by rw [hNK]; exact (putL_ne (keyT_fits Kl4.out.1 Kl4.out.2.1)).1⟩⟩
      have KNil : Kept (Bytes []) := ⟨fun i x h => by simp at h⟩
      have Kb : Kept (false = decide (NK = [])) := ⟨by rw [decide_eq_false KNe.out.2]⟩
      have KY : Kept ((∀ l ∈ [keyW, J, x, y], Bytes l) ∧ ∀ l ∈ [keyW, J, x, y], l.length ≤ maxLen) := ⟨by
        have hJl := numL_len iS
        rw [← hJ] at hJl
        have h8 : 4000 ≤ maxLen := by decide
        have := Kl4.out
        constructor
        · intro l hl
          simp only [List.mem_cons, List.not_mem_nil, or_false] at hl
          rcases hl with rfl | rfl | rfl | rfl
          · exact keyW_ok.1
          · rw [hJ]; exact numL_bytes _
          · exact this.2.2.1
          · exact this.2.2.2.1
        · intro l hl
          simp only [List.mem_cons, List.not_mem_nil, or_false] at hl
          rcases hl with rfl | rfl | rfl | rfl
          · exact keyW_ok.2.2
          · omega
          · omega
          · omega⟩
      have CN : Kept (∀ w, Calls Tryd.prog 48 [.int .u64 (iS : Int)].toArray w fun e w' => e = .returned (.string (strOf J)) ∧ Below w.heap.size w w') := ⟨fun w => by rw [hJ]; exact NumD (by have := Kh1.out.2; omega)⟩
      have Ki64 : Kept (i < 1000) := ⟨by have := Kh1.out.2; omega⟩
      have KiS : Kept (iS = i + 1) := ⟨hiS⟩
      have SK : Kept _ := ⟨partS_set Lk.out.1 hK⟩
      have ZK : Kept (i < (partS kl n i).size) := ⟨by rw [partS_size Lk.out.1 (by omega)]; exact hin⟩
      have ZL : Kept ((partS kl n (i + 1))[i]? = some (.string (strOf NK))) := ⟨by rw [← SK.out, Array.getElem?_setIfInBounds_self_of_lt ZK.out]⟩
      have Kr : Kept _ := ⟨hr⟩
      have KM : Kept _ := ⟨hMg⟩
      have KTz : Kept (Tab tb B TS Mz wz) := ⟨by rw [hTS]; exact hTz⟩
      have Ktz : Kept _ := ⟨htz⟩
      have KU : Kept (US = tsK ts x y (i + 1)) := ⟨hUS⟩
      have KB : Kept (wz.cell? ⟨bx, 0, none⟩ = some (.pointer (some ⟨tb, 0, none⟩)) ∧ bx < wz.heap.size ∧ ¬ Mz bx) := ⟨by
        have hb := htz.blk B0.out Kbx.out.2
        exact ⟨hb.cell rfl, hb.lt, htz.not Kbx.out.2 B0.out.lt⟩⟩
      have Kl : Kept (w0.heap.size ≤ gl ∧ gl < wz.heap.size) := ⟨by rw [Kgl.out]; exact Nat.le_refl _, hr.lt⟩
      clear hK hr hMg hTz htz hUS hTS hNK hJ hiS
      go_wp2_with fail
      refine region_phaseL (G := Nat → Prop) 13 [11] [(24, .slice (some ⟨gl, 0, none⟩) n n), (25, .int .i64 (i : Int)), (26, .pointer (some ⟨bx, 0, none⟩)), (27, .pointer (some ⟨tb, 0, none⟩)), (28, .int .i64 (i : Int)), (29, .int .u64 (i : Int)), (30, .int .u64 (iS : Int)), (31, .string (strOf J)), (32, .string (strOf x)), (33, .string (strOf y)), (35, .string (strOf NK)), (36, .pointer (some ⟨gl, i, none⟩))] (LN [(34, [keyW, J, x, y])]) (fun k => CT tb B (([TS, US] : List (List TermL)).getD k []) Mz wz) rfl (by kernel_rfl) (by kernel_rfl) (by kernel_rfl) (by kernel_rfl) (by kernel_rfl) (by kernel_rfl) (by kernel_rfl) (by kernel_rfl) (by kernel_rfl) (by kernel_rfl) LN_under (fun k g w w' h hb => CT.under h hb) Mz ⟨KTz.out, Turn.refl _ _⟩ (fun hA => ⟨.inl ⟨rfl, fun k M W1 hC1 => (fun hA => ow_val hA (wants_none rfl) 24 (.slice (some ⟨gl, 0, none⟩) n n) (by kernel_rfl) rfl rfl rfl rfl (by kernel_rfl) (fun w => by kernel_rfl)) (hA M)⟩, .inl ⟨rfl, fun k M W1 hC1 => (fun hA => ow_val hA (wants_none rfl) 25 (.int .i64 (i : Int)) (by kernel_rfl) rfl rfl rfl rfl (by kernel_rfl) (fun w => by kernel_rfl)) (hA M)⟩, .inl ⟨rfl, fun k M W1 hC1 => (fun hA => ow_val hA (wants_none rfl) 26 (.pointer (some ⟨bx, 0, none⟩)) (by kernel_rfl) rfl rfl rfl rfl (by kernel_rfl) (fun w => by kernel_rfl)) (hA M)⟩, .inl ⟨rfl, fun k M W1 hC1 => (fun hA => ow_elem hA (wants_none rfl) 27 (.pointer (some ⟨tb, 0, none⟩)) (by kernel_rfl) rfl rfl rfl rfl (by kernel_rfl) 28 Tryd.isAgg28 (.tmp 26) rfl (⟨bx, 0, none⟩) (by kernel_rfl) (fun w1 hb => hC1.cell hb KB.out.1 KB.out.2.1 KB.out.2.2)) (hA M)⟩, .inl ⟨rfl, fun k M W1 hC1 => (fun hA => ow_val hA (wants_none rfl) 28 (.int .i64 (i : Int)) (by kernel_rfl) rfl rfl rfl rfl (by kernel_rfl) (fun w => by kernel_rfl)) (hA M)⟩, .inl ⟨rfl, fun k M W1 hC1 => (fun hA => ow_val hA (wants_none rfl) 29 (.int .u64 (i : Int)) (by kernel_rfl) rfl rfl rfl rfl (by kernel_rfl) (fun w => run_conv3L rfl (by kernel_rfl) Ki64.out w)) (hA M)⟩, .inl ⟨rfl, fun k M W1 hC1 => (fun hA => ow_val hA (wants_none rfl) 30 (.int .u64 (iS : Int)) (by kernel_rfl) rfl rfl rfl rfl (by kernel_rfl) (fun w => run_addL1 rfl (by kernel_rfl) (by kernel_rfl) KiS.out Ki64.out w)) (hA M)⟩, .inl ⟨rfl, fun k M W1 hC1 => (fun hA => ow_calld hA (wants_none rfl) 31 (.string (strOf J)) (by kernel_rfl) rfl rfl rfl rfl (by kernel_rfl) 48 Tryd.f48 _ [.tmp 30] _ [.int .u64 (iS : Int)] rfl (by kernel_rfl) Tryd.func48 (by kernel_rfl) rfl (fun w2 hb => CN.out w2)) (hA M)⟩, .inl ⟨rfl, fun k M W1 hC1 => (fun hA => ow_val hA (wants_none rfl) 32 (.string (strOf x)) (by kernel_rfl) rfl rfl rfl rfl (by kernel_rfl) (fun w => by kernel_rfl)) (hA M)⟩, .inl ⟨rfl, fun k M W1 hC1 => (fun hA => ow_val hA (wants_none rfl) 33 (.string (strOf y)) (by kernel_rfl) rfl rfl rfl rfl (by kernel_rfl) (fun w => by kernel_rfl)) (hA M)⟩, .inl ⟨rfl, fun k M W1 hC1 => (fun hA => ow_new4 hA (wants_none rfl) hC1 34 (.const (.string ⟨#[107, 101, 121]⟩)) (.tmp 31) (.tmp 32) (.tmp 33) (keyW) (J) (x) (y) rfl (by kernel_rfl) rfl (by kernel_rfl) (by kernel_rfl) (by kernel_rfl) (by kernel_rfl) rfl) (hA M)⟩, .inr ⟨0, rfl, ph_hash hA (fun M => (fun hA => (wants_none rfl)) (hA M)) 35 (NK) rfl rfl (by kernel_rfl) LN_turn 27 34 _ _ rfl rfl (by kernel_rfl) rfl (by kernel_rfl) (by kernel_rfl) ([keyW, J, x, y]) rfl (KY.out.1) (KY.out.2) (KN.out) (KP.out)⟩, .inl ⟨rfl, fun k M W1 hC1 => (fun hA => ow_val hA (wants_none rfl) 36 (.pointer (some ⟨gl, i, none⟩)) (by kernel_rfl) rfl rfl rfl rfl (by kernel_rfl) (fun w => run_idxG0 (i := i) (l := n) (c := n) (g := gl) rfl (by kernel_rfl) (by kernel_rfl) Tryd.underlying34 hin Tryd.sizeOf9 w)) (hA M)⟩, trivial⟩) ?_
      intro fv M9 w9 hf hC9
      simp only [LN, putR, List.foldl_cons, List.foldl_nil, List.map_cons, List.map_nil, Act.put, List.setIfInBounds_toArray, List.set_cons_succ, List.set_cons_zero]
      have hB9 : Blk w9 gl 9 (partS kl n i) := hC9.2.blk Kr.out KM.out
      have hM9 : ¬ M9 gl := hC9.2.not KM.out Kl.out.2
      have K9 : Kept (Tab tb B US M9 w9) := ⟨hC9.1⟩
      have Kt9 : Kept _ := ⟨Ktz.out.trans hC9.2⟩
      clear hf hC9
      refine wl_set1 rfl 9 Tryd.sizeOf9 (.tmp 36) (.tmp 35) rfl gl i (.string (strOf NK)) (by kernel_rfl) (by kernel_rfl) rfl (partS kl n i) hB9 ZK.out ?_
      intro w10 hB10 hp10
      simp only [Act.put, List.setIfInBounds_toArray, List.set_cons_succ, List.set_cons_zero]
      refine wpList_nil ?_
      have hcc : w10.cell? ⟨gl, i, none⟩ = some (.string (strOf NK)) := hB10.cell (by rw [SK.out]; exact ZL.out)
      have Kcc : Kept _ := ⟨hcc⟩
      clear hcc
      go_wp2_with (first | ((with_reducible refine wv_val (d := 39) ?hd ?hw (.pointer (some ⟨gl, i, none⟩)) ?hr ?_); (case hd => rfl); (case hw => kernel_rfl); (case hr => intro w; exact run_idxG0 (i := i) (l := n) (c := n) (g := gl) rfl (by kernel_rfl) (by kernel_rfl) Tryd.underlying34 hin Tryd.sizeOf9 w); simp only [Act.put, List.setIfInBounds_toArray, List.set_cons_succ, List.set_cons_zero]) | ((with_reducible refine wv_elem (d := 40) ?hd ?hw 9 ag_str (.tmp 39) ?ho (⟨gl, i, none⟩) ?hx (.string (strOf NK)) ?hc ?_); (case hd => rfl); (case hw => kernel_rfl); (case ho => rfl); (case hx => kernel_rfl); (case hc => exact Kcc.out); simp only [Act.put, List.setIfInBounds_toArray, List.set_cons_succ, List.set_cons_zero]) | ((with_reducible refine wv_val (d := 41) ?hd ?hw (.bool false) ?hr ?_); (case hd => rfl); (case hw => kernel_rfl); (case hr => intro w; exact run_seq (l := NK) (m := []) rfl (by kernel_rfl) (by kernel_rfl) KNe.out.1 KNil.out Kb.out w); simp only [Act.put, List.setIfInBounds_toArray, List.set_cons_succ, List.set_cons_zero]))
      go_roundg (gk - 1)
      case measure => omega
      case rel => exact ⟨i + 1, M9, by omega, by simp, by rw [← SK.out]; exact hB10, hM9, by rw [← KU.out]; exact K9.out.put hp10.grown hM9, Kt9.out.put hp10 Kl.out.1⟩
    case pos =>
      obtain rfl : n = i := by omega
      have Kr : Kept _ := ⟨hr⟩
      have KM : Kept _ := ⟨hMg⟩
      have KTz : Kept _ := ⟨hTz⟩
      have Ktz : Kept _ := ⟨htz⟩
      clear hr hMg hTz htz
      go_wp2_with fail
      go_ret
      refine ⟨_, Mz, rfl, vrow_blkS Kr.out (Nat.le_trans Q0.out.size (by rw [Kgl.out]; exact Nat.le_refl _)) (partS_all Lk.out.1) (partS_size Lk.out.1 (Nat.le_refl _)) (Nat.le_trans Kh1.out.2 (by decide)), fun b hb => by cases hb; exact KM.out, KTz.out, (Turn.of_below Q0.out).trans Ktz.out⟩
end Go.Proofs.YtjkdonjcngmjeaaDoor.sh
