/-
  The reference's block.
-/
import Derived.Test.YthnkipicehppmaaDoorTK
namespace Go.Proofs.YthnkipicehppmaaDoor.sh
open Go Go.RowKit
set_option linter.unusedVariables false
set_option linter.unusedSimpArgs false


theorem run_and32 {o : Oper} {a : Act} {x y : Operand} {m n z : Nat} (ho : o.op = .binOp .and 47 x y 47) (hx : a.eval x = .int .u32 (m : Int)) (hy : a.eval y = .int .u32 (n : Int)) (hm : m < 4294967296) (hn : n < 4294967296) (hz : z = m &&& n) (w : World) : (execOp a.eval o).run Tryd.prog w = .ok (.value (.int .u32 (z : Int))) w := by
  have h := u32_and_nat m n hm hn
  unfold execOp
  simp only [ho, hx, hy]
  simp [go_sem, h, hz]
theorem turn3 (n m1 m2 m3 : Nat) : turnN n [m1, m2, m3] = (rotr n m1 ^^^ rotr n m2) ^^^ rotr n m3 := by
  unfold turnN
  rw [List.foldl_cons, List.foldl_cons, List.foldl_cons, List.foldl_nil, Nat.zero_xor]
theorem row_empty32 {base : Nat} (w : World) (hb : base ≤ w.heap.size) : Row base 47 .u32 [] (.slice (some ⟨w.heap.size, 0, none⟩) 0 0) (w.alloc (.cells #[] 47)) := World.ownsRow_lit w #[] 0 hb (by unfold maxLen; omega) rfl
theorem blk_ints {k : IntKind} {w : World} {g n : Nat} {t : TypeId} {l : List Nat} (h : Blk w g t (ints k l)) (hn : l.length = n) : IntsV k (.slice (some ⟨g, 0, none⟩) n n) w l :=
  ⟨_, n, by rw [hn], by omega, fun _ => ⟨_, rfl, h.lt, fun j x hx => by rw [addr_add, Nat.zero_add]; exact h.cell (ints_get hx)⟩⟩
theorem plus_take (a b : List Nat) (i x y : Nat) (hx : a[i]? = some x) (hy : b[i]? = some y) : (plusL a b).take (i + 1) = (plusL a b).take i ++ [(x + y) % 4294967296] := by
  rw [List.take_add_one, plusL_get a b i x y hx hy]; rfl
theorem two_sums (a k w : Nat) : ((a + k) % 4294967296 + w) % 4294967296 = (a + (k + w) % 4294967296) % 4294967296 := by omega
set_option maxRecDepth 100000 in
set_option maxHeartbeats 4000000 in
theorem rblock_any (st b : List Nat) (v0 v1 v2 : Value) (w : World) (h0 : IntsV .u32 v0 w st) (h1 : IntsV .u32 v1 w rootsL) (h2 : BytesV v2 w b) (hs : st.length = 8) (hS : Small st) (hy : Bytes b) (hl : b.length = 64) :
    Calls Tryd.prog 31 #[v0, v1, v2] w fun e w' => ∃ u, e = .returned u ∧ Row w.heap.size 47 .u32 (plusL st (roundTo st (wsTo b 48) 64)) u w' ∧ Below w.heap.size w w' := by
  have K0 : Kept _ := ⟨h0⟩
  have K1 : Kept _ := ⟨h1⟩
  have K2 : Kept _ := ⟨h2⟩
  have HS : Kept _ := ⟨hs⟩
  have HSm : Kept _ := ⟨hS⟩
  have YB : Kept _ := ⟨hy⟩
  have HL : Kept _ := ⟨hl⟩
  obtain ⟨p0, c0, rfl, _, hc0⟩ := h0
  obtain ⟨A0, rfl, _, _⟩ := hc0 (by intro e; rw [e] at hs; simp at hs)
  obtain ⟨p1, ck, rfl, _, hc1⟩ := h1
  obtain ⟨Ak, rfl, _, _⟩ := hc1 (by intro e; have := rootsL_len; rw [e] at this; simp at this)
  obtain ⟨p2, c2, rfl, _, _⟩ := h2
  rw [hs] at K0
  rw [rootsL_len] at K1
  rw [hl] at K2
  rw [hs, hl, rootsL_len]
  obtain ⟨ws, hws⟩ : ∃ W, W = wsTo b 48 := ⟨_, rfl⟩
  rw [← hws]
  have LW : Kept (ws.length = 64) := ⟨by rw [hws]; exact wsTo_len b 48⟩
  have SW : Kept (Small ws) := ⟨by rw [hws]; exact wsTo_small b hy 48⟩
  have EW : Kept _ := ⟨hws⟩
  obtain ⟨RR, hRR⟩ : ∃ R, R = roundTo st ws 64 := ⟨_, rfl⟩
  rw [← hRR]
  have ERR : Kept _ := ⟨hRR⟩
  have LR : Kept (RR.length = 8) := ⟨by rw [hRR]; exact roundTo_len st ws hs 64⟩
  clear hs hS hy hl hc0 hc1 hws hRR
  go_enter Tryd.func31, Tryd.ntmps31
  go_wp2_with fail
  refine (words_any b _ w K2.out YB.out HL.out).mono ?_
  rintro e w1 ⟨uw, rfl, RW, hb1⟩
  rw [← EW.out] at RW
  have KW : Kept _ := ⟨row_cells RW⟩
  obtain ⟨pw, cw, ew, _, hcw⟩ := row_cells RW
  obtain ⟨Aw, rfl, _, _⟩ := hcw (by intro e; have := LW.out; rw [e] at this; simp at this)
  rw [LW.out] at ew
  subst ew
  clear RW hcw
  have S1 : Kept (([] : List Nat).length + st.length ≤ 8796093022208) := ⟨by have := HS.out; simp; omega⟩
  have K01 : Kept _ := ⟨K0.out.under hb1⟩
  go_wp2_with (first | (refine wl_app (by kernel_rfl) (.tmp 18) (.tmp 19) 64 47 .u32 4 rfl Tryd.underlying64 inf_u32 (by decide) w1.heap.size [] st _ (.slice (some A0) 8 c0) rfl rfl (row_empty32 w1 (Nat.le_refl _)) (K01.out.under ((Below.refl _ _).alloc (Nat.le_refl _) _)) S1.out (by simp) ?_))
  intro v8 w2 R2 G2 _
  have HB12 : Below w1.heap.size w1 w2 := ((Below.refl _ _).alloc (Nat.le_refl _) _).trans (grown_mono G2 (by simp) (fun b hb => by cases hb; exact Nat.le_refl _))
  have R2 : Kept (IntsV .u32 v8 w2 st) := ⟨row_cells R2⟩
  clear G2
  go_wp2_with fail
  go_loopg [8, 9] 64 (fun m s8 s9 wr => ∃ i : Nat, i + m = 64 ∧ s9 = .int .i64 (i : Int) ∧ Kept (Below w1.heap.size w1 wr ∧ IntsV .u32 s8 wr (roundTo st ws i)))
  case atStart => exact ⟨0, by omega, rfl, ⟨⟨HB12, R2.out⟩⟩⟩
  case round =>
    clear HB12 R2
    obtain ⟨i, hik, rfl, KK⟩ := hrel
    obtain ⟨HB, RS⟩ := KK.out
    have LS : (roundTo st ws i).length = 8 := roundTo_len st ws HS.out i
    obtain ⟨S, hSd⟩ : ∃ S, S = roundTo st ws i := ⟨_, rfl⟩
    rw [← hSd] at RS LS
    have SS : Kept (Small S) := ⟨by rw [hSd]; exact roundTo_small st ws HS.out HSm.out i⟩
    have ES : Kept _ := ⟨hSd⟩
    have KS : Kept _ := ⟨RS⟩
    obtain ⟨ps, cs, es, _, hcs⟩ := RS
    obtain ⟨As, rfl, _, _⟩ := hcs (by intro e; rw [e] at LS; simp at LS)
    rw [LS] at es
    subst es
    have LS : Kept _ := ⟨LS⟩
    clear KK hSd hcs
    by_cases hi : i < 64
    case pos =>
      have hi' : (i : Int) < 64 := by omega
      have i64 : i < 64 := hi
      obtain ⟨x0, x1, x2, x3, x4, x5, x6, x7, hx⟩ := list8 S LS.out
      have CELL : ∀ (k x : Nat), S[k]? = some x → Kept (∀ w', Below wr.heap.size wr w' → w'.cell? (As.add k) = some (.int .u32 (x : Int))) := fun k x hk => ⟨fun w' hb => by
        obtain ⟨A, eA, _, hc⟩ := (KS.out.under hb).cell hk
        cases eA
        exact hc⟩
      have CS0 := CELL 0 x0 (by rw [hx]; rfl)
      have Lx0 : Kept (x0 < 4294967296) := ⟨SS.out 0 x0 (by rw [hx]; rfl)⟩
      have CS1 := CELL 1 x1 (by rw [hx]; rfl)
      have Lx1 : Kept (x1 < 4294967296) := ⟨SS.out 1 x1 (by rw [hx]; rfl)⟩
      have CS2 := CELL 2 x2 (by rw [hx]; rfl)
      have Lx2 : Kept (x2 < 4294967296) := ⟨SS.out 2 x2 (by rw [hx]; rfl)⟩
      have CS3 := CELL 3 x3 (by rw [hx]; rfl)
      have Lx3 : Kept (x3 < 4294967296) := ⟨SS.out 3 x3 (by rw [hx]; rfl)⟩
      have CS4 := CELL 4 x4 (by rw [hx]; rfl)
      have Lx4 : Kept (x4 < 4294967296) := ⟨SS.out 4 x4 (by rw [hx]; rfl)⟩
      have CS5 := CELL 5 x5 (by rw [hx]; rfl)
      have Lx5 : Kept (x5 < 4294967296) := ⟨SS.out 5 x5 (by rw [hx]; rfl)⟩
      have CS6 := CELL 6 x6 (by rw [hx]; rfl)
      have Lx6 : Kept (x6 < 4294967296) := ⟨SS.out 6 x6 (by rw [hx]; rfl)⟩
      have CS7 := CELL 7 x7 (by rw [hx]; rfl)
      have Lx7 : Kept (x7 < 4294967296) := ⟨SS.out 7 x7 (by rw [hx]; rfl)⟩
      obtain ⟨ki, hki⟩ : ∃ x, rootsL[i]? = some x := ⟨_, List.getElem?_eq_getElem (by have := rootsL_len; omega)⟩
      obtain ⟨wi, hwi⟩ : ∃ x, ws[i]? = some x := ⟨_, List.getElem?_eq_getElem (by have := LW.out; omega)⟩
      have CK : Kept (∀ w', Below wr.heap.size wr w' → w'.cell? (Ak.add i) = some (.int .u32 (ki : Int))) := ⟨fun w' hb => by
        obtain ⟨A, eA, _, hc⟩ := (((K1.out.under hb1).under HB).under hb).cell hki
        cases eA
        exact hc⟩
      have CWI : Kept (∀ w', Below wr.heap.size wr w' → w'.cell? (Aw.add i) = some (.int .u32 (wi : Int))) := ⟨fun w' hb => by
        obtain ⟨A, eA, _, hc⟩ := ((KW.out.under HB).under hb).cell hwi
        cases eA
        exact hc⟩
      have GD : Kept (rootsL.getD i 0 = ki ∧ ws.getD i 0 = wi) := ⟨by simp only [List.getD_eq_getElem?_getD, hki, hwi, Option.getD_some, and_self]⟩
      have Lki : Kept (ki < 4294967296) := ⟨rootsL_small i ki hki⟩
      have Lwi : Kept (wi < 4294967296) := ⟨SW.out i wi hwi⟩
      clear CELL hki hwi
      obtain ⟨t0, ht0⟩ : ∃ z, z = rotr x4 6 := ⟨_, rfl⟩
      have Et0 : Kept _ := ⟨ht0⟩
      have Lt0 : Kept (t0 < 4294967296) := ⟨by rw [ht0]; exact rotr_lt x4 6 Lx4.out⟩
      have Ct0 : Kept (∀ w', Calls Tryd.prog 43 [.int .u32 (x4 : Int), .int .i64 6].toArray w' fun e w2 => e = .returned (.int .u32 (t0 : Int)) ∧ Below w'.heap.size w' w2) := ⟨fun w' => by rw [ht0]; exact (turn_any x4 6 w' Lx4.out (by decide)).mono fun e w2 hh => ⟨hh.1, by rw [hh.2]; exact Below.refl _ _⟩⟩
      obtain ⟨t1, ht1⟩ : ∃ z, z = rotr x4 11 := ⟨_, rfl⟩
      have Et1 : Kept _ := ⟨ht1⟩
      have Lt1 : Kept (t1 < 4294967296) := ⟨by rw [ht1]; exact rotr_lt x4 11 Lx4.out⟩
      have Ct1 : Kept (∀ w', Calls Tryd.prog 43 [.int .u32 (x4 : Int), .int .i64 11].toArray w' fun e w2 => e = .returned (.int .u32 (t1 : Int)) ∧ Below w'.heap.size w' w2) := ⟨fun w' => by rw [ht1]; exact (turn_any x4 11 w' Lx4.out (by decide)).mono fun e w2 hh => ⟨hh.1, by rw [hh.2]; exact Below.refl _ _⟩⟩
      obtain ⟨t2, ht2⟩ : ∃ z, z = rotr x4 25 := ⟨_, rfl⟩
      have Et2 : Kept _ := ⟨ht2⟩
      have Lt2 : Kept (t2 < 4294967296) := ⟨by rw [ht2]; exact rotr_lt x4 25 Lx4.out⟩
      have Ct2 : Kept (∀ w', Calls Tryd.prog 43 [.int .u32 (x4 : Int), .int .i64 25].toArray w' fun e w2 => e = .returned (.int .u32 (t2 : Int)) ∧ Below w'.heap.size w' w2) := ⟨fun w' => by rw [ht2]; exact (turn_any x4 25 w' Lx4.out (by decide)).mono fun e w2 hh => ⟨hh.1, by rw [hh.2]; exact Below.refl _ _⟩⟩
      obtain ⟨tx1, htx1⟩ : ∃ z, z = t0 ^^^ t1 := ⟨_, rfl⟩
      have Etx1 : Kept _ := ⟨htx1⟩
      have Ltx1 : Kept (tx1 < 4294967296) := ⟨by rw [htx1]; exact Nat.xor_lt_two_pow (n := 32) Lt0.out Lt1.out⟩
      obtain ⟨tx2, htx2⟩ : ∃ z, z = tx1 ^^^ t2 := ⟨_, rfl⟩
      have Etx2 : Kept _ := ⟨htx2⟩
      have Ltx2 : Kept (tx2 < 4294967296) := ⟨by rw [htx2]; exact Nat.xor_lt_two_pow (n := 32) Ltx1.out Lt2.out⟩
      obtain ⟨a1, ha1⟩ : ∃ z, z = (x7 + tx2) % 4294967296 := ⟨_, rfl⟩
      have Ea1 : Kept _ := ⟨ha1⟩
      have La1 : Kept (a1 < 4294967296) := ⟨by rw [ha1]; exact Nat.mod_lt _ (by decide)⟩
      obtain ⟨d1, hd1⟩ : ∃ z, z = x4 &&& x5 := ⟨_, rfl⟩
      have Ed1 : Kept _ := ⟨hd1⟩
      have Ld1 : Kept (d1 < 4294967296) := ⟨by rw [hd1]; exact Nat.and_lt_two_pow (n := 32) _ Lx5.out⟩
      obtain ⟨n4, hn4⟩ : ∃ z, z = 4294967295 ^^^ x4 := ⟨_, rfl⟩
      have En4 : Kept (bits .xor .u32 4294967295 (x4 : Int) = (n4 : Int)) := ⟨by rw [hn4]; exact u32_xor_nat 4294967295 x4 (by decide) Lx4.out⟩
      have Ln4 : Kept (n4 < 4294967296) := ⟨by rw [hn4]; exact Nat.xor_lt_two_pow (n := 32) (by decide) Lx4.out⟩
      obtain ⟨d2, hd2⟩ : ∃ z, z = n4 &&& x6 := ⟨_, rfl⟩
      have Ed2 : Kept _ := ⟨hd2⟩
      have Ld2 : Kept (d2 < 4294967296) := ⟨by rw [hd2]; exact Nat.and_lt_two_pow (n := 32) _ Lx6.out⟩
      obtain ⟨ch, hch⟩ : ∃ z, z = d1 ^^^ d2 := ⟨_, rfl⟩
      have Ech : Kept _ := ⟨hch⟩
      have Lch : Kept (ch < 4294967296) := ⟨by rw [hch]; exact Nat.xor_lt_two_pow (n := 32) Ld1.out Ld2.out⟩
      obtain ⟨a2, ha2⟩ : ∃ z, z = (a1 + ch) % 4294967296 := ⟨_, rfl⟩
      have Ea2 : Kept _ := ⟨ha2⟩
      have La2 : Kept (a2 < 4294967296) := ⟨by rw [ha2]; exact Nat.mod_lt _ (by decide)⟩
      obtain ⟨a3, ha3⟩ : ∃ z, z = (a2 + ki) % 4294967296 := ⟨_, rfl⟩
      have Ea3 : Kept _ := ⟨ha3⟩
      have La3 : Kept (a3 < 4294967296) := ⟨by rw [ha3]; exact Nat.mod_lt _ (by decide)⟩
      obtain ⟨tt, htt⟩ : ∃ z, z = (a3 + wi) % 4294967296 := ⟨_, rfl⟩
      have Ett : Kept _ := ⟨htt⟩
      have Ltt : Kept (tt < 4294967296) := ⟨by rw [htt]; exact Nat.mod_lt _ (by decide)⟩
      obtain ⟨q0, hq0⟩ : ∃ z, z = rotr x0 2 := ⟨_, rfl⟩
      have Eq0 : Kept _ := ⟨hq0⟩
      have Lq0 : Kept (q0 < 4294967296) := ⟨by rw [hq0]; exact rotr_lt x0 2 Lx0.out⟩
      have Cq0 : Kept (∀ w', Calls Tryd.prog 43 [.int .u32 (x0 : Int), .int .i64 2].toArray w' fun e w2 => e = .returned (.int .u32 (q0 : Int)) ∧ Below w'.heap.size w' w2) := ⟨fun w' => by rw [hq0]; exact (turn_any x0 2 w' Lx0.out (by decide)).mono fun e w2 hh => ⟨hh.1, by rw [hh.2]; exact Below.refl _ _⟩⟩
      obtain ⟨q1, hq1⟩ : ∃ z, z = rotr x0 13 := ⟨_, rfl⟩
      have Eq1 : Kept _ := ⟨hq1⟩
      have Lq1 : Kept (q1 < 4294967296) := ⟨by rw [hq1]; exact rotr_lt x0 13 Lx0.out⟩
      have Cq1 : Kept (∀ w', Calls Tryd.prog 43 [.int .u32 (x0 : Int), .int .i64 13].toArray w' fun e w2 => e = .returned (.int .u32 (q1 : Int)) ∧ Below w'.heap.size w' w2) := ⟨fun w' => by rw [hq1]; exact (turn_any x0 13 w' Lx0.out (by decide)).mono fun e w2 hh => ⟨hh.1, by rw [hh.2]; exact Below.refl _ _⟩⟩
      obtain ⟨q2, hq2⟩ : ∃ z, z = rotr x0 22 := ⟨_, rfl⟩
      have Eq2 : Kept _ := ⟨hq2⟩
      have Lq2 : Kept (q2 < 4294967296) := ⟨by rw [hq2]; exact rotr_lt x0 22 Lx0.out⟩
      have Cq2 : Kept (∀ w', Calls Tryd.prog 43 [.int .u32 (x0 : Int), .int .i64 22].toArray w' fun e w2 => e = .returned (.int .u32 (q2 : Int)) ∧ Below w'.heap.size w' w2) := ⟨fun w' => by rw [hq2]; exact (turn_any x0 22 w' Lx0.out (by decide)).mono fun e w2 hh => ⟨hh.1, by rw [hh.2]; exact Below.refl _ _⟩⟩
      obtain ⟨qx1, hqx1⟩ : ∃ z, z = q0 ^^^ q1 := ⟨_, rfl⟩
      have Eqx1 : Kept _ := ⟨hqx1⟩
      have Lqx1 : Kept (qx1 < 4294967296) := ⟨by rw [hqx1]; exact Nat.xor_lt_two_pow (n := 32) Lq0.out Lq1.out⟩
      obtain ⟨qx2, hqx2⟩ : ∃ z, z = qx1 ^^^ q2 := ⟨_, rfl⟩
      have Eqx2 : Kept _ := ⟨hqx2⟩
      have Lqx2 : Kept (qx2 < 4294967296) := ⟨by rw [hqx2]; exact Nat.xor_lt_two_pow (n := 32) Lqx1.out Lq2.out⟩
      obtain ⟨e1, he1⟩ : ∃ z, z = x0 &&& x1 := ⟨_, rfl⟩
      have Ee1 : Kept _ := ⟨he1⟩
      have Le1 : Kept (e1 < 4294967296) := ⟨by rw [he1]; exact Nat.and_lt_two_pow (n := 32) _ Lx1.out⟩
      obtain ⟨e2, he2⟩ : ∃ z, z = x0 &&& x2 := ⟨_, rfl⟩
      have Ee2 : Kept _ := ⟨he2⟩
      have Le2 : Kept (e2 < 4294967296) := ⟨by rw [he2]; exact Nat.and_lt_two_pow (n := 32) _ Lx2.out⟩
      obtain ⟨ex, hex⟩ : ∃ z, z = e1 ^^^ e2 := ⟨_, rfl⟩
      have Eex : Kept _ := ⟨hex⟩
      have Lex : Kept (ex < 4294967296) := ⟨by rw [hex]; exact Nat.xor_lt_two_pow (n := 32) Le1.out Le2.out⟩
      obtain ⟨e3, he3⟩ : ∃ z, z = x1 &&& x2 := ⟨_, rfl⟩
      have Ee3 : Kept _ := ⟨he3⟩
      have Le3 : Kept (e3 < 4294967296) := ⟨by rw [he3]; exact Nat.and_lt_two_pow (n := 32) _ Lx2.out⟩
      obtain ⟨mj, hmj⟩ : ∃ z, z = ex ^^^ e3 := ⟨_, rfl⟩
      have Emj : Kept _ := ⟨hmj⟩
      have Lmj : Kept (mj < 4294967296) := ⟨by rw [hmj]; exact Nat.xor_lt_two_pow (n := 32) Lex.out Le3.out⟩
      obtain ⟨uu, huu⟩ : ∃ z, z = (qx2 + mj) % 4294967296 := ⟨_, rfl⟩
      have Euu : Kept _ := ⟨huu⟩
      have Luu : Kept (uu < 4294967296) := ⟨by rw [huu]; exact Nat.mod_lt _ (by decide)⟩
      obtain ⟨y0, hy0⟩ : ∃ z, z = (tt + uu) % 4294967296 := ⟨_, rfl⟩
      have Ey0 : Kept _ := ⟨hy0⟩
      have Ly0 : Kept (y0 < 4294967296) := ⟨by rw [hy0]; exact Nat.mod_lt _ (by decide)⟩
      obtain ⟨y4, hy4⟩ : ∃ z, z = (x3 + tt) % 4294967296 := ⟨_, rfl⟩
      have Ey4 : Kept _ := ⟨hy4⟩
      have Ly4 : Kept (y4 < 4294967296) := ⟨by rw [hy4]; exact Nat.mod_lt _ (by decide)⟩
      have NEXT : Kept (roundTo st ws (i + 1) = [y0, x0, x1, x2, y4, x4, x5, x6]) := ⟨by
        have eT : tt = tN x4 x5 x6 x7 ((ki + wi) % 4294967296) := by rw [htt, ha3, two_sums, ha2, ha1, hch, hd1, hd2, hn4, htx2, htx1, ht0, ht1, ht2]; unfold tN chN; rw [turn3]
        have eU : uu = uN x0 x1 x2 := by rw [huu, hqx2, hqx1, hq0, hq1, hq2, hmj, hex, he1, he2, he3]; unfold uN majN; rw [turn3]
        rw [roundTo_succ, ← ES.out, GD.out.1, GD.out.2, hx, roundL_eq, ← eT, ← eU, ← hy0, ← hy4]⟩
      clear ht0 ht1 ht2 htx1 htx2 ha1 hd1 hn4 hd2 hch ha2 ha3 htt hq0 hq1 hq2 hqx1 hqx2 he1 he2 hex he3 hmj huu hy0 hy4 hx
      go_wp2_with fail
      refine region_ownL wr 8 [(25, .slice (some As) 8 cs), (26, .pointer (some (As.add 0))), (27, .int .u32 (x0 : Int)), (28, .slice (some As) 8 cs), (29, .pointer (some (As.add 4))), (30, .int .u32 (x4 : Int)), (10, .int .u32 (x0 : Int)), (11, .int .u32 (x4 : Int))] [] [] [] rfl (by kernel_rfl) (by kernel_rfl) (by kernel_rfl) (by kernel_rfl) (by kernel_rfl) (by kernel_rfl) (by kernel_rfl) (by kernel_rfl) (by kernel_rfl) (by kernel_rfl) (by kernel_rfl) ?hst1 ?hst2 (Below.refl _ _) (fun hA => ⟨ow_val hA (wants_none rfl) 25 (.slice (some As) 8 cs) (by kernel_rfl) rfl rfl rfl rfl (by kernel_rfl) (fun w => by kernel_rfl), ow_val hA (wants_none rfl) 26 (.pointer (some (As.add 0))) (by kernel_rfl) rfl rfl rfl rfl (by kernel_rfl) (fun w => run_idxS (i := 0) (l := 8) (c := cs) rfl (by kernel_rfl) (by kernel_rfl) Tryd.underlying64 (by decide) sz_u32 w), ow_elem hA (wants_none rfl) 27 (.int .u32 (x0 : Int)) (by kernel_rfl) rfl rfl rfl rfl (by kernel_rfl) 47 ag_u32 (.tmp 26) rfl (As.add 0) (by kernel_rfl) (fun w1 hb => CS0.out w1 hb), ow_val hA (wants_none rfl) 28 (.slice (some As) 8 cs) (by kernel_rfl) rfl rfl rfl rfl (by kernel_rfl) (fun w => by kernel_rfl), ow_val hA (wants_none rfl) 29 (.pointer (some (As.add 4))) (by kernel_rfl) rfl rfl rfl rfl (by kernel_rfl) (fun w => run_idxS (i := 4) (l := 8) (c := cs) rfl (by kernel_rfl) (by kernel_rfl) Tryd.underlying64 (by decide) sz_u32 w), ow_elem hA (wants_none rfl) 30 (.int .u32 (x4 : Int)) (by kernel_rfl) rfl rfl rfl rfl (by kernel_rfl) 47 ag_u32 (.tmp 29) rfl (As.add 4) (by kernel_rfl) (fun w1 hb => CS4.out w1 hb), ow_val hA (wants_none rfl) 10 (.int .u32 (x0 : Int)) (by kernel_rfl) rfl rfl rfl rfl (by kernel_rfl) (fun w => by kernel_rfl), ow_val hA (wants_none rfl) 11 (.int .u32 (x4 : Int)) (by kernel_rfl) rfl rfl rfl rfl (by kernel_rfl) (fun w => by kernel_rfl), trivial⟩) ?_
      case hst1 => intro q hq; cases hq
      case hst2 => intro q hq; cases hq
      intro fv w6 hf hD hb6
      simp only [putR, List.foldl_cons, List.foldl_nil, List.map_cons, List.map_nil, Act.put, List.setIfInBounds_toArray, List.set_cons_succ, List.set_cons_zero]
      simp only [List.drop_succ_cons, List.drop_zero, List.drop_nil]
      clear hf hD
      go_wp2_with fail
      refine region_ownL wr 35 [(31, .slice (some As) 8 cs), (32, .pointer (some (As.add 7))), (33, .int .u32 (x7 : Int)), (34, .int .u32 (x4 : Int)), (35, .int .u32 (t0 : Int)), (36, .int .u32 (x4 : Int)), (37, .int .u32 (t1 : Int)), (38, .int .u32 (tx1 : Int)), (39, .int .u32 (x4 : Int)), (40, .int .u32 (t2 : Int)), (41, .int .u32 (tx2 : Int)), (42, .int .u32 (a1 : Int)), (43, .int .u32 (x4 : Int)), (44, .slice (some As) 8 cs), (45, .pointer (some (As.add 5))), (46, .int .u32 (x5 : Int)), (47, .int .u32 (d1 : Int)), (48, .int .u32 (x4 : Int)), (49, .int .u32 (n4 : Int)), (50, .slice (some As) 8 cs), (51, .pointer (some (As.add 6))), (52, .int .u32 (x6 : Int)), (53, .int .u32 (d2 : Int)), (54, .int .u32 (ch : Int)), (55, .int .u32 (a2 : Int)), (56, .slice (some Ak) 64 ck), (57, .int .i64 (i : Int)), (58, .pointer (some (Ak.add i))), (59, .int .u32 (ki : Int)), (60, .int .u32 (a3 : Int)), (61, .slice (some Aw) 64 cw), (62, .int .i64 (i : Int)), (63, .pointer (some (Aw.add i))), (64, .int .u32 (wi : Int)), (65, .int .u32 (tt : Int))] [] [] [] rfl (by kernel_rfl) (by kernel_rfl) (by kernel_rfl) (by kernel_rfl) (by kernel_rfl) (by kernel_rfl) (by kernel_rfl) (by kernel_rfl) (by kernel_rfl) (by kernel_rfl) (by kernel_rfl) ?hst1 ?hst2 hb6 (fun hA => ⟨ow_val hA (wants_none rfl) 31 (.slice (some As) 8 cs) (by kernel_rfl) rfl rfl rfl rfl (by kernel_rfl) (fun w => by kernel_rfl), ow_val hA (wants_none rfl) 32 (.pointer (some (As.add 7))) (by kernel_rfl) rfl rfl rfl rfl (by kernel_rfl) (fun w => run_idxS (i := 7) (l := 8) (c := cs) rfl (by kernel_rfl) (by kernel_rfl) Tryd.underlying64 (by decide) sz_u32 w), ow_elem hA (wants_none rfl) 33 (.int .u32 (x7 : Int)) (by kernel_rfl) rfl rfl rfl rfl (by kernel_rfl) 47 ag_u32 (.tmp 32) rfl (As.add 7) (by kernel_rfl) (fun w1 hb => CS7.out w1 hb), ow_val hA (wants_none rfl) 34 (.int .u32 (x4 : Int)) (by kernel_rfl) rfl rfl rfl rfl (by kernel_rfl) (fun w => by kernel_rfl), ow_calld hA (wants_none rfl) 35 (.int .u32 (t0 : Int)) (by kernel_rfl) rfl rfl rfl rfl (by kernel_rfl) 43 Tryd.f43 _ [.tmp 34, .const (.int .i64 6)] _ [.int .u32 (x4 : Int), .int .i64 6] rfl (by kernel_rfl) Tryd.func43 (by kernel_rfl) rfl (fun w3 hb => Ct0.out w3), ow_val hA (wants_none rfl) 36 (.int .u32 (x4 : Int)) (by kernel_rfl) rfl rfl rfl rfl (by kernel_rfl) (fun w => by kernel_rfl), ow_calld hA (wants_none rfl) 37 (.int .u32 (t1 : Int)) (by kernel_rfl) rfl rfl rfl rfl (by kernel_rfl) 43 Tryd.f43 _ [.tmp 36, .const (.int .i64 11)] _ [.int .u32 (x4 : Int), .int .i64 11] rfl (by kernel_rfl) Tryd.func43 (by kernel_rfl) rfl (fun w3 hb => Ct1.out w3), ow_val hA (wants_none rfl) 38 (.int .u32 (tx1 : Int)) (by kernel_rfl) rfl rfl rfl rfl (by kernel_rfl) (fun w => run_xor32 rfl (by kernel_rfl) (by kernel_rfl) Lt0.out Lt1.out Etx1.out w), ow_val hA (wants_none rfl) 39 (.int .u32 (x4 : Int)) (by kernel_rfl) rfl rfl rfl rfl (by kernel_rfl) (fun w => by kernel_rfl), ow_calld hA (wants_none rfl) 40 (.int .u32 (t2 : Int)) (by kernel_rfl) rfl rfl rfl rfl (by kernel_rfl) 43 Tryd.f43 _ [.tmp 39, .const (.int .i64 25)] _ [.int .u32 (x4 : Int), .int .i64 25] rfl (by kernel_rfl) Tryd.func43 (by kernel_rfl) rfl (fun w3 hb => Ct2.out w3), ow_val hA (wants_none rfl) 41 (.int .u32 (tx2 : Int)) (by kernel_rfl) rfl rfl rfl rfl (by kernel_rfl) (fun w => run_xor32 rfl (by kernel_rfl) (by kernel_rfl) Ltx1.out Lt2.out Etx2.out w), ow_val hA (wants_none rfl) 42 (.int .u32 (a1 : Int)) (by kernel_rfl) rfl rfl rfl rfl (by kernel_rfl) (fun w => run_add32 rfl (by kernel_rfl) (by kernel_rfl) Ea1.out w), ow_val hA (wants_none rfl) 43 (.int .u32 (x4 : Int)) (by kernel_rfl) rfl rfl rfl rfl (by kernel_rfl) (fun w => by kernel_rfl), ow_val hA (wants_none rfl) 44 (.slice (some As) 8 cs) (by kernel_rfl) rfl rfl rfl rfl (by kernel_rfl) (fun w => by kernel_rfl), ow_val hA (wants_none rfl) 45 (.pointer (some (As.add 5))) (by kernel_rfl) rfl rfl rfl rfl (by kernel_rfl) (fun w => run_idxS (i := 5) (l := 8) (c := cs) rfl (by kernel_rfl) (by kernel_rfl) Tryd.underlying64 (by decide) sz_u32 w), ow_elem hA (wants_none rfl) 46 (.int .u32 (x5 : Int)) (by kernel_rfl) rfl rfl rfl rfl (by kernel_rfl) 47 ag_u32 (.tmp 45) rfl (As.add 5) (by kernel_rfl) (fun w1 hb => CS5.out w1 hb), ow_val hA (wants_none rfl) 47 (.int .u32 (d1 : Int)) (by kernel_rfl) rfl rfl rfl rfl (by kernel_rfl) (fun w => run_and32 rfl (by kernel_rfl) (by kernel_rfl) Lx4.out Lx5.out Ed1.out w), ow_val hA (wants_none rfl) 48 (.int .u32 (x4 : Int)) (by kernel_rfl) rfl rfl rfl rfl (by kernel_rfl) (fun w => by kernel_rfl), ow_val hA (wants_none rfl) 49 (.int .u32 (n4 : Int)) (by kernel_rfl) rfl rfl rfl rfl (by kernel_rfl) (fun w => neg_run rfl (by kernel_rfl) En4.out w), ow_val hA (wants_none rfl) 50 (.slice (some As) 8 cs) (by kernel_rfl) rfl rfl rfl rfl (by kernel_rfl) (fun w => by kernel_rfl), ow_val hA (wants_none rfl) 51 (.pointer (some (As.add 6))) (by kernel_rfl) rfl rfl rfl rfl (by kernel_rfl) (fun w => run_idxS (i := 6) (l := 8) (c := cs) rfl (by kernel_rfl) (by kernel_rfl) Tryd.underlying64 (by decide) sz_u32 w), ow_elem hA (wants_none rfl) 52 (.int .u32 (x6 : Int)) (by kernel_rfl) rfl rfl rfl rfl (by kernel_rfl) 47 ag_u32 (.tmp 51) rfl (As.add 6) (by kernel_rfl) (fun w1 hb => CS6.out w1 hb), ow_val hA (wants_none rfl) 53 (.int .u32 (d2 : Int)) (by kernel_rfl) rfl rfl rfl rfl (by kernel_rfl) (fun w => run_and32 rfl (by kernel_rfl) (by kernel_rfl) Ln4.out Lx6.out Ed2.out w), ow_val hA (wants_none rfl) 54 (.int .u32 (ch : Int)) (by kernel_rfl) rfl rfl rfl rfl (by kernel_rfl) (fun w => run_xor32 rfl (by kernel_rfl) (by kernel_rfl) Ld1.out Ld2.out Ech.out w), ow_val hA (wants_none rfl) 55 (.int .u32 (a2 : Int)) (by kernel_rfl) rfl rfl rfl rfl (by kernel_rfl) (fun w => run_add32 rfl (by kernel_rfl) (by kernel_rfl) Ea2.out w), ow_val hA (wants_none rfl) 56 (.slice (some Ak) 64 ck) (by kernel_rfl) rfl rfl rfl rfl (by kernel_rfl) (fun w => by kernel_rfl), ow_val hA (wants_none rfl) 57 (.int .i64 (i : Int)) (by kernel_rfl) rfl rfl rfl rfl (by kernel_rfl) (fun w => by kernel_rfl), ow_val hA (wants_none rfl) 58 (.pointer (some (Ak.add i))) (by kernel_rfl) rfl rfl rfl rfl (by kernel_rfl) (fun w => run_idxS (i := i) (l := 64) (c := ck) rfl (by kernel_rfl) (by kernel_rfl) Tryd.underlying64 i64 sz_u32 w), ow_elem hA (wants_none rfl) 59 (.int .u32 (ki : Int)) (by kernel_rfl) rfl rfl rfl rfl (by kernel_rfl) 47 ag_u32 (.tmp 58) rfl (Ak.add i) (by kernel_rfl) (fun w1 hb => CK.out w1 hb), ow_val hA (wants_none rfl) 60 (.int .u32 (a3 : Int)) (by kernel_rfl) rfl rfl rfl rfl (by kernel_rfl) (fun w => run_add32 rfl (by kernel_rfl) (by kernel_rfl) Ea3.out w), ow_val hA (wants_none rfl) 61 (.slice (some Aw) 64 cw) (by kernel_rfl) rfl rfl rfl rfl (by kernel_rfl) (fun w => by kernel_rfl), ow_val hA (wants_none rfl) 62 (.int .i64 (i : Int)) (by kernel_rfl) rfl rfl rfl rfl (by kernel_rfl) (fun w => by kernel_rfl), ow_val hA (wants_none rfl) 63 (.pointer (some (Aw.add i))) (by kernel_rfl) rfl rfl rfl rfl (by kernel_rfl) (fun w => run_idxS (i := i) (l := 64) (c := cw) rfl (by kernel_rfl) (by kernel_rfl) Tryd.underlying64 i64 sz_u32 w), ow_elem hA (wants_none rfl) 64 (.int .u32 (wi : Int)) (by kernel_rfl) rfl rfl rfl rfl (by kernel_rfl) 47 ag_u32 (.tmp 63) rfl (Aw.add i) (by kernel_rfl) (fun w1 hb => CWI.out w1 hb), ow_val hA (wants_none rfl) 65 (.int .u32 (tt : Int)) (by kernel_rfl) rfl rfl rfl rfl (by kernel_rfl) (fun w => run_add32 rfl (by kernel_rfl) (by kernel_rfl) Ett.out w), trivial⟩) ?_
      case hst1 => intro q hq; cases hq
      case hst2 => intro q hq; cases hq
      intro fv w7 hf hD hb7
      simp only [putR, List.foldl_cons, List.foldl_nil, List.map_cons, List.map_nil, Act.put, List.setIfInBounds_toArray, List.set_cons_succ, List.set_cons_zero]
      clear hf hD hb6
      go_wp2_with fail
      refine region_ownL wr 28 [(66, .int .u32 (x0 : Int)), (67, .int .u32 (q0 : Int)), (68, .int .u32 (x0 : Int)), (69, .int .u32 (q1 : Int)), (70, .int .u32 (qx1 : Int)), (71, .int .u32 (x0 : Int)), (72, .int .u32 (q2 : Int)), (73, .int .u32 (qx2 : Int)), (74, .int .u32 (x0 : Int)), (75, .slice (some As) 8 cs), (76, .pointer (some (As.add 1))), (77, .int .u32 (x1 : Int)), (78, .int .u32 (e1 : Int)), (79, .int .u32 (x0 : Int)), (80, .slice (some As) 8 cs), (81, .pointer (some (As.add 2))), (82, .int .u32 (x2 : Int)), (83, .int .u32 (e2 : Int)), (84, .int .u32 (ex : Int)), (85, .slice (some As) 8 cs), (86, .pointer (some (As.add 1))), (87, .int .u32 (x1 : Int)), (88, .slice (some As) 8 cs), (89, .pointer (some (As.add 2))), (90, .int .u32 (x2 : Int)), (91, .int .u32 (e3 : Int)), (92, .int .u32 (mj : Int)), (93, .int .u32 (uu : Int))] [] [] [] rfl (by kernel_rfl) (by kernel_rfl) (by kernel_rfl) (by kernel_rfl) (by kernel_rfl) (by kernel_rfl) (by kernel_rfl) (by kernel_rfl) (by kernel_rfl) (by kernel_rfl) (by kernel_rfl) ?hst1 ?hst2 hb7 (fun hA => ⟨ow_val hA (wants_none rfl) 66 (.int .u32 (x0 : Int)) (by kernel_rfl) rfl rfl rfl rfl (by kernel_rfl) (fun w => by kernel_rfl), ow_calld hA (wants_none rfl) 67 (.int .u32 (q0 : Int)) (by kernel_rfl) rfl rfl rfl rfl (by kernel_rfl) 43 Tryd.f43 _ [.tmp 66, .const (.int .i64 2)] _ [.int .u32 (x0 : Int), .int .i64 2] rfl (by kernel_rfl) Tryd.func43 (by kernel_rfl) rfl (fun w3 hb => Cq0.out w3), ow_val hA (wants_none rfl) 68 (.int .u32 (x0 : Int)) (by kernel_rfl) rfl rfl rfl rfl (by kernel_rfl) (fun w => by kernel_rfl), ow_calld hA (wants_none rfl) 69 (.int .u32 (q1 : Int)) (by kernel_rfl) rfl rfl rfl rfl (by kernel_rfl) 43 Tryd.f43 _ [.tmp 68, .const (.int .i64 13)] _ [.int .u32 (x0 : Int), .int .i64 13] rfl (by kernel_rfl) Tryd.func43 (by kernel_rfl) rfl (fun w3 hb => Cq1.out w3), ow_val hA (wants_none rfl) 70 (.int .u32 (qx1 : Int)) (by kernel_rfl) rfl rfl rfl rfl (by kernel_rfl) (fun w => run_xor32 rfl (by kernel_rfl) (by kernel_rfl) Lq0.out Lq1.out Eqx1.out w), ow_val hA (wants_none rfl) 71 (.int .u32 (x0 : Int)) (by kernel_rfl) rfl rfl rfl rfl (by kernel_rfl) (fun w => by kernel_rfl), ow_calld hA (wants_none rfl) 72 (.int .u32 (q2 : Int)) (by kernel_rfl) rfl rfl rfl rfl (by kernel_rfl) 43 Tryd.f43 _ [.tmp 71, .const (.int .i64 22)] _ [.int .u32 (x0 : Int), .int .i64 22] rfl (by kernel_rfl) Tryd.func43 (by kernel_rfl) rfl (fun w3 hb => Cq2.out w3), ow_val hA (wants_none rfl) 73 (.int .u32 (qx2 : Int)) (by kernel_rfl) rfl rfl rfl rfl (by kernel_rfl) (fun w => run_xor32 rfl (by kernel_rfl) (by kernel_rfl) Lqx1.out Lq2.out Eqx2.out w), ow_val hA (wants_none rfl) 74 (.int .u32 (x0 : Int)) (by kernel_rfl) rfl rfl rfl rfl (by kernel_rfl) (fun w => by kernel_rfl), ow_val hA (wants_none rfl) 75 (.slice (some As) 8 cs) (by kernel_rfl) rfl rfl rfl rfl (by kernel_rfl) (fun w => by kernel_rfl), ow_val hA (wants_none rfl) 76 (.pointer (some (As.add 1))) (by kernel_rfl) rfl rfl rfl rfl (by kernel_rfl) (fun w => run_idxS (i := 1) (l := 8) (c := cs) rfl (by kernel_rfl) (by kernel_rfl) Tryd.underlying64 (by decide) sz_u32 w), ow_elem hA (wants_none rfl) 77 (.int .u32 (x1 : Int)) (by kernel_rfl) rfl rfl rfl rfl (by kernel_rfl) 47 ag_u32 (.tmp 76) rfl (As.add 1) (by kernel_rfl) (fun w1 hb => CS1.out w1 hb), ow_val hA (wants_none rfl) 78 (.int .u32 (e1 : Int)) (by kernel_rfl) rfl rfl rfl rfl (by kernel_rfl) (fun w => run_and32 rfl (by kernel_rfl) (by kernel_rfl) Lx0.out Lx1.out Ee1.out w), ow_val hA (wants_none rfl) 79 (.int .u32 (x0 : Int)) (by kernel_rfl) rfl rfl rfl rfl (by kernel_rfl) (fun w => by kernel_rfl), ow_val hA (wants_none rfl) 80 (.slice (some As) 8 cs) (by kernel_rfl) rfl rfl rfl rfl (by kernel_rfl) (fun w => by kernel_rfl), ow_val hA (wants_none rfl) 81 (.pointer (some (As.add 2))) (by kernel_rfl) rfl rfl rfl rfl (by kernel_rfl) (fun w => run_idxS (i := 2) (l := 8) (c := cs) rfl (by kernel_rfl) (by kernel_rfl) Tryd.underlying64 (by decide) sz_u32 w), ow_elem hA (wants_none rfl) 82 (.int .u32 (x2 : Int)) (by kernel_rfl) rfl rfl rfl rfl (by kernel_rfl) 47 ag_u32 (.tmp 81) rfl (As.add 2) (by kernel_rfl) (fun w1 hb => CS2.out w1 hb), ow_val hA (wants_none rfl) 83 (.int .u32 (e2 : Int)) (by kernel_rfl) rfl rfl rfl rfl (by kernel_rfl) (fun w => run_and32 rfl (by kernel_rfl) (by kernel_rfl) Lx0.out Lx2.out Ee2.out w), ow_val hA (wants_none rfl) 84 (.int .u32 (ex : Int)) (by kernel_rfl) rfl rfl rfl rfl (by kernel_rfl) (fun w => run_xor32 rfl (by kernel_rfl) (by kernel_rfl) Le1.out Le2.out Eex.out w), ow_val hA (wants_none rfl) 85 (.slice (some As) 8 cs) (by kernel_rfl) rfl rfl rfl rfl (by kernel_rfl) (fun w => by kernel_rfl), ow_val hA (wants_none rfl) 86 (.pointer (some (As.add 1))) (by kernel_rfl) rfl rfl rfl rfl (by kernel_rfl) (fun w => run_idxS (i := 1) (l := 8) (c := cs) rfl (by kernel_rfl) (by kernel_rfl) Tryd.underlying64 (by decide) sz_u32 w), ow_elem hA (wants_none rfl) 87 (.int .u32 (x1 : Int)) (by kernel_rfl) rfl rfl rfl rfl (by kernel_rfl) 47 ag_u32 (.tmp 86) rfl (As.add 1) (by kernel_rfl) (fun w1 hb => CS1.out w1 hb), ow_val hA (wants_none rfl) 88 (.slice (some As) 8 cs) (by kernel_rfl) rfl rfl rfl rfl (by kernel_rfl) (fun w => by kernel_rfl), ow_val hA (wants_none rfl) 89 (.pointer (some (As.add 2))) (by kernel_rfl) rfl rfl rfl rfl (by kernel_rfl) (fun w => run_idxS (i := 2) (l := 8) (c := cs) rfl (by kernel_rfl) (by kernel_rfl) Tryd.underlying64 (by decide) sz_u32 w), ow_elem hA (wants_none rfl) 90 (.int .u32 (x2 : Int)) (by kernel_rfl) rfl rfl rfl rfl (by kernel_rfl) 47 ag_u32 (.tmp 89) rfl (As.add 2) (by kernel_rfl) (fun w1 hb => CS2.out w1 hb), ow_val hA (wants_none rfl) 91 (.int .u32 (e3 : Int)) (by kernel_rfl) rfl rfl rfl rfl (by kernel_rfl) (fun w => run_and32 rfl (by kernel_rfl) (by kernel_rfl) Lx1.out Lx2.out Ee3.out w), ow_val hA (wants_none rfl) 92 (.int .u32 (mj : Int)) (by kernel_rfl) rfl rfl rfl rfl (by kernel_rfl) (fun w => run_xor32 rfl (by kernel_rfl) (by kernel_rfl) Lex.out Le3.out Emj.out w), ow_val hA (wants_none rfl) 93 (.int .u32 (uu : Int)) (by kernel_rfl) rfl rfl rfl rfl (by kernel_rfl) (fun w => run_add32 rfl (by kernel_rfl) (by kernel_rfl) Euu.out w), trivial⟩) ?_
      case hst1 => intro q hq; cases hq
      case hst2 => intro q hq; cases hq
      intro fv w8 hf hD hb8
      simp only [putR, List.foldl_cons, List.foldl_nil, List.map_cons, List.map_nil, Act.put, List.setIfInBounds_toArray, List.set_cons_succ, List.set_cons_zero]
      clear hf hD hb7
      go_wp2_with fail
      refine region_ownL wr 26 [(94, .int .u32 (tt : Int)), (95, .int .u32 (uu : Int)), (96, .int .u32 (y0 : Int)), (97, .slice (some As) 8 cs), (98, .pointer (some (As.add 0))), (99, .int .u32 (x0 : Int)), (100, .slice (some As) 8 cs), (101, .pointer (some (As.add 1))), (102, .int .u32 (x1 : Int)), (103, .slice (some As) 8 cs), (104, .pointer (some (As.add 2))), (105, .int .u32 (x2 : Int)), (106, .slice (some As) 8 cs), (107, .pointer (some (As.add 3))), (108, .int .u32 (x3 : Int)), (109, .int .u32 (tt : Int)), (110, .int .u32 (y4 : Int)), (111, .slice (some As) 8 cs), (112, .pointer (some (As.add 4))), (113, .int .u32 (x4 : Int)), (114, .slice (some As) 8 cs), (115, .pointer (some (As.add 5))), (116, .int .u32 (x5 : Int)), (117, .slice (some As) 8 cs), (118, .pointer (some (As.add 6))), (119, .int .u32 (x6 : Int))] [] [] [] rfl (by kernel_rfl) (by kernel_rfl) (by kernel_rfl) (by kernel_rfl) (by kernel_rfl) (by kernel_rfl) (by kernel_rfl) (by kernel_rfl) (by kernel_rfl) (by kernel_rfl) (by kernel_rfl) ?hst1 ?hst2 hb8 (fun hA => ⟨ow_val hA (wants_none rfl) 94 (.int .u32 (tt : Int)) (by kernel_rfl) rfl rfl rfl rfl (by kernel_rfl) (fun w => by kernel_rfl), ow_val hA (wants_none rfl) 95 (.int .u32 (uu : Int)) (by kernel_rfl) rfl rfl rfl rfl (by kernel_rfl) (fun w => by kernel_rfl), ow_val hA (wants_none rfl) 96 (.int .u32 (y0 : Int)) (by kernel_rfl) rfl rfl rfl rfl (by kernel_rfl) (fun w => run_add32 rfl (by kernel_rfl) (by kernel_rfl) Ey0.out w), ow_val hA (wants_none rfl) 97 (.slice (some As) 8 cs) (by kernel_rfl) rfl rfl rfl rfl (by kernel_rfl) (fun w => by kernel_rfl), ow_val hA (wants_none rfl) 98 (.pointer (some (As.add 0))) (by kernel_rfl) rfl rfl rfl rfl (by kernel_rfl) (fun w => run_idxS (i := 0) (l := 8) (c := cs) rfl (by kernel_rfl) (by kernel_rfl) Tryd.underlying64 (by decide) sz_u32 w), ow_elem hA (wants_none rfl) 99 (.int .u32 (x0 : Int)) (by kernel_rfl) rfl rfl rfl rfl (by kernel_rfl) 47 ag_u32 (.tmp 98) rfl (As.add 0) (by kernel_rfl) (fun w1 hb => CS0.out w1 hb), ow_val hA (wants_none rfl) 100 (.slice (some As) 8 cs) (by kernel_rfl) rfl rfl rfl rfl (by kernel_rfl) (fun w => by kernel_rfl), ow_val hA (wants_none rfl) 101 (.pointer (some (As.add 1))) (by kernel_rfl) rfl rfl rfl rfl (by kernel_rfl) (fun w => run_idxS (i := 1) (l := 8) (c := cs) rfl (by kernel_rfl) (by kernel_rfl) Tryd.underlying64 (by decide) sz_u32 w), ow_elem hA (wants_none rfl) 102 (.int .u32 (x1 : Int)) (by kernel_rfl) rfl rfl rfl rfl (by kernel_rfl) 47 ag_u32 (.tmp 101) rfl (As.add 1) (by kernel_rfl) (fun w1 hb => CS1.out w1 hb), ow_val hA (wants_none rfl) 103 (.slice (some As) 8 cs) (by kernel_rfl) rfl rfl rfl rfl (by kernel_rfl) (fun w => by kernel_rfl), ow_val hA (wants_none rfl) 104 (.pointer (some (As.add 2))) (by kernel_rfl) rfl rfl rfl rfl (by kernel_rfl) (fun w => run_idxS (i := 2) (l := 8) (c := cs) rfl (by kernel_rfl) (by kernel_rfl) Tryd.underlying64 (by decide) sz_u32 w), ow_elem hA (wants_none rfl) 105 (.int .u32 (x2 : Int)) (by kernel_rfl) rfl rfl rfl rfl (by kernel_rfl) 47 ag_u32 (.tmp 104) rfl (As.add 2) (by kernel_rfl) (fun w1 hb => CS2.out w1 hb), ow_val hA (wants_none rfl) 106 (.slice (some As) 8 cs) (by kernel_rfl) rfl rfl rfl rfl (by kernel_rfl) (fun w => by kernel_rfl), ow_val hA (wants_none rfl) 107 (.pointer (some (As.add 3))) (by kernel_rfl) rfl rfl rfl rfl (by kernel_rfl) (fun w => run_idxS (i := 3) (l := 8) (c := cs) rfl (by kernel_rfl) (by kernel_rfl) Tryd.underlying64 (by decide) sz_u32 w), ow_elem hA (wants_none rfl) 108 (.int .u32 (x3 : Int)) (by kernel_rfl) rfl rfl rfl rfl (by kernel_rfl) 47 ag_u32 (.tmp 107) rfl (As.add 3) (by kernel_rfl) (fun w1 hb => CS3.out w1 hb), ow_val hA (wants_none rfl) 109 (.int .u32 (tt : Int)) (by kernel_rfl) rfl rfl rfl rfl (by kernel_rfl) (fun w => by kernel_rfl), ow_val hA (wants_none rfl) 110 (.int .u32 (y4 : Int)) (by kernel_rfl) rfl rfl rfl rfl (by kernel_rfl) (fun w => run_add32 rfl (by kernel_rfl) (by kernel_rfl) Ey4.out w), ow_val hA (wants_none rfl) 111 (.slice (some As) 8 cs) (by kernel_rfl) rfl rfl rfl rfl (by kernel_rfl) (fun w => by kernel_rfl), ow_val hA (wants_none rfl) 112 (.pointer (some (As.add 4))) (by kernel_rfl) rfl rfl rfl rfl (by kernel_rfl) (fun w => run_idxS (i := 4) (l := 8) (c := cs) rfl (by kernel_rfl) (by kernel_rfl) Tryd.underlying64 (by decide) sz_u32 w), ow_elem hA (wants_none rfl) 113 (.int .u32 (x4 : Int)) (by kernel_rfl) rfl rfl rfl rfl (by kernel_rfl) 47 ag_u32 (.tmp 112) rfl (As.add 4) (by kernel_rfl) (fun w1 hb => CS4.out w1 hb), ow_val hA (wants_none rfl) 114 (.slice (some As) 8 cs) (by kernel_rfl) rfl rfl rfl rfl (by kernel_rfl) (fun w => by kernel_rfl), ow_val hA (wants_none rfl) 115 (.pointer (some (As.add 5))) (by kernel_rfl) rfl rfl rfl rfl (by kernel_rfl) (fun w => run_idxS (i := 5) (l := 8) (c := cs) rfl (by kernel_rfl) (by kernel_rfl) Tryd.underlying64 (by decide) sz_u32 w), ow_elem hA (wants_none rfl) 116 (.int .u32 (x5 : Int)) (by kernel_rfl) rfl rfl rfl rfl (by kernel_rfl) 47 ag_u32 (.tmp 115) rfl (As.add 5) (by kernel_rfl) (fun w1 hb => CS5.out w1 hb), ow_val hA (wants_none rfl) 117 (.slice (some As) 8 cs) (by kernel_rfl) rfl rfl rfl rfl (by kernel_rfl) (fun w => by kernel_rfl), ow_val hA (wants_none rfl) 118 (.pointer (some (As.add 6))) (by kernel_rfl) rfl rfl rfl rfl (by kernel_rfl) (fun w => run_idxS (i := 6) (l := 8) (c := cs) rfl (by kernel_rfl) (by kernel_rfl) Tryd.underlying64 (by decide) sz_u32 w), ow_elem hA (wants_none rfl) 119 (.int .u32 (x6 : Int)) (by kernel_rfl) rfl rfl rfl rfl (by kernel_rfl) 47 ag_u32 (.tmp 118) rfl (As.add 6) (by kernel_rfl) (fun w1 hb => CS6.out w1 hb), trivial⟩) ?_
      case hst1 => intro q hq; cases hq
      case hst2 => intro q hq; cases hq
      intro fv w9 hf hD hb9
      simp only [putR, List.foldl_cons, List.foldl_nil, List.map_cons, List.map_nil, Act.put, List.setIfInBounds_toArray, List.set_cons_succ, List.set_cons_zero]
      have HB9 := HB.trans (hb9.mono HB.size)
      clear hf hD hb8 hb9 HB KS
      go_wp2_with fail
      go_roundg (gk - 1)
      case measure => omega
      case rel => exact ⟨i + 1, by omega, by rfl, ⟨⟨HB9.alloc HB9.size _, by rw [NEXT.out]; exact blk_ints (t := 47) (blk_new w9 _ _) rfl⟩⟩⟩
    obtain rfl : i = 64 := by omega
    have KR : Kept (IntsV .u32 (.slice (some As) 8 cs) wr RR) := ⟨by rw [ERR.out, ← ES.out]; exact KS.out⟩
    have K0r : Kept _ := ⟨(K0.out.under hb1).under HB⟩
    clear hik hi KS ES SS LS
    go_wp2_with fail
    rename World => wz
    go_loopg [14, 15] 8 (fun m s14 s15 wq => ∃ i : Nat, i + m = 8 ∧ s15 = .int .i64 (i : Int) ∧ Kept (Below wz.heap.size wz wq ∧ Row wz.heap.size 47 .u32 ((plusL st RR).take i) s14 wq))
    case atStart => exact ⟨0, by omega, rfl, ⟨⟨Below.refl _ _, row_nil _ _ _ _⟩⟩⟩
    case round =>
      obtain ⟨i, hik, rfl, KK⟩ := hrel
      obtain ⟨HQ, RO⟩ := KK.out
      have KO : Kept _ := ⟨RO⟩
      clear KK RO
      by_cases hi : i < 8
      case pos =>
        have hi' : (i : Int) < 8 := by omega
        have i8 : i < 8 := hi
        obtain ⟨x, hx⟩ : ∃ x, st[i]? = some x := ⟨_, List.getElem?_eq_getElem (by have := HS.out; omega)⟩
        obtain ⟨y, hy⟩ : ∃ x, RR[i]? = some x := ⟨_, List.getElem?_eq_getElem (by have := LR.out; omega)⟩
        have CX : Kept (∀ w', Below wr.heap.size wr w' → w'.cell? (A0.add i) = some (.int .u32 (x : Int))) := ⟨fun w' hb => by
          obtain ⟨A, eA, _, hc⟩ := ((K0r.out.under HQ).under hb).cell hx
          cases eA
          exact hc⟩
        have CY : Kept (∀ w', Below wr.heap.size wr w' → w'.cell? (As.add i) = some (.int .u32 (y : Int))) := ⟨fun w' hb => by
          obtain ⟨A, eA, _, hc⟩ := ((KR.out.under HQ).under hb).cell hy
          cases eA
          exact hc⟩
        obtain ⟨z, hz⟩ : ∃ z, z = (x + y) % 4294967296 := ⟨_, rfl⟩
        have Ez : Kept _ := ⟨hz⟩
        have PT : Kept ((plusL st RR).take (i + 1) = (plusL st RR).take i ++ [z]) := ⟨by rw [hz]; exact plus_take st RR i x y hx hy⟩
        have SN : Kept (((plusL st RR).take i).length + [z].length ≤ 8796093022208) := ⟨by simp; omega⟩
        clear hx hy hz
        go_wp2_with fail
        refine region_ownL wr 11 [(125, u14), (126, .slice (some A0) 8 c0), (127, .int .i64 (i : Int)), (128, .pointer (some (A0.add i))), (129, .int .u32 (x : Int)), (130, .slice (some As) 8 cs), (131, .int .i64 (i : Int)), (132, .pointer (some (As.add i))), (133, .int .u32 (y : Int)), (134, .int .u32 (z : Int))] [(135, Const 47 .u32 [z])] [135] [] rfl (by kernel_rfl) (by kernel_rfl) (by kernel_rfl) (by kernel_rfl) (by kernel_rfl) (by kernel_rfl) (by kernel_rfl) (by kernel_rfl) (by kernel_rfl) (by kernel_rfl) (by kernel_rfl) ?hst1 ?hst2 (Below.refl _ _) (fun hA => ⟨ow_val hA (wants_none rfl) 125 (u14) (by kernel_rfl) rfl rfl rfl rfl (by kernel_rfl) (fun w => by kernel_rfl), ow_val hA (wants_none rfl) 126 (.slice (some A0) 8 c0) (by kernel_rfl) rfl rfl rfl rfl (by kernel_rfl) (fun w => by kernel_rfl), ow_val hA (wants_none rfl) 127 (.int .i64 (i : Int)) (by kernel_rfl) rfl rfl rfl rfl (by kernel_rfl) (fun w => by kernel_rfl), ow_val hA (wants_none rfl) 128 (.pointer (some (A0.add i))) (by kernel_rfl) rfl rfl rfl rfl (by kernel_rfl) (fun w => run_idxS (i := i) (l := 8) (c := c0) rfl (by kernel_rfl) (by kernel_rfl) Tryd.underlying64 i8 sz_u32 w), ow_elem hA (wants_none rfl) 129 (.int .u32 (x : Int)) (by kernel_rfl) rfl rfl rfl rfl (by kernel_rfl) 47 ag_u32 (.tmp 128) rfl (A0.add i) (by kernel_rfl) (fun w1 hb => CX.out w1 hb), ow_val hA (wants_none rfl) 130 (.slice (some As) 8 cs) (by kernel_rfl) rfl rfl rfl rfl (by kernel_rfl) (fun w => by kernel_rfl), ow_val hA (wants_none rfl) 131 (.int .i64 (i : Int)) (by kernel_rfl) rfl rfl rfl rfl (by kernel_rfl) (fun w => by kernel_rfl), ow_val hA (wants_none rfl) 132 (.pointer (some (As.add i))) (by kernel_rfl) rfl rfl rfl rfl (by kernel_rfl) (fun w => run_idxS (i := i) (l := 8) (c := cs) rfl (by kernel_rfl) (by kernel_rfl) Tryd.underlying64 i8 sz_u32 w), ow_elem hA (wants_none rfl) 133 (.int .u32 (y : Int)) (by kernel_rfl) rfl rfl rfl rfl (by kernel_rfl) 47 ag_u32 (.tmp 132) rfl (As.add i) (by kernel_rfl) (fun w1 hb => CY.out w1 hb), ow_val hA (wants_none rfl) 134 (.int .u32 (z : Int)) (by kernel_rfl) rfl rfl rfl rfl (by kernel_rfl) (fun w => run_add32 rfl (by kernel_rfl) (by kernel_rfl) Ez.out w), ow_run (wants_none rfl) 135 rfl (fun a w1 hF hb hgot => ⟨.slice (some ⟨w1.heap.size, 0, none⟩) 1 1, w1.alloc (.cells #[.int .u32 (z : Int)] 47), none, build_one rfl (gotE_det (v := .int .u32 (z : Int)) hA hgot (by kernel_rfl) rfl rfl (by kernel_rfl)), rel_spec (Const 47 .u32 [z]) rfl ⟨w1.heap.size, (0, 0), rfl, heap_new w1 _⟩, grown_none ((Below.refl _ _).alloc (Nat.le_refl _) _), fun b hb => (by cases hb), fun _ b hb => .inl (by cases hb; exact ⟨Nat.le_refl _, by simp⟩)⟩), trivial⟩) ?_
        case hst1 =>
          intro q hq hO
          simp only [List.mem_cons, List.not_mem_nil, or_false] at hq
          rcases hq with rfl
          cases hO
        case hst2 =>
          intro q hq hO v wc wd row k1 k2 k3 k4
          simp only [List.mem_cons, List.not_mem_nil, or_false] at hq
          rcases hq with rfl
          exact Const.keeps k1 k2 k3
        intro fv wr4 hf hD hb4
        have K135 : Kept _ := ⟨(hf 135 _ rfl rfl).1.ints⟩
        simp only [putR, List.foldl_cons, List.foldl_nil, List.map_cons, List.map_nil, Act.put, List.setIfInBounds_toArray, List.set_cons_succ, List.set_cons_zero]
        have HQ4 := HQ.trans (hb4.mono HQ.size)
        have KO4 : Kept _ := ⟨KO.out.under hb4⟩
        clear hf hD HQ KO hb4 CX CY
        refine wl_app (by kernel_rfl) (.tmp 125) (.tmp 135) 64 47 .u32 4 rfl Tryd.underlying64 inf_u32 (by decide) wz.heap.size ((plusL st RR).take i) [z] u14 (fv 135) (by kernel_rfl) (by kernel_rfl) KO4.out K135.out SN.out HQ4.size ?_
        intro v3 w5 R5 G5 _
        have HQ5 : Below wz.heap.size wz w5 := HQ4.trans (grown_mono G5 HQ4.size (fun b hb => (KO4.out.range b hb).1))
        have R5 : Kept (Row wz.heap.size 47 .u32 ((plusL st RR).take (i + 1)) v3 w5) := ⟨by rw [PT.out]; exact R5⟩
        clear G5 HQ4 KO4
        go_wp2_with fail
        go_roundg (gk - 1)
        case measure => omega
        case rel => exact ⟨i + 1, by omega, by rfl, ⟨⟨HQ5, R5.out⟩⟩⟩
      obtain rfl : i = 8 := by omega
      have HBF := hb1.trans ((HB.trans (HQ.mono HB.size)).mono hb1.size)
      have RF : Kept (Row w.heap.size 47 .u32 (plusL st RR) u14 wr) := ⟨by
        have := KO.out.mono (b' := w.heap.size) (Nat.le_trans hb1.size HB.size)
        rw [List.take_of_length_le (by rw [plusL_len _ _ (by rw [HS.out, LR.out]), HS.out]; exact Nat.le_refl _)] at this
        exact this⟩
      go_wp2_with fail
      go_ret
      exact ⟨_, rfl, RF.out, HBF⟩
end Go.Proofs.YthnkipicehppmaaDoor.sh
