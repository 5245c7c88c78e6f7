/-
  The reference of layer 10: New.
-/
import Derived.Test.YtniogaimhkcedaaDoorLD
namespace Go.Proofs.YtniogaimhkcedaaDoor.sh
open Go Go.RowKit
set_option linter.unusedVariables false
set_option linter.unusedSimpArgs false

theorem had_cell {base g n cap i : Nat} {cc : List Bool} {x : Bool} {w : World} (h : VRow base 4 (cc.map Value.bool) (.slice (some ⟨g, 0, none⟩) n cap) w) (hx : cc[i]? = some x) : w.cell? ⟨g, i, none⟩ = some (.bool x) := by
  have h1 := vals_cell (vrow_vals h) (show (cc.map Value.bool)[i]? = some (.bool x) by rw [List.getElem?_map, hx]; rfl)
  rwa [addr_add, Nat.zero_add] at h1
section
variable {ops : Array Oper} {rest : List Oper} {o : Oper} {a : Act} {w : World} {Q : Exit → Act → World → Prop} {d : Nat}
theorem run_loadTerm (w : World) (A : Addr) (k : Nat) (V : Value) (hc : w.cell? A = some (.int .u8 (k : Int)) ∧ w.cell? (A.add 1) = some V) : (loadVar 41 A).run Tryd.prog w = .ok (.agg #[.int .u8 (k : Int), V]) w := by
  have hl : (loadCells A [Value.int .u8 (k : Int), V].length).run Tryd.prog w = .ok [Value.int .u8 (k : Int), V].toArray w :=
    run_loadCells_list (P := Tryd.prog) w A [Value.int .u8 (k : Int), V] (fun j v hv => by
      match j, hv with
      | 0, hv => cases hv; rw [show A.add 0 = A by simp [Addr.add]]; exact hc.1
      | 1, hv => cases hv; exact hc.2
      | j + 2, hv => simp at hv)
  have h2 : [Value.int .u8 (k : Int), V].length = 2 := rfl
  rw [h2] at hl
  have ha : (isAgg 41).run Tryd.prog w = .ok true w := by kernel_rfl
  have hs : (sizeOf 41).run Tryd.prog w = .ok 2 w := by kernel_rfl
  unfold loadVar
  simp [ha, hs, hl]
/-- A term is read. -/
theorem wv_term (hd : o.dst = some d) (hw : Region.wanted o (yielded ops a.tmps) = true) (x : Operand) (ho : o.op = .load 41 x) (A : Addr) (hx : a.eval x = .pointer (some A)) (k : Nat) (V : Value) (hc : w.cell? A = some (.int .u8 (k : Int)) ∧ w.cell? (A.add 1) = some V)
    (h : wpList Tryd.prog ops Q rest (a.put o.dst (.agg #[.int .u8 (k : Int), V])) w) : wpList Tryd.prog ops Q (o :: rest) a w :=
  BigFrame.wpList_want hw fun K hK => by
    have hrun : (execOp a.eval o).run Tryd.prog w = .ok (.value (.agg #[.int .u8 (k : Int), V])) w := by
      unfold execOp
      simp only [ho, hx, Instr.loadAt, Instr.sureAddr, Sem.run_bind, Sem.run_pure, Result.andThen_ok, run_loadTerm w A k V hc]
    unfold Oper.wp
    rw [hrun]
    exact hK _ _ h
theorem wl_mkB (hgd : o.guard = none) (x : Operand) (ho : o.op = .makeSlice 33 x x) (n : Nat) (hx : a.eval x = .int .i64 (n : Int)) (hn : n < 1000001)
    (h : wpList Tryd.prog ops Q rest (a.put o.dst (.slice (some ⟨w.heap.size, 0, none⟩) n n)) (w.alloc (.cells (Array.replicate n (.bool false)) 4))) : wpList Tryd.prog ops Q (o :: rest) a w :=
  wpList_plain hgd fun K hK => by
    have hrun : (execOp a.eval o).run Tryd.prog w = .ok (.value (.slice (some ⟨w.heap.size, 0, none⟩) n n)) (w.alloc (.cells (Array.replicate n (.bool false)) 4)) := by
      unfold execOp
      simp only [ho, hx]
      simp [run_mkV Tryd.underlying33 inf_bool rfl (by decide) n hn w]
    unfold Oper.wp
    rw [hrun]
    exact hK _ _ h
end
theorem run_eqIJ {o : Oper} {a : Act} {x y : Operand} {m n : Nat} {b : Bool} (ho : o.op = .binOp .eql 3 x y 3) (hx : a.eval x = .int .i64 (m : Int)) (hy : a.eval y = .int .i64 (n : Int)) (hb : b = decide (m = n)) (w : World) : (execOp a.eval o).run Tryd.prog w = .ok (.value (.bool b)) w := by
  unfold execOp
  simp only [ho, hx, hy]
  rw [hb]
  by_cases h : m = n
  · subst h; simp [go_sem]
  · have h2 : ¬ (m : Int) = (n : Int) := by omega
    simp [go_sem, h, h2]
set_option maxRecDepth 100000 in
set_option maxHeartbeats 16000000 in
theorem rNewD {D : Nat → Prop} {ts : List TermL} {told : List (List Nat)} {b : List Bool} {v V : Value} {w : World} (hv : TsV D v w ts) (hK : TermsB ts) (hts : ts.length ≤ 200000) (hV : ValsV V w (strs told)) (hy : ∀ s ∈ told, Bytes s ∧ s.length ≤ 40000) (hn : told.length ≤ 1000000) (hb : IsK ts told b) :
    Calls Tryd.prog 13 #[v, V] w fun e w' => (∃ V', e = .returned V' ∧ VRow w.heap.size 4 (b.map Value.bool) V' w') ∧ Below w.heap.size w w' := by
  obtain ⟨N, hN⟩ : ∃ N, N = ts.length := ⟨_, rfl⟩
  obtain ⟨nt, hnt⟩ : ∃ n, n = told.length := ⟨_, rfl⟩
  obtain ⟨p, c, rfl, _⟩ := ts_form hv hN.symm
  obtain ⟨pT, cT, rfl, _⟩ := vals_form hV (show (strs told).length = nt by rw [strs_len, hnt])
  have KTs : Kept _ := ⟨hv⟩
  have KK : Kept _ := ⟨hK⟩
  have Kts : Kept (ts.length < 1000000) := ⟨by omega⟩
  have KV : Kept _ := ⟨hV⟩
  have Kty : Kept (∀ s ∈ told, Bytes s ∧ s.length ≤ 40000) := ⟨hy⟩
  have Kb : Kept _ := ⟨hb⟩
  have KN : Kept _ := ⟨hN⟩
  have Knt : Kept _ := ⟨hnt⟩
  have hN1 : N < 1000001 := by omega
  have hnt1 : nt ≤ 1000000 := by omega
  obtain ⟨Hs, hH⟩ : ∃ H, H = w.heap.size := ⟨_, rfl⟩
  have KH : Kept _ := ⟨hH⟩
  have Kst : Kept (VRow Hs 4 ((List.replicate N false).map Value.bool) (.slice (some ⟨w.heap.size, 0, none⟩) N N) (w.alloc (.cells (Array.replicate N (.bool false)) 4)) ∧ Below w.heap.size w (w.alloc (.cells (Array.replicate N (.bool false)) 4))) := ⟨by rw [List.map_replicate]; exact vrow_mkV w (by omega) hN1, (Below.refl _ _).alloc (Nat.le_refl _) _⟩
  clear hv hK hts hV hy hn hb hN hnt hH
  go_enter Tryd.func13, Tryd.ntmps13
  go_wp2_with (first | (refine wl_mkB rfl (.tmp 11) rfl N (by kernel_rfl) hN1 ?_; simp only [Act.put, List.setIfInBounds_toArray, List.set_cons_succ, List.set_cons_zero]))
  go_loopg [5, 6] nt (fun g s5 s6 wr => ∃ (i : Nat) (cc : List Bool), i + g = nt ∧ s6 = .int .i64 (i : Int) ∧ VRow Hs 4 (cc.map Value.bool) s5 wr ∧ Below w.heap.size w wr ∧ Kept (cc.length = N ∧ ∀ n, hadP cc n ↔ ∃ s ∈ told.take i, Leaf ts s n))
  case atStart => exact ⟨0, List.replicate N false, by omega, rfl, Kst.out.1, Kst.out.2, ⟨List.length_replicate, fun n => ⟨fun h => absurd h (had_none _ _), fun ⟨s, hs, _⟩ => by simp at hs⟩⟩⟩
  case round =>
    rename World => wz
    obtain ⟨i, cc, hik, rfl, hr, qz, KJ⟩ := hrel
    by_cases hk0 : gk = 0
    case neg =>
      have hin : i < nt := by omega
      have hin' : (i : Int) < (nt : Int) := by omega
      have hi1 : (i : Int) + 1 ≤ 9223372036854775807 := by omega
      obtain ⟨x, hx⟩ : ∃ x, told[i]? = some x := ⟨_, List.getElem?_eq_getElem (by rw [← Knt.out]; exact hin)⟩
      obtain ⟨A, rfl, hA, hcell⟩ := vals_at (KV.out.under qz) (strs_get hx)
      have hxy := Kty.out x (List.mem_of_getElem? hx)
      have KC : Kept _ := ⟨hcell⟩
      have Kx : Kept _ := ⟨hx⟩
      obtain ⟨pH, cH, rfl, _⟩ := vals_form (vrow_vals hr) (show (cc.map Value.bool).length = N by rw [List.length_map]; exact KJ.out.1)
      have KTe : Kept _ := ⟨TellD (KTs.out.under qz) Kts.out (vrow_vals hr) (by rw [KJ.out.1, KN.out]) hxy.1 hxy.2⟩
      clear hcell hx hxy hr
      go_wp2_with (first | ((with_reducible refine wv_val (d := 23) ?hd ?hw (.pointer (some (A.add i))) ?hr ?_); (case hd => rfl); (case hw => kernel_rfl); (case hr => intro w; exact run_idxS (c := cT) rfl (by kernel_rfl) (by kernel_rfl) Tryd.underlying29 hin Tryd.sizeOf9 w); simp only [Act.put, List.setIfInBounds_toArray, List.set_cons_succ, List.set_cons_zero]) | ((with_reducible refine wv_elem (d := 24) ?hd ?hw 9 ag_str (.tmp 23) ?ho (A.add i) ?hx (.string (strOf x)) ?hc ?_); (case hd => rfl); (case hw => kernel_rfl); (case ho => rfl); (case hx => kernel_rfl); (case hc => exact KC.out); simp only [Act.put, List.setIfInBounds_toArray, List.set_cons_succ, List.set_cons_zero]))
      refine KTe.out.mono ?_
      rintro e w2 ⟨⟨V2, d2, rfl, hr2, hl2, hj2⟩, q2⟩
      have KR2 : Kept _ := ⟨VRow.mono (b' := Hs) hr2 (by rw [KH.out]; exact qz.size)⟩
      have Kl2 : Kept _ := ⟨hl2⟩
      have Kj2 : Kept _ := ⟨hj2⟩
      replace qz := qz.trans (q2.mono qz.size)
      clear hr2 hl2 hj2 q2 KTe
      go_wp2_with fail
      go_roundg (gk - 1)
      case measure => omega
      case rel =>
        refine ⟨i + 1, d2, by omega, by simp, KR2.out, qz, ⟨by rw [Kl2.out]; exact KJ.out.1, fun n => ?_⟩⟩
        rw [Kj2.out n, KJ.out.2 n, List.take_add_one, Kx.out, Option.toList_some]
        constructor
        · rintro (⟨s, h1, h2⟩ | h)
          · exact ⟨s, List.mem_append_left _ h1, h2⟩
          · exact ⟨x, by simp, h⟩
        · rintro ⟨s, h1, h2⟩
          rcases List.mem_append.1 h1 with h1 | h1
          · exact .inl ⟨s, h1, h2⟩
          · rw [List.mem_singleton] at h1
            rw [h1] at h2
            exact .inr h2
    case pos =>
      obtain rfl : nt = i := by omega
      have KHad : Kept (HadI ts told cc) := ⟨HadI.first (KJ.out.1.trans KN.out) (by have := KJ.out.2; rwa [List.take_of_length_le (by rw [← Knt.out]; exact Nat.le_refl _)] at this)⟩
      have Kr : Kept _ := ⟨hr⟩
      have Kqz : Kept _ := ⟨qz⟩
      clear hr qz KJ hik
      go_wp2_with fail
      go_loopg [5] (N + 1) (fun g s5 wr => ∃ cc : List Bool, N + 1 ≤ g + cntB cc ∧ VRow Hs 4 (cc.map Value.bool) s5 wr ∧ Below w.heap.size w wr ∧ Kept (HadI ts told cc))
      case atStart => exact ⟨cc, by omega, Kr.out, Kqz.out, KHad⟩
      case round =>
        rename World => wo
        obtain ⟨c0, hg0, hr0, qo, KI⟩ := hrel
        obtain ⟨gO, hgO⟩ : ∃ q, q = gk := ⟨_, rfl⟩
        have hc0N : c0.length = N := by rw [KI.out.len, KN.out]
        obtain ⟨pH0, cH0, rfl, _⟩ := vals_form (vrow_vals hr0) (show (c0.map Value.bool).length = N by rw [List.length_map, hc0N])
        have KCo : Kept _ := ⟨countD (vrow_vals hr0) (by rw [hc0N]; omega)⟩
        obtain ⟨n0, hn0⟩ : ∃ n, n = cntB c0 := ⟨_, rfl⟩
        rw [← hn0] at KCo
        have Kn0 : Kept _ := ⟨hn0⟩
        have Kr0 : Kept _ := ⟨hr0⟩
        have Kg0 : Kept _ := ⟨hg0⟩
        have Kqo : Kept _ := ⟨qo⟩
        clear hr0 hn0 hg0 qo
        have hg0 : N + 1 ≤ gO + n0 := by have := Kg0.out; have := Kn0.out; omega
        have hn0N : n0 ≤ N := by rw [Kn0.out, ← hc0N]; exact cnt_le c0
        go_wp2_with fail
        refine KCo.out.mono ?_
        rintro e w1 ⟨rfl, q1⟩
        have Kr1 : Kept _ := ⟨Kr0.out.under q1⟩
        have Kq1 : Kept _ := ⟨Kqo.out.trans (q1.mono Kqo.out.size)⟩
        clear q1 KCo
        go_wp2_with fail
        go_loopg [5, 8] N (fun g s5 s8 wr => ∃ (i : Nat) (cc : List Bool), i + g = N ∧ s8 = .int .i64 (i : Int) ∧ VRow Hs 4 (cc.map Value.bool) s5 wr ∧ Below w.heap.size w wr ∧ Kept (HadI ts told cc ∧ Pass ts c0 cc i))
        case atStart => exact ⟨0, c0, by omega, rfl, Kr1.out, Kq1.out, ⟨KI.out, Pass.start _ _⟩⟩
        case round =>
         rename World => wz
         obtain ⟨i, cc, hik, rfl, hr, qz, KJ⟩ := hrel
         have hccN : cc.length = N := by rw [KJ.out.1.len, KN.out]
         by_cases hk0 : gk = 0
         case pos =>
          obtain rfl : N = i := by omega
          obtain ⟨pH, cH, rfl, _⟩ := vals_form (vrow_vals hr) (show (cc.map Value.bool).length = N by rw [List.length_map, hccN])
          have KCo : Kept _ := ⟨countD (vrow_vals hr) (by rw [hccN]; omega)⟩
          obtain ⟨n1, hn1⟩ : ∃ n, n = cntB cc := ⟨_, rfl⟩
          rw [← hn1] at KCo
          have Kn1 : Kept _ := ⟨hn1⟩
          have Kr : Kept _ := ⟨hr⟩
          clear hr hn1
          have hcnt := KJ.out.2.count
          rw [← Kn0.out, ← Kn1.out] at hcnt
          by_cases hnn : n1 = n0
          case pos =>
            have Beq : Kept (true = decide (n1 = n0)) := ⟨(decide_eq_true hnn).symm⟩
            have ecc : cc = c0 := hcnt.2 hnn.symm
            have Kbb : Kept (b = cc) := ⟨IsK.one Kb.out (isK_done KJ.out.1 (fun j hj => by
              have := KJ.out.2.same ecc j (by rw [KN.out]; exact hj)
              rwa [← ecc] at this))⟩
            clear hnn hcnt ecc
            go_wp2_with fail
            refine KCo.out.mono ?_
            rintro e w2 ⟨rfl, q2⟩
            have Kr2 : Kept _ := ⟨Kr.out.under q2⟩
            replace qz := qz.trans (q2.mono qz.size)
            clear q2 KCo
            go_wp2_with (first | ((with_reducible refine wv_val (d := 80) ?hd ?hw (.bool true) ?hr ?_); (case hd => rfl); (case hw => kernel_rfl); (case hr => intro w; exact run_eqIJ rfl (by kernel_rfl) (by kernel_rfl) Beq.out w); simp only [Act.put, List.setIfInBounds_toArray, List.set_cons_succ, List.set_cons_zero]))
            go_ret
            exact ⟨⟨_, rfl, by rw [Kbb.out, ← KH.out]; exact Kr2.out⟩, qz⟩
          case neg =>
            have Beq : Kept (false = decide (n1 = n0)) := ⟨(decide_eq_false hnn).symm⟩
            have hlt : n0 < n1 := by omega
            clear hnn hcnt
            go_wp2_with fail
            refine KCo.out.mono ?_
            rintro e w2 ⟨rfl, q2⟩
            have Kr2 : Kept _ := ⟨Kr.out.under q2⟩
            replace qz := qz.trans (q2.mono qz.size)
            clear q2 KCo
            go_wp2_with (first | ((with_reducible refine wv_val (d := 80) ?hd ?hw (.bool false) ?hr ?_); (case hd => rfl); (case hw => kernel_rfl); (case hr => intro w; exact run_eqIJ rfl (by kernel_rfl) (by kernel_rfl) Beq.out w); simp only [Act.put, List.setIfInBounds_toArray, List.set_cons_succ, List.set_cons_zero]))
            go_roundg (gO - 1)
            case measure => omega
            case rel => exact ⟨cc, by have := Kn1.out; omega, Kr2.out, qz, ⟨KJ.out.1⟩⟩
         case neg =>
          have hin : i < N := by omega
          have hin' : (i : Int) < (N : Int) := by omega
          have hi1 : (i : Int) + 1 ≤ 9223372036854775807 := by omega
          obtain ⟨t, ht⟩ : ∃ t, ts[i]? = some t := ⟨_, List.getElem?_eq_getElem (by rw [← KN.out]; exact hin)⟩
          have hmem := List.mem_of_getElem? ht
          have htF := KK.out.terms.2 t hmem
          have htC := KK.out.terms.1.2 t hmem
          obtain ⟨k, ll⟩ := t
          have hbox : k = 5 → ∃ x n a z, ll = [x, n, a, z] := fun e => KK.out.box ll (by rw [← e]; exact hmem)
          obtain ⟨A, U2, rfl, hA, hc0, hc1, hV2⟩ := ts_at KTs.out ht
          obtain ⟨mU, hmU⟩ : ∃ m, m = ll.length := ⟨_, rfl⟩
          obtain ⟨pU, cU, rfl, _⟩ := vals_form hV2 (show (strs ll).length = mU by rw [strs_len, hmU])
          obtain ⟨gH, cH, cur, rfl, hgB, hbk, hcs⟩ := vrow_boolform hr hccN (by omega)
          obtain ⟨bi, hbi⟩ : ∃ bi, cc[i]? = some bi := ⟨_, List.getElem?_eq_getElem (by omega)⟩
          obtain ⟨f, hf⟩ := ex_bool (MakesK ts (hadP cc) (k, ll))
          obtain ⟨AA, hAA⟩ : ∃ AA : Array Value, AA = #[.int .u8 (k : Int), .slice pU mU cU] := ⟨_, rfl⟩
          have KAA : Kept _ := ⟨hAA⟩
          have KA0 : Kept (AA[0]? = some (.int .u8 (k : Int))) := ⟨by rw [hAA]; rfl⟩
          have KA1c : Kept (AA[1]? = some (.slice pU mU cU)) := ⟨by rw [hAA]; rfl⟩
          have KA1 : Kept (AA.all (·.oneCell') = true) := ⟨by rw [hAA]; simp [Value.oneCell']⟩
          have KA2 : Kept (AA.size = 2) := ⟨by rw [hAA]; rfl⟩
          have K0 : Kept _ := ⟨(qz.cell (by rw [add_block]; exact hA)).trans hc0⟩
          have K1 : Kept _ := ⟨(qz.cell (p := (A.add (i * 2)).add 1) (by rw [add_block, add_block]; exact hA)).trans hc1⟩
          have KVU : Kept _ := ⟨hV2⟩
          have KmU : Kept _ := ⟨hmU⟩
          have Kht : Kept _ := ⟨ht⟩
          have Kbox : Kept (k = 5 → ∃ x n a z, ll = [x, n, a, z]) := ⟨hbox⟩
          have KFC : Kept (∀ x ∈ ll, Bytes x ∧ x.length ≤ 40000) := ⟨fun x hx => ⟨htF.1 x hx, Nat.le_trans (htC.2.1 x hx) (by decide)⟩⟩
          have KR : Kept _ := ⟨hr⟩
          have Kq : Kept _ := ⟨qz⟩
          have Kqs : Kept _ := ⟨qz.size⟩
          have Kbi : Kept _ := ⟨hbi⟩
          have Kf : Kept (Tells f (MakesK ts (hadP cc) (k, ll))) := ⟨hf⟩
          have KccN : Kept _ := ⟨hccN⟩
          have Khb : Kept (hadP cc i ↔ bi = true) := ⟨had_at hbi⟩
          have KHs : Kept (Hs ≤ wz.heap.size) := ⟨by rw [KH.out]; exact qz.size⟩
          have Kmk : Kept (∀ w1, Below w.heap.size w w1 → VRow Hs 4 (cc.map Value.bool) (.slice (some ⟨gH, 0, none⟩) N cH) w1 → Calls Tryd.prog 35 #[.slice (some A) N c, .slice (some ⟨gH, 0, none⟩) N cH, .agg AA] w1 fun e w' => e = .returned (.bool f) ∧ Below w1.heap.size w1 w') := ⟨fun w1 q hrr => by
            rw [hAA]
            exact makesD (KTs.out.under q) KK.out.terms Kts.out (vrow_vals hrr) (by rw [hccN, KN.out]) htF htC hbox (hV2.under q) hf⟩
          clear ht hmem htF htC hbox hA hc0 hc1 hV2 hmU hr hgB hbk hcs hbi hf hAA qz hccN
          cases bi with
          | true =>
           have Kin : Kept (hadP cc i) := ⟨Khb.out.2 rfl⟩
           by_cases hk5 : k = 5
           case neg =>
             have B5 : Kept (false = decide (k = 5)) := ⟨(decide_eq_false hk5).symm⟩
             have Kk5 : Kept (k ≠ 5) := ⟨hk5⟩
             clear hk5
             go_wp2_with (first | ((with_reducible refine wv_val (d := 36) ?hd ?hw (.pointer (some (A.add (i * 2)))) ?hr ?_); (case hd => rfl); (case hw => kernel_rfl); (case hr => intro w; exact run_idxT (c := c) rfl (by kernel_rfl) (by kernel_rfl) hin w); simp only [Act.put, List.setIfInBounds_toArray, List.set_cons_succ, List.set_cons_zero]) | ((with_reducible refine wv_term (d := 37) ?hd ?hw (.tmp 36) ?ho (A.add (i * 2)) ?hx (k) (.slice pU mU cU) ?hc ?_); (case hd => rfl); (case hw => kernel_rfl); (case ho => rfl); (case hx => kernel_rfl); (case hc => exact ⟨K0.out, K1.out⟩); rw [← KAA.out]; simp only [Act.put, List.setIfInBounds_toArray, List.set_cons_succ, List.set_cons_zero]) | ((refine wl_store rfl 41 (.tmp 9) (.tmp 37) rfl wz.heap.size AA (by kernel_rfl) (by kernel_rfl) _ (blk_new wz 41 _) (by rw [KA2.out]; exact infoT2) (by rw [KA2.out]; rfl) KA1.out ?_); intro w2 hb2 hp2; have q2 : Below wz.heap.size wz w2 := ((Below.refl _ _).alloc (Nat.le_refl _) _).trans (hp2.below (Nat.le_refl _)); have KR2 : Kept _ := ⟨KR.out.under q2⟩; have KT2 : Kept _ := ⟨hb2⟩; have qz : Below w.heap.size w w2 := Kq.out.trans (q2.mono Kqs.out); clear hb2 hp2 q2; simp only [Act.put, List.setIfInBounds_toArray, List.set_cons_succ, List.set_cons_zero]) | ((with_reducible refine wv_val (d := 40) ?hd ?hw (.pointer (some ⟨gH, i, none⟩)) ?hr ?_); (case hd => rfl); (case hw => kernel_rfl); (case hr => intro w; exact run_idxZ (c := cH) rfl (by kernel_rfl) (by kernel_rfl) Tryd.underlying33 hin Tryd.sizeOf4 w); simp only [Act.put, List.setIfInBounds_toArray, List.set_cons_succ, List.set_cons_zero]) | ((with_reducible refine wv_elem (d := 41) ?hd ?hw 4 Tryd.isAgg4 (.tmp 40) ?ho (⟨gH, i, none⟩) ?hx (.bool true) ?hc ?_); (case hd => rfl); (case hw => kernel_rfl); (case ho => rfl); (case hx => kernel_rfl); (case hc => exact had_cell KR2.out Kbi.out); simp only [Act.put, List.setIfInBounds_toArray, List.set_cons_succ, List.set_cons_zero]) | ((with_reducible refine wv_val (d := 54) ?hd ?hw (.pointer (some ⟨gH, i, none⟩)) ?hr ?_); (case hd => rfl); (case hw => kernel_rfl); (case hr => intro w; exact run_idxZ (c := cH) rfl (by kernel_rfl) (by kernel_rfl) Tryd.underlying33 hin Tryd.sizeOf4 w); simp only [Act.put, List.setIfInBounds_toArray, List.set_cons_succ, List.set_cons_zero]) | ((with_reducible refine wv_elem (d := 55) ?hd ?hw 4 Tryd.isAgg4 (.tmp 54) ?ho (⟨gH, i, none⟩) ?hx (.bool true) ?hc ?_); (case hd => rfl); (case hw => kernel_rfl); (case ho => rfl); (case hx => kernel_rfl); (case hc => exact had_cell KR2.out Kbi.out); simp only [Act.put, List.setIfInBounds_toArray, List.set_cons_succ, List.set_cons_zero]) | ((with_reducible refine wv_elem (d := 58) ?hd ?hw 5 Tryd.isAgg5 (.tmp 57) ?ho (⟨wz.heap.size, 0, none⟩) ?hx (.int .u8 (k : Int)) ?hc ?_); (case hd => rfl); (case hw => kernel_rfl); (case ho => rfl); (case hx => kernel_rfl); (case hc => exact (KT2.out.cell KA0.out)); simp only [Act.put, List.setIfInBounds_toArray, List.set_cons_succ, List.set_cons_zero]) | ((with_reducible refine wv_val (d := 59) ?hd ?hw (.bool false) ?hr ?_); (case hd => rfl); (case hw => kernel_rfl); (case hr => intro w; exact run_eqU8 5 rfl (by kernel_rfl) B5.out w); simp only [Act.put, List.setIfInBounds_toArray, List.set_cons_succ, List.set_cons_zero]))
             go_roundg (gk - 1)
             case measure => omega
             case rel =>
               refine ⟨i + 1, cc, by omega, by simp, KR2.out, qz, ?_⟩
               obtain ⟨j1, j2⟩ := KJ.out
               have hpl := place_next (c := cc) (d := cc) Kht.out j1.len (.inr ⟨.inl Kin.out, rfl⟩) (.inr ⟨fun k2 n2 a2 x2 e2 _ => absurd (congrArg Prod.fst e2) Kk5.out, rfl⟩)
               exact ⟨j1, j2.next hpl.1 hpl.2.1 hpl.2.2⟩
           case pos =>
             have B5 : Kept (true = decide (k = 5)) := ⟨(decide_eq_true hk5).symm⟩
             obtain ⟨x0, x1, x2, x3, e5⟩ := Kbox.out hk5
             obtain ⟨g, hg⟩ := ex_bool (KnownS ts (hadP (cc)) x0)
             have Kg : Kept (Tells g (KnownS ts (hadP (cc)) x0)) := ⟨hg⟩
             have Kk5 : Kept _ := ⟨hk5⟩
             have Ke5 : Kept _ := ⟨e5⟩
             have hmU : mU = 4 := by rw [KmU.out, e5]; rfl
             subst hmU
             have hV4 := KVU.out
             rw [e5] at hV4
             obtain ⟨A2, eA, hA2, _⟩ := vals_at hV4 (show (strs [x0, x1, x2, x3])[0]? = some (.string (strOf x0)) from rfl)
             subst eA
             have KCu0 : Kept (∀ w1, Below w.heap.size w w1 → w1.cell? (A2.add 0) = some (.string (strOf x0))) := ⟨fun w1 q => (q.cell (by rw [add_block]; exact hA2)).trans (vals_cell hV4 rfl)⟩
             have KCu3 : Kept (∀ w1, Below w.heap.size w w1 → w1.cell? (A2.add 3) = some (.string (strOf x3))) := ⟨fun w1 q => (q.cell (by rw [add_block]; exact hA2)).trans (vals_cell hV4 rfl)⟩
             have hl0 : 0 < 4 := by decide
             have hl3 : 3 < 4 := by decide
             have Ky0 : Kept (Bytes x0 ∧ x0.length ≤ 40000) := ⟨KFC.out x0 (by rw [e5]; simp)⟩
             have Ky3 : Kept (Bytes x3 ∧ x3.length ≤ 40000) := ⟨KFC.out x3 (by rw [e5]; simp)⟩
             clear hk5 e5 hV4 hA2 hg
             go_wp2_with (first | ((with_reducible refine wv_val (d := 36) ?hd ?hw (.pointer (some (A.add (i * 2)))) ?hr ?_); (case hd => rfl); (case hw => kernel_rfl); (case hr => intro w; exact run_idxT (c := c) rfl (by kernel_rfl) (by kernel_rfl) hin w); simp only [Act.put, List.setIfInBounds_toArray, List.set_cons_succ, List.set_cons_zero]) | ((with_reducible refine wv_term (d := 37) ?hd ?hw (.tmp 36) ?ho (A.add (i * 2)) ?hx (k) (.slice (some A2) 4 cU) ?hc ?_); (case hd => rfl); (case hw => kernel_rfl); (case ho => rfl); (case hx => kernel_rfl); (case hc => exact ⟨K0.out, K1.out⟩); rw [← KAA.out]; simp only [Act.put, List.setIfInBounds_toArray, List.set_cons_succ, List.set_cons_zero]) | ((refine wl_store rfl 41 (.tmp 9) (.tmp 37) rfl wz.heap.size AA (by kernel_rfl) (by kernel_rfl) _ (blk_new wz 41 _) (by rw [KA2.out]; exact infoT2) (by rw [KA2.out]; rfl) KA1.out ?_); intro w2 hb2 hp2; have q2 : Below wz.heap.size wz w2 := ((Below.refl _ _).alloc (Nat.le_refl _) _).trans (hp2.below (Nat.le_refl _)); have KR2 : Kept _ := ⟨KR.out.under q2⟩; have KT2 : Kept _ := ⟨hb2⟩; have qz : Below w.heap.size w w2 := Kq.out.trans (q2.mono Kqs.out); clear hb2 hp2 q2; simp only [Act.put, List.setIfInBounds_toArray, List.set_cons_succ, List.set_cons_zero]) | ((with_reducible refine wv_val (d := 40) ?hd ?hw (.pointer (some ⟨gH, i, none⟩)) ?hr ?_); (case hd => rfl); (case hw => kernel_rfl); (case hr => intro w; exact run_idxZ (c := cH) rfl (by kernel_rfl) (by kernel_rfl) Tryd.underlying33 hin Tryd.sizeOf4 w); simp only [Act.put, List.setIfInBounds_toArray, List.set_cons_succ, List.set_cons_zero]) | ((with_reducible refine wv_elem (d := 41) ?hd ?hw 4 Tryd.isAgg4 (.tmp 40) ?ho (⟨gH, i, none⟩) ?hx (.bool true) ?hc ?_); (case hd => rfl); (case hw => kernel_rfl); (case ho => rfl); (case hx => kernel_rfl); (case hc => exact had_cell KR2.out Kbi.out); simp only [Act.put, List.setIfInBounds_toArray, List.set_cons_succ, List.set_cons_zero]) | ((with_reducible refine wv_val (d := 54) ?hd ?hw (.pointer (some ⟨gH, i, none⟩)) ?hr ?_); (case hd => rfl); (case hw => kernel_rfl); (case hr => intro w; exact run_idxZ (c := cH) rfl (by kernel_rfl) (by kernel_rfl) Tryd.underlying33 hin Tryd.sizeOf4 w); simp only [Act.put, List.setIfInBounds_toArray, List.set_cons_succ, List.set_cons_zero]) | ((with_reducible refine wv_elem (d := 55) ?hd ?hw 4 Tryd.isAgg4 (.tmp 54) ?ho (⟨gH, i, none⟩) ?hx (.bool true) ?hc ?_); (case hd => rfl); (case hw => kernel_rfl); (case ho => rfl); (case hx => kernel_rfl); (case hc => exact had_cell KR2.out Kbi.out); simp only [Act.put, List.setIfInBounds_toArray, List.set_cons_succ, List.set_cons_zero]) | ((with_reducible refine wv_elem (d := 58) ?hd ?hw 5 Tryd.isAgg5 (.tmp 57) ?ho (⟨wz.heap.size, 0, none⟩) ?hx (.int .u8 (k : Int)) ?hc ?_); (case hd => rfl); (case hw => kernel_rfl); (case ho => rfl); (case hx => kernel_rfl); (case hc => exact (KT2.out.cell KA0.out)); simp only [Act.put, List.setIfInBounds_toArray, List.set_cons_succ, List.set_cons_zero]) | ((with_reducible refine wv_val (d := 59) ?hd ?hw (.bool true) ?hr ?_); (case hd => rfl); (case hw => kernel_rfl); (case hr => intro w; exact run_eqU8 5 rfl (by kernel_rfl) B5.out w); simp only [Act.put, List.setIfInBounds_toArray, List.set_cons_succ, List.set_cons_zero]) | ((with_reducible refine wv_elem (d := 65) ?hd ?hw 29 ag_strs (.tmp 64) ?ho (⟨wz.heap.size, 1, none⟩) ?hx (.slice (some A2) 4 cU) ?hc ?_); (case hd => rfl); (case hw => kernel_rfl); (case ho => rfl); (case hx => kernel_rfl); (case hc => exact (KT2.out.cell KA1c.out)); simp only [Act.put, List.setIfInBounds_toArray, List.set_cons_succ, List.set_cons_zero]) | ((with_reducible refine wv_val (d := 66) ?hd ?hw (.pointer (some (A2.add 0))) ?hr ?_); (case hd => rfl); (case hw => kernel_rfl); (case hr => intro w; exact run_idxS (i := 0) (l := 4) (c := cU) rfl (by kernel_rfl) rfl Tryd.underlying29 hl0 Tryd.sizeOf9 w); simp only [Act.put, List.setIfInBounds_toArray, List.set_cons_succ, List.set_cons_zero]) | ((with_reducible refine wv_elem (d := 67) ?hd ?hw 9 ag_str (.tmp 66) ?ho (A2.add 0) ?hx (.string (strOf x0)) ?hc ?_); (case hd => rfl); (case hw => kernel_rfl); (case ho => rfl); (case hx => kernel_rfl); (case hc => exact (KCu0.out _ qz)); simp only [Act.put, List.setIfInBounds_toArray, List.set_cons_succ, List.set_cons_zero]))
             refine (KnownD (KTs.out.under qz) Kts.out (vrow_vals KR2.out) (by rw [KccN.out, KN.out]) Ky0.out.1 Ky0.out.2 Kg.out).mono ?_
             rintro e w7 ⟨rfl, q7⟩
             have KR7 : Kept _ := ⟨KR2.out.under q7⟩
             have KT7 : Kept _ := ⟨KT2.out.under q7⟩
             replace qz := qz.trans (q7.mono qz.size)
             clear q7
             cases g with
             | false =>
               go_wp2_with fail
               go_roundg (gk - 1)
               case measure => omega
               case rel =>
                 refine ⟨i + 1, cc, by omega, by simp, KR7.out, qz, ?_⟩
                 obtain ⟨j1, j2⟩ := KJ.out
                 have hpl := place_next (c := cc) (d := cc) Kht.out j1.len (.inr ⟨.inl Kin.out, rfl⟩) (.inr ⟨fun k2 n2 a2 x2 e2 _ hk => (by have h := congrArg Prod.snd e2; rw [show ((k, ll) : TermL).2 = ll from rfl, Ke5.out] at h; cases h; have := Kg.out.2 hk; cases this), rfl⟩)
                 exact ⟨j1, j2.next hpl.1 hpl.2.1 hpl.2.2⟩
             | true =>
               go_wp2_with (first | ((with_reducible refine wv_elem (d := 73) ?hd ?hw 29 ag_strs (.tmp 72) ?ho (⟨wz.heap.size, 1, none⟩) ?hx (.slice (some A2) 4 cU) ?hc ?_); (case hd => rfl); (case hw => kernel_rfl); (case ho => rfl); (case hx => kernel_rfl); (case hc => exact (KT7.out.cell KA1c.out)); simp only [Act.put, List.setIfInBounds_toArray, List.set_cons_succ, List.set_cons_zero]) | ((with_reducible refine wv_val (d := 74) ?hd ?hw (.pointer (some (A2.add 3))) ?hr ?_); (case hd => rfl); (case hw => kernel_rfl); (case hr => intro w; exact run_idxS (i := 3) (l := 4) (c := cU) rfl (by kernel_rfl) rfl Tryd.underlying29 hl3 Tryd.sizeOf9 w); simp only [Act.put, List.setIfInBounds_toArray, List.set_cons_succ, List.set_cons_zero]) | ((with_reducible refine wv_elem (d := 75) ?hd ?hw 9 ag_str (.tmp 74) ?ho (A2.add 3) ?hx (.string (strOf x3)) ?hc ?_); (case hd => rfl); (case hw => kernel_rfl); (case ho => rfl); (case hx => kernel_rfl); (case hc => exact (KCu3.out _ qz)); simp only [Act.put, List.setIfInBounds_toArray, List.set_cons_succ, List.set_cons_zero]))
               refine (TellD (KTs.out.under qz) Kts.out (vrow_vals KR7.out) (by rw [KccN.out, KN.out]) Ky3.out.1 Ky3.out.2).mono ?_
               rintro e w8 ⟨⟨V8, d8, rfl, hr8, hl8, hj8⟩, q8⟩
               have KR8 : Kept _ := ⟨VRow.mono (b' := Hs) hr8 (by rw [KH.out]; exact qz.size)⟩
               have Kl8 : Kept _ := ⟨hl8⟩
               have Kj8 : Kept _ := ⟨hj8⟩
               have Kone8 : Kept (ValsV V8 w8 (d8.map Value.bool)) := ⟨vrow_vals hr8⟩
               replace qz := qz.trans (q8.mono qz.size)
               clear q8 hr8 hl8 hj8
               go_wp2_with fail
               go_roundg (gk - 1)
               case measure => omega
               case rel =>
                 refine ⟨i + 1, d8, by omega, by simp, KR8.out, qz, ?_⟩
                 obtain ⟨j1, j2⟩ := KJ.out
                 have hpl := place_next (c := cc) (d := d8) Kht.out j1.len (.inr ⟨.inl Kin.out, rfl⟩) (.inl ⟨x0, x1, x2, x3, by rw [Kk5.out, Ke5.out], Kin.out, Kg.out.1 rfl, Kl8.out, Kj8.out⟩)
                 exact ⟨(j1).tell (k := x0) (n := x1) (a := x2) (x := x3) (by rw [Kht.out, Kk5.out, Ke5.out]) Kin.out (Kg.out.1 rfl) Kl8.out Kj8.out, j2.next hpl.1 hpl.2.1 hpl.2.2⟩
          | false =>
           have Kni : Kept (¬ hadP cc i) := ⟨fun h => by have := Khb.out.1 h; cases this⟩
           cases f with
           | false =>
            have Knm : Kept (¬ MakesK ts (hadP cc) (k, ll)) := ⟨fun h => by have := Kf.out.2 h; cases this⟩
            go_wp2_with (first | ((with_reducible refine wv_val (d := 36) ?hd ?hw (.pointer (some (A.add (i * 2)))) ?hr ?_); (case hd => rfl); (case hw => kernel_rfl); (case hr => intro w; exact run_idxT (c := c) rfl (by kernel_rfl) (by kernel_rfl) hin w); simp only [Act.put, List.setIfInBounds_toArray, List.set_cons_succ, List.set_cons_zero]) | ((with_reducible refine wv_term (d := 37) ?hd ?hw (.tmp 36) ?ho (A.add (i * 2)) ?hx (k) (.slice pU mU cU) ?hc ?_); (case hd => rfl); (case hw => kernel_rfl); (case ho => rfl); (case hx => kernel_rfl); (case hc => exact ⟨K0.out, K1.out⟩); rw [← KAA.out]; simp only [Act.put, List.setIfInBounds_toArray, List.set_cons_succ, List.set_cons_zero]) | ((refine wl_store rfl 41 (.tmp 9) (.tmp 37) rfl wz.heap.size AA (by kernel_rfl) (by kernel_rfl) _ (blk_new wz 41 _) (by rw [KA2.out]; exact infoT2) (by rw [KA2.out]; rfl) KA1.out ?_); intro w2 hb2 hp2; have q2 : Below wz.heap.size wz w2 := ((Below.refl _ _).alloc (Nat.le_refl _) _).trans (hp2.below (Nat.le_refl _)); have KR2 : Kept _ := ⟨KR.out.under q2⟩; have KT2 : Kept _ := ⟨hb2⟩; have qz : Below w.heap.size w w2 := Kq.out.trans (q2.mono Kqs.out); clear hb2 hp2 q2; simp only [Act.put, List.setIfInBounds_toArray, List.set_cons_succ, List.set_cons_zero]) | ((with_reducible refine wv_val (d := 40) ?hd ?hw (.pointer (some ⟨gH, i, none⟩)) ?hr ?_); (case hd => rfl); (case hw => kernel_rfl); (case hr => intro w; exact run_idxZ (c := cH) rfl (by kernel_rfl) (by kernel_rfl) Tryd.underlying33 hin Tryd.sizeOf4 w); simp only [Act.put, List.setIfInBounds_toArray, List.set_cons_succ, List.set_cons_zero]) | ((with_reducible refine wv_elem (d := 41) ?hd ?hw 4 Tryd.isAgg4 (.tmp 40) ?ho (⟨gH, i, none⟩) ?hx (.bool false) ?hc ?_); (case hd => rfl); (case hw => kernel_rfl); (case ho => rfl); (case hx => kernel_rfl); (case hc => exact had_cell KR2.out Kbi.out); simp only [Act.put, List.setIfInBounds_toArray, List.set_cons_succ, List.set_cons_zero]) | ((with_reducible refine wv_rowS (d := 46) ?hd ?hw 41 (.tmp 9) ?ho (wz.heap.size) ?hx (t' := 41) (AA) _ Tryd.underlying41 ?hs ?hg ?_); (case hd => rfl); (case hw => kernel_rfl); (case ho => rfl); (case hx => kernel_rfl); (case hs => rw [KA2.out]; exact infoT2); (case hg => exact KT2.out); simp only [Act.put, List.setIfInBounds_toArray, List.set_cons_succ, List.set_cons_zero]))
            refine (Kmk.out _ qz KR2.out).mono ?_
            rintro e w5 ⟨rfl, q5⟩
            have KR5 : Kept _ := ⟨KR2.out.under q5⟩
            replace qz := qz.trans (q5.mono qz.size)
            clear q5
            go_wp2_with (first | ((with_reducible refine wv_val (d := 54) ?hd ?hw (.pointer (some ⟨gH, i, none⟩)) ?hr ?_); (case hd => rfl); (case hw => kernel_rfl); (case hr => intro w; exact run_idxZ (c := cH) rfl (by kernel_rfl) (by kernel_rfl) Tryd.underlying33 hin Tryd.sizeOf4 w); simp only [Act.put, List.setIfInBounds_toArray, List.set_cons_succ, List.set_cons_zero]) | ((with_reducible refine wv_elem (d := 55) ?hd ?hw 4 Tryd.isAgg4 (.tmp 54) ?ho (⟨gH, i, none⟩) ?hx (.bool false) ?hc ?_); (case hd => rfl); (case hw => kernel_rfl); (case ho => rfl); (case hx => kernel_rfl); (case hc => exact had_cell KR5.out Kbi.out); simp only [Act.put, List.setIfInBounds_toArray, List.set_cons_succ, List.set_cons_zero]))
            go_roundg (gk - 1)
            case measure => omega
            case rel =>
              refine ⟨i + 1, cc, by omega, by simp, KR5.out, qz, ?_⟩
              obtain ⟨j1, j2⟩ := KJ.out
              have hpl := place_next (c := cc) (d := cc) Kht.out j1.len (.inr ⟨.inr Knm.out, rfl⟩) (.inr ⟨fun _ _ _ _ _ h => absurd h Kni.out, rfl⟩)
              exact ⟨j1, j2.next hpl.1 hpl.2.1 hpl.2.2⟩
           | true =>
            have Km : Kept (MakesK ts (hadP cc) (k, ll)) := ⟨Kf.out.1 rfl⟩
            have KciN : Kept (i < cc.length) := ⟨by rw [KccN.out]; exact hin⟩
            have Kin : Kept (hadP (cc.set i true) i) := ⟨(had_set KciN.out).2 (.inl rfl)⟩
            have Kbi2 : Kept ((cc.set i true)[i]? = some true) := ⟨Kin.out⟩
            go_wp2_with (first | ((with_reducible refine wv_val (d := 36) ?hd ?hw (.pointer (some (A.add (i * 2)))) ?hr ?_); (case hd => rfl); (case hw => kernel_rfl); (case hr => intro w; exact run_idxT (c := c) rfl (by kernel_rfl) (by kernel_rfl) hin w); simp only [Act.put, List.setIfInBounds_toArray, List.set_cons_succ, List.set_cons_zero]) | ((with_reducible refine wv_term (d := 37) ?hd ?hw (.tmp 36) ?ho (A.add (i * 2)) ?hx (k) (.slice pU mU cU) ?hc ?_); (case hd => rfl); (case hw => kernel_rfl); (case ho => rfl); (case hx => kernel_rfl); (case hc => exact ⟨K0.out, K1.out⟩); rw [← KAA.out]; simp only [Act.put, List.setIfInBounds_toArray, List.set_cons_succ, List.set_cons_zero]) | ((refine wl_store rfl 41 (.tmp 9) (.tmp 37) rfl wz.heap.size AA (by kernel_rfl) (by kernel_rfl) _ (blk_new wz 41 _) (by rw [KA2.out]; exact infoT2) (by rw [KA2.out]; rfl) KA1.out ?_); intro w2 hb2 hp2; have q2 : Below wz.heap.size wz w2 := ((Below.refl _ _).alloc (Nat.le_refl _) _).trans (hp2.below (Nat.le_refl _)); have KR2 : Kept _ := ⟨KR.out.under q2⟩; have KT2 : Kept _ := ⟨hb2⟩; have qz : Below w.heap.size w w2 := Kq.out.trans (q2.mono Kqs.out); clear hb2 hp2 q2; simp only [Act.put, List.setIfInBounds_toArray, List.set_cons_succ, List.set_cons_zero]) | ((with_reducible refine wv_val (d := 40) ?hd ?hw (.pointer (some ⟨gH, i, none⟩)) ?hr ?_); (case hd => rfl); (case hw => kernel_rfl); (case hr => intro w; exact run_idxZ (c := cH) rfl (by kernel_rfl) (by kernel_rfl) Tryd.underlying33 hin Tryd.sizeOf4 w); simp only [Act.put, List.setIfInBounds_toArray, List.set_cons_succ, List.set_cons_zero]) | ((with_reducible refine wv_elem (d := 41) ?hd ?hw 4 Tryd.isAgg4 (.tmp 40) ?ho (⟨gH, i, none⟩) ?hx (.bool false) ?hc ?_); (case hd => rfl); (case hw => kernel_rfl); (case ho => rfl); (case hx => kernel_rfl); (case hc => exact had_cell KR2.out Kbi.out); simp only [Act.put, List.setIfInBounds_toArray, List.set_cons_succ, List.set_cons_zero]) | ((with_reducible refine wv_rowS (d := 46) ?hd ?hw 41 (.tmp 9) ?ho (wz.heap.size) ?hx (t' := 41) (AA) _ Tryd.underlying41 ?hs ?hg ?_); (case hd => rfl); (case hw => kernel_rfl); (case ho => rfl); (case hx => kernel_rfl); (case hs => rw [KA2.out]; exact infoT2); (case hg => exact KT2.out); simp only [Act.put, List.setIfInBounds_toArray, List.set_cons_succ, List.set_cons_zero]))
            refine (Kmk.out _ qz KR2.out).mono ?_
            rintro e w5 ⟨rfl, q5⟩
            have KR5 : Kept _ := ⟨KR2.out.under q5⟩
            have KT5 : Kept _ := ⟨KT2.out.under q5⟩
            have Kq5 : Kept _ := ⟨qz.trans (q5.mono qz.size)⟩
            clear q5 qz
            obtain ⟨gH', cH', cur5, eH, hgB5, hbk5, hcs5⟩ := vrow_boolform KR5.out KccN.out (by omega)
            cases eH
            have Kbk5 : Kept _ := ⟨hbk5⟩
            have Kcs5 : Kept (i < cur5.size) := ⟨by omega⟩
            have Kne5 : Kept (wz.heap.size ≠ gH) := ⟨fun e => by have := (KR.out.range gH rfl).2; omega⟩
            have KgB5 : Kept _ := ⟨hgB5⟩
            clear hbk5 hgB5 hcs5
            by_cases hk5 : k = 5
            case neg =>
              have B5 : Kept (false = decide (k = 5)) := ⟨(decide_eq_false hk5).symm⟩
              have Kk5 : Kept (k ≠ 5) := ⟨hk5⟩
              clear hk5
              go_wp2_with (first | ((with_reducible refine wv_val (d := 51) ?hd ?hw (.pointer (some ⟨gH, i, none⟩)) ?hr ?_); (case hd => rfl); (case hw => kernel_rfl); (case hr => intro w; exact run_idxZ (c := cH) rfl (by kernel_rfl) (by kernel_rfl) Tryd.underlying33 hin Tryd.sizeOf4 w); simp only [Act.put, List.setIfInBounds_toArray, List.set_cons_succ, List.set_cons_zero]) | ((refine wl_set1 rfl 4 sz_bool (.tmp 51) (.const (.bool true)) rfl gH i (.bool true) (by kernel_rfl) rfl rfl cur5 Kbk5.out Kcs5.out ?_); intro w6 hb6 hp6; have KR6 : Kept _ := ⟨vrow_set KR5.out KccN.out.symm Kbk5.out hb6⟩; have KT6 : Kept _ := ⟨hp6.blk KT5.out Kne5.out⟩; have qz : Below w.heap.size w w6 := Kq5.out.trans (hp6.below (by rw [← KH.out]; exact KgB5.out)); clear hb6 hp6; simp only [Act.put, List.setIfInBounds_toArray, List.set_cons_succ, List.set_cons_zero]) | ((with_reducible refine wv_val (d := 54) ?hd ?hw (.pointer (some ⟨gH, i, none⟩)) ?hr ?_); (case hd => rfl); (case hw => kernel_rfl); (case hr => intro w; exact run_idxZ (c := cH) rfl (by kernel_rfl) (by kernel_rfl) Tryd.underlying33 hin Tryd.sizeOf4 w); simp only [Act.put, List.setIfInBounds_toArray, List.set_cons_succ, List.set_cons_zero]) | ((with_reducible refine wv_elem (d := 55) ?hd ?hw 4 Tryd.isAgg4 (.tmp 54) ?ho (⟨gH, i, none⟩) ?hx (.bool true) ?hc ?_); (case hd => rfl); (case hw => kernel_rfl); (case ho => rfl); (case hx => kernel_rfl); (case hc => exact had_cell KR6.out Kbi2.out); simp only [Act.put, List.setIfInBounds_toArray, List.set_cons_succ, List.set_cons_zero]) | ((with_reducible refine wv_elem (d := 58) ?hd ?hw 5 Tryd.isAgg5 (.tmp 57) ?ho (⟨wz.heap.size, 0, none⟩) ?hx (.int .u8 (k : Int)) ?hc ?_); (case hd => rfl); (case hw => kernel_rfl); (case ho => rfl); (case hx => kernel_rfl); (case hc => exact (KT6.out.cell KA0.out)); simp only [Act.put, List.setIfInBounds_toArray, List.set_cons_succ, List.set_cons_zero]) | ((with_reducible refine wv_val (d := 59) ?hd ?hw (.bool false) ?hr ?_); (case hd => rfl); (case hw => kernel_rfl); (case hr => intro w; exact run_eqU8 5 rfl (by kernel_rfl) B5.out w); simp only [Act.put, List.setIfInBounds_toArray, List.set_cons_succ, List.set_cons_zero]))
              go_roundg (gk - 1)
              case measure => omega
              case rel =>
                refine ⟨i + 1, cc.set i true, by omega, by simp, KR6.out, qz, ?_⟩
                obtain ⟨j1, j2⟩ := KJ.out
                have hpl := place_next (c := cc.set i true) (d := cc.set i true) Kht.out j1.len (.inl ⟨Kni.out, Km.out, rfl⟩) (.inr ⟨fun k2 n2 a2 x2 e2 _ => absurd (congrArg Prod.fst e2) Kk5.out, rfl⟩)
                exact ⟨(j1.make Kht.out Km.out), j2.next hpl.1 hpl.2.1 hpl.2.2⟩
            case pos =>
              have B5 : Kept (true = decide (k = 5)) := ⟨(decide_eq_true hk5).symm⟩
              obtain ⟨x0, x1, x2, x3, e5⟩ := Kbox.out hk5
              obtain ⟨g, hg⟩ := ex_bool (KnownS ts (hadP (cc.set i true)) x0)
              have Kg : Kept (Tells g (KnownS ts (hadP (cc.set i true)) x0)) := ⟨hg⟩
              have Kk5 : Kept _ := ⟨hk5⟩
              have Ke5 : Kept _ := ⟨e5⟩
              have hmU : mU = 4 := by rw [KmU.out, e5]; rfl
              subst hmU
              have hV4 := KVU.out
              rw [e5] at hV4
              obtain ⟨A2, eA, hA2, _⟩ := vals_at hV4 (show (strs [x0, x1, x2, x3])[0]? = some (.string (strOf x0)) from rfl)
              subst eA
              have KCu0 : Kept (∀ w1, Below w.heap.size w w1 → w1.cell? (A2.add 0) = some (.string (strOf x0))) := ⟨fun w1 q => (q.cell (by rw [add_block]; exact hA2)).trans (vals_cell hV4 rfl)⟩
              have KCu3 : Kept (∀ w1, Below w.heap.size w w1 → w1.cell? (A2.add 3) = some (.string (strOf x3))) := ⟨fun w1 q => (q.cell (by rw [add_block]; exact hA2)).trans (vals_cell hV4 rfl)⟩
              have hl0 : 0 < 4 := by decide
              have hl3 : 3 < 4 := by decide
              have Ky0 : Kept (Bytes x0 ∧ x0.length ≤ 40000) := ⟨KFC.out x0 (by rw [e5]; simp)⟩
              have Ky3 : Kept (Bytes x3 ∧ x3.length ≤ 40000) := ⟨KFC.out x3 (by rw [e5]; simp)⟩
              clear hk5 e5 hV4 hA2 hg
              go_wp2_with (first | ((with_reducible refine wv_val (d := 51) ?hd ?hw (.pointer (some ⟨gH, i, none⟩)) ?hr ?_); (case hd => rfl); (case hw => kernel_rfl); (case hr => intro w; exact run_idxZ (c := cH) rfl (by kernel_rfl) (by kernel_rfl) Tryd.underlying33 hin Tryd.sizeOf4 w); simp only [Act.put, List.setIfInBounds_toArray, List.set_cons_succ, List.set_cons_zero]) | ((refine wl_set1 rfl 4 sz_bool (.tmp 51) (.const (.bool true)) rfl gH i (.bool true) (by kernel_rfl) rfl rfl cur5 Kbk5.out Kcs5.out ?_); intro w6 hb6 hp6; have KR6 : Kept _ := ⟨vrow_set KR5.out KccN.out.symm Kbk5.out hb6⟩; have KT6 : Kept _ := ⟨hp6.blk KT5.out Kne5.out⟩; have qz : Below w.heap.size w w6 := Kq5.out.trans (hp6.below (by rw [← KH.out]; exact KgB5.out)); clear hb6 hp6; simp only [Act.put, List.setIfInBounds_toArray, List.set_cons_succ, List.set_cons_zero]) | ((with_reducible refine wv_val (d := 54) ?hd ?hw (.pointer (some ⟨gH, i, none⟩)) ?hr ?_); (case hd => rfl); (case hw => kernel_rfl); (case hr => intro w; exact run_idxZ (c := cH) rfl (by kernel_rfl) (by kernel_rfl) Tryd.underlying33 hin Tryd.sizeOf4 w); simp only [Act.put, List.setIfInBounds_toArray, List.set_cons_succ, List.set_cons_zero]) | ((with_reducible refine wv_elem (d := 55) ?hd ?hw 4 Tryd.isAgg4 (.tmp 54) ?ho (⟨gH, i, none⟩) ?hx (.bool true) ?hc ?_); (case hd => rfl); (case hw => kernel_rfl); (case ho => rfl); (case hx => kernel_rfl); (case hc => exact had_cell KR6.out Kbi2.out); simp only [Act.put, List.setIfInBounds_toArray, List.set_cons_succ, List.set_cons_zero]) | ((with_reducible refine wv_elem (d := 58) ?hd ?hw 5 Tryd.isAgg5 (.tmp 57) ?ho (⟨wz.heap.size, 0, none⟩) ?hx (.int .u8 (k : Int)) ?hc ?_); (case hd => rfl); (case hw => kernel_rfl); (case ho => rfl); (case hx => kernel_rfl); (case hc => exact (KT6.out.cell KA0.out)); simp only [Act.put, List.setIfInBounds_toArray, List.set_cons_succ, List.set_cons_zero]) | ((with_reducible refine wv_val (d := 59) ?hd ?hw (.bool true) ?hr ?_); (case hd => rfl); (case hw => kernel_rfl); (case hr => intro w; exact run_eqU8 5 rfl (by kernel_rfl) B5.out w); simp only [Act.put, List.setIfInBounds_toArray, List.set_cons_succ, List.set_cons_zero]) | ((with_reducible refine wv_elem (d := 65) ?hd ?hw 29 ag_strs (.tmp 64) ?ho (⟨wz.heap.size, 1, none⟩) ?hx (.slice (some A2) 4 cU) ?hc ?_); (case hd => rfl); (case hw => kernel_rfl); (case ho => rfl); (case hx => kernel_rfl); (case hc => exact (KT6.out.cell KA1c.out)); simp only [Act.put, List.setIfInBounds_toArray, List.set_cons_succ, List.set_cons_zero]) | ((with_reducible refine wv_val (d := 66) ?hd ?hw (.pointer (some (A2.add 0))) ?hr ?_); (case hd => rfl); (case hw => kernel_rfl); (case hr => intro w; exact run_idxS (i := 0) (l := 4) (c := cU) rfl (by kernel_rfl) rfl Tryd.underlying29 hl0 Tryd.sizeOf9 w); simp only [Act.put, List.setIfInBounds_toArray, List.set_cons_succ, List.set_cons_zero]) | ((with_reducible refine wv_elem (d := 67) ?hd ?hw 9 ag_str (.tmp 66) ?ho (A2.add 0) ?hx (.string (strOf x0)) ?hc ?_); (case hd => rfl); (case hw => kernel_rfl); (case ho => rfl); (case hx => kernel_rfl); (case hc => exact (KCu0.out _ qz)); simp only [Act.put, List.setIfInBounds_toArray, List.set_cons_succ, List.set_cons_zero]))
              refine (KnownD (KTs.out.under qz) Kts.out (vrow_vals KR6.out) (by rw [List.length_set, KccN.out, KN.out]) Ky0.out.1 Ky0.out.2 Kg.out).mono ?_
              rintro e w7 ⟨rfl, q7⟩
              have KR7 : Kept _ := ⟨KR6.out.under q7⟩
              have KT7 : Kept _ := ⟨KT6.out.under q7⟩
              replace qz := qz.trans (q7.mono qz.size)
              clear q7
              cases g with
              | false =>
                go_wp2_with fail
                go_roundg (gk - 1)
                case measure => omega
                case rel =>
                  refine ⟨i + 1, cc.set i true, by omega, by simp, KR7.out, qz, ?_⟩
                  obtain ⟨j1, j2⟩ := KJ.out
                  have hpl := place_next (c := cc.set i true) (d := cc.set i true) Kht.out j1.len (.inl ⟨Kni.out, Km.out, rfl⟩) (.inr ⟨fun k2 n2 a2 x2 e2 _ hk => (by have h := congrArg Prod.snd e2; rw [show ((k, ll) : TermL).2 = ll from rfl, Ke5.out] at h; cases h; have := Kg.out.2 hk; cases this), rfl⟩)
                  exact ⟨(j1.make Kht.out Km.out), j2.next hpl.1 hpl.2.1 hpl.2.2⟩
              | true =>
                go_wp2_with (first | ((with_reducible refine wv_elem (d := 73) ?hd ?hw 29 ag_strs (.tmp 72) ?ho (⟨wz.heap.size, 1, none⟩) ?hx (.slice (some A2) 4 cU) ?hc ?_); (case hd => rfl); (case hw => kernel_rfl); (case ho => rfl); (case hx => kernel_rfl); (case hc => exact (KT7.out.cell KA1c.out)); simp only [Act.put, List.setIfInBounds_toArray, List.set_cons_succ, List.set_cons_zero]) | ((with_reducible refine wv_val (d := 74) ?hd ?hw (.pointer (some (A2.add 3))) ?hr ?_); (case hd => rfl); (case hw => kernel_rfl); (case hr => intro w; exact run_idxS (i := 3) (l := 4) (c := cU) rfl (by kernel_rfl) rfl Tryd.underlying29 hl3 Tryd.sizeOf9 w); simp only [Act.put, List.setIfInBounds_toArray, List.set_cons_succ, List.set_cons_zero]) | ((with_reducible refine wv_elem (d := 75) ?hd ?hw 9 ag_str (.tmp 74) ?ho (A2.add 3) ?hx (.string (strOf x3)) ?hc ?_); (case hd => rfl); (case hw => kernel_rfl); (case ho => rfl); (case hx => kernel_rfl); (case hc => exact (KCu3.out _ qz)); simp only [Act.put, List.setIfInBounds_toArray, List.set_cons_succ, List.set_cons_zero]))
                refine (TellD (KTs.out.under qz) Kts.out (vrow_vals KR7.out) (by rw [List.length_set, KccN.out, KN.out]) Ky3.out.1 Ky3.out.2).mono ?_
                rintro e w8 ⟨⟨V8, d8, rfl, hr8, hl8, hj8⟩, q8⟩
                have KR8 : Kept _ := ⟨VRow.mono (b' := Hs) hr8 (by rw [KH.out]; exact qz.size)⟩
                have Kl8 : Kept _ := ⟨hl8⟩
                have Kj8 : Kept _ := ⟨hj8⟩
                have Kone8 : Kept (ValsV V8 w8 (d8.map Value.bool)) := ⟨vrow_vals hr8⟩
                replace qz := qz.trans (q8.mono qz.size)
                clear q8 hr8 hl8 hj8
                go_wp2_with fail
                go_roundg (gk - 1)
                case measure => omega
                case rel =>
                  refine ⟨i + 1, d8, by omega, by simp, KR8.out, qz, ?_⟩
                  obtain ⟨j1, j2⟩ := KJ.out
                  have hpl := place_next (c := cc.set i true) (d := d8) Kht.out j1.len (.inl ⟨Kni.out, Km.out, rfl⟩) (.inl ⟨x0, x1, x2, x3, by rw [Kk5.out, Ke5.out], Kin.out, Kg.out.1 rfl, Kl8.out, Kj8.out⟩)
                  exact ⟨((j1.make Kht.out Km.out)).tell (k := x0) (n := x1) (a := x2) (x := x3) (by rw [Kht.out, Kk5.out, Ke5.out]) Kin.out (Kg.out.1 rfl) Kl8.out Kj8.out, j2.next hpl.1 hpl.2.1 hpl.2.2⟩
end Go.Proofs.YtniogaimhkcedaaDoor.sh
