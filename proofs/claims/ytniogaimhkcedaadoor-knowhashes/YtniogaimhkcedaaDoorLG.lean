/-
  clean: the acts without names of terms.
-/
import Derived.Test.YtniogaimhkcedaaDoorLF
namespace Go.Proofs.YtniogaimhkcedaaDoor.sh
open Go Go.RowKit
set_option linter.unusedVariables false
set_option linter.unusedSimpArgs false

/-- The cells of acts. -/
def acells (l : List ActK) : List Value := l.flatMap fun x => (actC x).toList
theorem acells_cons (x : ActK) (l : List ActK) : acells (x :: l) = (actC x).toList ++ acells l := by simp [acells]
theorem acells_append (l m : List ActK) : acells (l ++ m) = acells l ++ acells m := by simp [acells]
theorem acells_one (x : ActK) : acells [x] = (actC x).toList := by simp [acells]
theorem acells_len : ∀ l : List ActK, (acells l).length = l.length * 5
  | [] => rfl
  | x :: l => by
    rw [acells_cons, List.length_append, acells_len l, List.length_cons]
    show 5 + _ = _
    omega
theorem acells_get : ∀ {l : List ActK} {j f : Nat} {x : ActK} {u : Value}, l[j]? = some x → (actC x)[f]? = some u → (acells l)[j * 5 + f]? = some u
  | [], _, _, _, _, h, _ => by simp at h
  | y :: l, 0, f, x, u, h, hu => by
    simp at h
    subst h
    have hf : f < 5 := (Array.getElem?_eq_some_iff.1 hu).1
    rw [acells_cons, List.getElem?_append_left (by show 0 * 5 + f < 5; omega), Array.getElem?_toList]
    rwa [Nat.zero_mul, Nat.zero_add]
  | y :: l, j + 1, f, x, u, h, hu => by
    have h' : l[j]? = some x := by simpa using h
    rw [acells_cons, List.getElem?_append_right (by show 5 ≤ _; omega)]
    rw [show (j + 1) * 5 + f - (actC y).toList.length = j * 5 + f by show (j + 1) * 5 + f - 5 = _; omega]
    exact acells_get h' hu
/-- Acts in a slice that the call owns. -/
def ARow (base : Nat) (l : List ActK) (v : Value) (w : World) : Prop := w.ownsRow base 56 5 v l.length (acells l)
theorem arow_nil (w : World) (base : Nat) : ARow base [] (.slice none 0 0) w := World.ownsRow_nil w base 56 5
theorem arow_vals {base : Nat} {l : List ActK} {v : Value} {w : World} (h : ARow base l v w) : ActV v w l := by
  rcases h.2 with ⟨rfl, h0⟩ | ⟨g, cap, cur, rfl, hb, hg, hn, hm, hs, ht⟩
  · have : l = [] := List.eq_nil_of_length_eq_zero h0
    subst this
    exact ⟨none, 0, rfl, Nat.le_refl _, fun h => absurd rfl h⟩
  · refine ⟨_, cap, rfl, hn, fun _ => ⟨_, rfl, (Array.getElem?_eq_some_iff.1 hg).1, fun j x hx f u hu => ?_⟩⟩
    rw [addr_add, Nat.zero_add]
    refine cell_row hg ?_
    have hj : j < l.length := (List.getElem?_eq_some_iff.1 hx).1
    have hf : f < 5 := (Array.getElem?_eq_some_iff.1 hu).1
    have h3 : (cur.toList.take (l.length * 5))[j * 5 + f]? = (acells l)[j * 5 + f]? := by rw [ht]
    rw [List.getElem?_take_of_lt (by omega), acells_get hx hu, Array.getElem?_toList] at h3
    exact h3
theorem ARow.under {base : Nat} {l : List ActK} {v : Value} {w w' : World} (h : ARow base l v w) (hb : Below w.heap.size w w') : ARow base l v w' := by
  obtain ⟨h1, h2⟩ := h
  refine ⟨h1, ?_⟩
  rcases h2 with h | ⟨g, cap, cur, rfl, hbb, hgt, r⟩
  · exact .inl h
  · exact .inr ⟨g, cap, cur, rfl, hbb, by rw [hb.block g (Array.getElem?_eq_some_iff.1 hgt).1]; exact hgt, r⟩
theorem ARow.range {base : Nat} {l : List ActK} {v : Value} {w : World} (h : ARow base l v w) : ∀ b, blkOf v = some b → base ≤ b ∧ b < w.heap.size := fun b hb => h.lt b (by rw [rowT_blk h]; exact hb)
theorem info_act32 : (Tryd.prog.info? 56).map (fun i => (i.zero, i.size, i.bytes)) = some (some (.agg #[.int .u8 0, .int .u8 0, .int .u8 0, .string .empty, .bool false]), 5, 32) := by kernel_rfl
theorem appA_run {ty : TypeId} {base c : Nat} {l m : List ActK} {v : Value} {A : Addr} {w : World} (hown : ARow base l v w) (hx : ∀ (j : Nat) (x : Value), (acells m)[j]? = some x → w.cell? (A.add j) = some x) (hn : (l.length + m.length) * 32 ≤ 140737488355328) (hbase : base ≤ w.heap.size) :
    ∃ v' w', (Builtin.append_ #[22, 22] ty #[v, .slice (some A) m.length c]).run Tryd.prog w = .ok v' w' ∧ ARow base (l ++ m) v' w' ∧ w.grownBy w' (blkOf v) := by
  have hi := info_act32
  cases hq : Tryd.prog.info? 56 with
  | none => rw [hq] at hi; cases hi
  | some i0 =>
  rw [hq] at hi
  simp only [Option.map_some, Option.some.injEq, Prod.mk.injEq] at hi
  obtain ⟨hz0, hz1, hz2⟩ := hi
  have hbl := rowT_blk hown
  obtain ⟨v', w', h4, h5, h6, _, h8⟩ := run_append_own_at (P := Tryd.prog) (w := w) base 22 ty 56 i0 (.agg #[.int .u8 0, .int .u8 0, .int .u8 0, .string .empty, .bool false]) 5 32 Tryd.underlying22 hq hz0 hz1 hz2 rfl (by decide) v l.length (acells l) hown A m.length c (acells m) (acells_len m) hx
    (fun x hx => by
      unfold acells at hx
      obtain ⟨y, _, hy⟩ := List.mem_flatMap.1 hx
      simp [actC] at hy
      rcases hy with rfl | rfl | rfl | rfl | rfl <;> rfl) (by unfold maxLen; omega) hn hbase
  refine ⟨v', w', h4, ?_, by rw [← hbl]; exact h6⟩
  unfold ARow
  rw [List.length_append, acells_append]
  exact h5
/-- 'append' of an act in a plain region. -/
theorem wl_appA {ops : Array Oper} {rest : List Oper} {o : Oper} {a : Act} {w : World} {Q : Exit → Act → World → Prop} (hgd : o.guard = none) (s x : Operand) (ho : o.op = .call { callee := .builtin .append, args := #[s, x], argTypes := #[22, 22] }) (base c : Nat) (l : List ActK) (y : ActK) (v : Value) (A : Addr) (hs : a.eval s = v) (hxv : a.eval x = .slice (some A) 1 c)
    (hown : ARow base l v w) (hx : ∀ (f : Nat) (u : Value), (actC y)[f]? = some u → w.cell? (A.add f) = some u) (hn : (l.length + 1) * 32 ≤ 140737488355328) (hbase : base ≤ w.heap.size)
    (hk : ∀ v' w', ARow base (l ++ [y]) v' w' → w.grownBy w' (blkOf v) → wpList Tryd.prog ops Q rest (a.put o.dst v') w') : wpList Tryd.prog ops Q (o :: rest) a w :=
  wpList_plain hgd fun K hK => by
    obtain ⟨v', w', h4, h5, h6⟩ := appA_run (ty := o.type) (c := c) (m := [y]) (A := A) hown (fun j u hj => by
      rw [acells_one, Array.getElem?_toList] at hj
      exact hx j u hj) hn hbase
    have h4' : (Builtin.append_ #[22, 22] o.type #[v, .slice (some A) 1 c]).run Tryd.prog w = .ok v' w' := h4
    unfold Oper.wp execOp
    simp only [ho, resolve, invoke, builtin, Sem.run_bind, Sem.run_pure, Result.andThen_ok, List.map_toArray, List.map_cons, List.map_nil, hs, hxv, h4']
    exact hK _ _ (hk v' w' h5 h6)
theorem run_bsA (x : ActK) (w : World) : (Instr.buildSlice 22 1 #[(0, .agg (actC x))]).run Tryd.prog w = .ok (.slice (some ⟨w.heap.size, 0, none⟩) 1 1) (w.alloc (.cells (actC x) 56)) := by
  unfold actC
  kernel_rfl
theorem wl_bsA {ops : Array Oper} {rest : List Oper} {o : Oper} {a : Act} {w : World} {Q : Exit → Act → World → Prop} (hgd : o.guard = none) (x : Operand) (ho : o.op = .buildSlice 22 1 #[(0, x)]) (y : ActK) (AA : Array Value) (hA : AA = actC y) (hx : a.eval x = .agg AA)
    (h : wpList Tryd.prog ops Q rest (a.put o.dst (.slice (some ⟨w.heap.size, 0, none⟩) 1 1)) (w.alloc (.cells AA 56))) : wpList Tryd.prog ops Q (o :: rest) a w :=
  wpList_plain hgd fun K hK => by
    have hrun : (execOp a.eval o).run Tryd.prog w = .ok (.value (.slice (some ⟨w.heap.size, 0, none⟩) 1 1)) (w.alloc (.cells AA 56)) := by
      subst hA
      unfold execOp
      simp only [ho]
      simp [hx, run_bsA]
    unfold Oper.wp
    rw [hrun]
    exact hK _ _ h

/-- Whether a name of a term begins at one of the first places of a text. -/
def hasTo (s : List Nat) (i : Nat) : Bool := (List.range i).any fun j => decide ((s.drop j).take 4 = [116, 101, 114, 109])
theorem hasTo_succ (s : List Nat) (i : Nat) : hasTo s (i + 1) = (hasTo s i || decide ((s.drop i).take 4 = [116, 101, 114, 109])) := by simp [hasTo, List.range_succ]
def hasT (s : List Nat) : Bool := hasTo s (s.length - 3)
theorem noTerm_has {s : List Nat} (h : hasT s = false) : NoTerm s := noTerm_of fun i hi he => by
  unfold hasT hasTo at h
  have := List.any_eq_false.1 h i (List.mem_range.2 (by omega))
  simp [he] at this
/-- The acts whose texts have no names of terms. -/
def cleanL (l : List ActK) : List ActK := l.filter fun x => !hasT x.s
theorem cleanL_mem {l : List ActK} {x : ActK} (h : x ∈ cleanL l) : x ∈ l ∧ NoTerm x.s := by
  obtain ⟨h1, h2⟩ := List.mem_filter.1 h
  exact ⟨h1, noTerm_has (by simpa using h2)⟩
theorem cleanL_len (l : List ActK) : (cleanL l).length ≤ l.length := List.length_filter_le _ _
theorem cleanL_snoc {l : List ActK} {i : Nat} {x : ActK} (h : l[i]? = some x) : cleanL (l.take (i + 1)) = cleanL (l.take i) ++ (if hasT x.s = true then [] else [x]) := by
  unfold cleanL
  rw [List.take_add_one, h, Option.toList_some, List.filter_append]
  congr 1
  cases hh : hasT x.s <;> simp [hh]
set_option maxRecDepth 100000 in
set_option maxHeartbeats 4000000 in
theorem cleanD {v : Value} {l : List ActK} {w : World} (hv : ActV v w l) (hok : ∀ x ∈ l, ActKOk x) (hN : l.length * 32 ≤ reachBytes) :
    Calls Tryd.prog 20 #[v] w fun e w' => (∃ V, e = .returned V ∧ ActV V w' (cleanL l)) ∧ Below w.heap.size w w' := by
  obtain ⟨n, hn⟩ : ∃ n, n = l.length := ⟨_, rfl⟩
  obtain ⟨p, c, rfl, _⟩ := actV_form hv hn.symm
  have KV : Kept _ := ⟨hv⟩
  have KO : Kept (∀ x ∈ l, ActKOk x) := ⟨hok⟩
  have Kn : Kept _ := ⟨hn⟩
  have hn32 : n * 32 ≤ 140737488351232 := by rw [hn]; exact hN
  obtain ⟨Hs, hH⟩ : ∃ H, H = w.heap.size := ⟨_, rfl⟩
  have KH : Kept _ := ⟨hH⟩
  rw [← hH]
  clear hv hok hn hN hH
  go_enter Tryd.func20, Tryd.ntmps20
  go_wp2_with fail
  go_loopg [3, 10] n (fun g s3 s10 wr => ∃ i : Nat, i + g = n ∧ s10 = .int .i64 (i : Int) ∧ ARow Hs (cleanL (l.take i)) s3 wr ∧ Below Hs w wr)
  case atStart => exact ⟨0, by omega, rfl, arow_nil _ _, by rw [KH.out]; exact Below.refl _ _⟩
  case round =>
    rename World => wz
    obtain ⟨i, hik, rfl, hr, hb⟩ := hrel
    by_cases hk0 : gk = 0
    case pos =>
      obtain rfl : n = i := by omega
      have et : l.take n = l := List.take_of_length_le (by rw [Kn.out]; exact Nat.le_refl _)
      rw [et] at hr
      have KR : Kept _ := ⟨arow_vals hr⟩
      clear hr et
      go_wp2_with fail
      go_ret
      exact ⟨⟨_, rfl, KR.out⟩, hb⟩
    case neg =>
      have hin : i < n := by omega
      have hin' : (i : Int) < (n : Int) := by omega
      have hi1 : (i : Int) + 1 ≤ 9223372036854775807 := by omega
      obtain ⟨x, hx⟩ : ∃ x, l[i]? = some x := ⟨_, List.getElem?_eq_getElem (by rw [← Kn.out]; exact hin)⟩
      have hqw : Below w.heap.size w wz := by rw [← KH.out]; exact hb
      obtain ⟨A, rfl, hA, hcell⟩ := actV_at (KV.out.under hqw) hx
      have hxo := KO.out x (List.mem_of_getElem? hx)
      have Kst := cleanL_snoc hx
      have Kcl : Kept ((cleanL (l.take i)).length ≤ i) := ⟨by have := cleanL_len (l.take i); rw [List.length_take] at this; omega⟩
      obtain ⟨s, hs⟩ : ∃ s, s = x.s := ⟨_, rfl⟩
      have hsl : s.length ≤ 140737488351232 := by rw [hs]; exact hxo.len
      obtain ⟨ns, hns⟩ : ∃ ns, ns = s.length := ⟨_, rfl⟩
      have Kns : Kept _ := ⟨hns⟩
      have Kys : Kept (Bytes s) := ⟨by rw [hs]; exact hxo.s⟩
      have Kst : Kept (cleanL (l.take (i + 1)) = cleanL (l.take i) ++ (if hasT s = true then [] else [x])) := ⟨by rw [hs]; exact Kst⟩
      obtain ⟨AA, hAA⟩ : ∃ AA, AA = actC x := ⟨_, rfl⟩
      have KAA : Kept _ := ⟨hAA⟩
      have KA1 : Kept (AA.all (·.oneCell') = true) := ⟨by rw [hAA]; exact actC_one x⟩
      have KA5 : Kept (AA.size = 5) := ⟨by rw [hAA]; rfl⟩
      have K3 : Kept (AA[3]? = some (.string (strOf s))) := ⟨by rw [hAA, hs]; rfl⟩
      have KC : Kept _ := ⟨hcell⟩
      have KR : Kept _ := ⟨hr⟩
      have KHz : Kept (Hs ≤ wz.heap.size) := ⟨by rw [KH.out]; exact hqw.size⟩
      have Kb : Kept _ := ⟨hb⟩
      have hns32 : ns ≤ 140737488351232 := by rw [hns]; exact hsl
      clear hx hcell hxo hs hsl hns hAA hqw hr hb
      obtain ⟨gO, hgO⟩ : ∃ q, q = gk := ⟨_, rfl⟩
      have KgO : Kept _ := ⟨hgO⟩
      clear hgO
      go_wp2_with (first | ((with_reducible refine wv_val (d := 12) ?hd ?hw (.pointer (some (A.add (i * 5)))) ?hr ?_); (case hd => rfl); (case hw => kernel_rfl); (case hr => intro w; exact run_idx5 rfl (by kernel_rfl) (by kernel_rfl) hin w); simp only [Act.put, List.setIfInBounds_toArray, List.set_cons_succ, List.set_cons_zero]) | (((with_reducible refine wv_actK (d := 13) ?hd ?hw (.tmp 12) ?ho (A.add (i * 5)) ?hx (x) ?hc ?_); (case hd => rfl); (case hw => kernel_rfl); (case ho => rfl); (case hx => kernel_rfl); (case hc => exact KC.out); simp only [Act.put, List.setIfInBounds_toArray, List.set_cons_succ, List.set_cons_zero]); rw [← KAA.out]) | ((refine wl_store rfl 56 (.tmp 5) (.tmp 13) rfl wz.heap.size AA (by kernel_rfl) (by kernel_rfl) _ (blk_new wz 56 _) (by rw [KA5.out]; exact info_actK) (by rw [KA5.out]; rfl) KA1.out ?_); intro w2 hb2 hp2; have q2 : Below wz.heap.size wz w2 := ((Below.refl _ _).alloc (Nat.le_refl _) _).trans (hp2.below (Nat.le_refl _)); have KT2 : Kept _ := ⟨hb2⟩; have Kq2 : Kept _ := ⟨q2⟩; clear hb2 hp2 q2; simp only [Act.put, List.setIfInBounds_toArray, List.set_cons_succ, List.set_cons_zero]))
      go_loopg [6, 7] (ns - 3) (fun g s6 s7 wr => ∃ j : Nat, j + g = ns - 3 ∧ s7 = .int .i64 (j : Int) ∧ s6 = .bool (hasTo s j) ∧ wr = w2)
      case atStart => exact ⟨0, by omega, rfl, rfl, rfl⟩
      case round =>
        obtain ⟨j, hjk, rfl, rfl, hwr⟩ := hrel
        obtain rfl := hwr.symm
        by_cases hk0 : gk = 0
        case neg =>
          have hjn : j + 4 ≤ ns := by omega
          obtain ⟨z, hz⟩ : ∃ z, z = j + 4 := ⟨_, rfl⟩
          have Kz : Kept _ := ⟨hz⟩
          have hz62 : z < 4611686018427387904 := by omega
          have hzn : (z : Int) ≤ (ns : Int) := by omega
          have hj1 : (j : Int) + 1 ≤ 9223372036854775807 := by omega
          obtain ⟨T, hT⟩ : ∃ T, T = (s.drop j).take 4 := ⟨_, rfl⟩
          have KT : Kept (T = (s.take z).drop j) := ⟨by rw [hT, hz, List.drop_take, show j + 4 - j = 4 by omega]⟩
          have Kzl : Kept (z ≤ s.length) := ⟨by rw [← Kns.out]; omega⟩
          have Kjz : Kept (j ≤ z) := ⟨by omega⟩
          have KTy : Kept (Bytes T) := ⟨by rw [KT.out]; exact (Kys.out.take z).drop j⟩
          have KTT : Kept (Bytes [116, 101, 114, 109]) := ⟨bytes_of_all (by decide)⟩
          obtain ⟨b, hb⟩ : ∃ b, b = decide (T = [116, 101, 114, 109]) := ⟨_, rfl⟩
          have Kbb : Kept _ := ⟨hb⟩
          have Ksu : Kept (hasTo s (j + 1) = (hasTo s j || b)) := ⟨by rw [hasTo_succ, ← hT, hb]⟩
          obtain ⟨h, hh⟩ : ∃ h, h = hasTo s j := ⟨_, rfl⟩
          rw [← hh] at Ksu ⊢
          clear hz hT hb hh
          cases h with
          | true =>
            go_wp2_with (first | ((with_reducible refine wv_val (d := 15) ?hd ?hw (.int .i64 (z : Int)) ?hr ?_); (case hd => rfl); (case hw => kernel_rfl); (case hr => intro w; exact run_addZ 4 rfl (by kernel_rfl) Kz.out hz62 w); simp only [Act.put, List.setIfInBounds_toArray, List.set_cons_succ, List.set_cons_zero]) | ((with_reducible refine wv_elem (d := 17) ?hd ?hw 9 ag_str (.tmp 16) ?ho (⟨wz.heap.size, 3, none⟩) ?hx (.string (strOf s)) ?hc ?_); (case hd => rfl); (case hw => kernel_rfl); (case ho => rfl); (case hx => kernel_rfl); (case hc => exact (KT2.out.cell K3.out)); simp only [Act.put, List.setIfInBounds_toArray, List.set_cons_succ, List.set_cons_zero]) | ((with_reducible refine wv_val (d := 18) ?hd ?hw (.int .i64 (ns : Int)) ?hr ?_); (case hd => rfl); (case hw => kernel_rfl); (case hr => intro w; exact run_slen rfl (by kernel_rfl) Kns.out w); simp only [Act.put, List.setIfInBounds_toArray, List.set_cons_succ, List.set_cons_zero]))
            go_roundg (gk - 1)
            case measure => omega
            case rel => exact ⟨j + 1, by omega, by simp, by rw [Ksu.out]; rfl, rfl⟩
          | false =>
            go_wp2_with (first | ((with_reducible refine wv_val (d := 15) ?hd ?hw (.int .i64 (z : Int)) ?hr ?_); (case hd => rfl); (case hw => kernel_rfl); (case hr => intro w; exact run_addZ 4 rfl (by kernel_rfl) Kz.out hz62 w); simp only [Act.put, List.setIfInBounds_toArray, List.set_cons_succ, List.set_cons_zero]) | ((with_reducible refine wv_elem (d := 17) ?hd ?hw 9 ag_str (.tmp 16) ?ho (⟨wz.heap.size, 3, none⟩) ?hx (.string (strOf s)) ?hc ?_); (case hd => rfl); (case hw => kernel_rfl); (case ho => rfl); (case hx => kernel_rfl); (case hc => exact (KT2.out.cell K3.out)); simp only [Act.put, List.setIfInBounds_toArray, List.set_cons_succ, List.set_cons_zero]) | ((with_reducible refine wv_val (d := 18) ?hd ?hw (.int .i64 (ns : Int)) ?hr ?_); (case hd => rfl); (case hw => kernel_rfl); (case hr => intro w; exact run_slen rfl (by kernel_rfl) Kns.out w); simp only [Act.put, List.setIfInBounds_toArray, List.set_cons_succ, List.set_cons_zero]) | ((with_reducible refine wv_elem (d := 25) ?hd ?hw 9 ag_str (.tmp 24) ?ho (⟨wz.heap.size, 3, none⟩) ?hx (.string (strOf s)) ?hc ?_); (case hd => rfl); (case hw => kernel_rfl); (case ho => rfl); (case hx => kernel_rfl); (case hc => exact (KT2.out.cell K3.out)); simp only [Act.put, List.setIfInBounds_toArray, List.set_cons_succ, List.set_cons_zero]) | ((with_reducible refine wv_val (d := 28) ?hd ?hw (.int .i64 (z : Int)) ?hr ?_); (case hd => rfl); (case hw => kernel_rfl); (case hr => intro w; exact run_addZ 4 rfl (by kernel_rfl) Kz.out hz62 w); simp only [Act.put, List.setIfInBounds_toArray, List.set_cons_succ, List.set_cons_zero]) | ((with_reducible refine wv_val (d := 29) ?hd ?hw (.string (strOf T)) ?hr ?_); (case hd => rfl); (case hw => kernel_rfl); (case hr => intro w; exact run_scut rfl (by kernel_rfl) (by kernel_rfl) (by kernel_rfl) Kjz.out Kzl.out KT.out w); simp only [Act.put, List.setIfInBounds_toArray, List.set_cons_succ, List.set_cons_zero]) | ((with_reducible refine wv_val (d := 30) ?hd ?hw (.bool b) ?hr ?_); (case hd => rfl); (case hw => kernel_rfl); (case hr => intro w; exact run_seq (m := [116, 101, 114, 109]) rfl (by kernel_rfl) rfl KTy.out KTT.out Kbb.out w); simp only [Act.put, List.setIfInBounds_toArray, List.set_cons_succ, List.set_cons_zero]))
            go_roundg (gk - 1)
            case measure => omega
            case rel => exact ⟨j + 1, by omega, by simp, by rw [Ksu.out]; rfl, rfl⟩
        case pos =>
          have hjn : ns - 3 = j := by omega
          obtain ⟨z, hz⟩ : ∃ z, z = j + 4 := ⟨_, rfl⟩
          have Kz : Kept _ := ⟨hz⟩
          have hz62 : z < 4611686018427387904 := by omega
          have hzn : ¬ (z : Int) ≤ (ns : Int) := by omega
          obtain ⟨h, hh⟩ : ∃ h, h = hasTo s j := ⟨_, rfl⟩
          have Khh : Kept (h = hasT s) := ⟨by rw [hh]; unfold hasT; rw [← Kns.out, hjn]⟩
          rw [← hh]
          clear hz hh hjn
          cases h with
          | true =>
            have Ks : Kept (cleanL (l.take (i + 1)) = cleanL (l.take i)) := ⟨by rw [Kst.out, ← Khh.out]; simp⟩
            go_wp2_with (first | ((with_reducible refine wv_val (d := 15) ?hd ?hw (.int .i64 (z : Int)) ?hr ?_); (case hd => rfl); (case hw => kernel_rfl); (case hr => intro w; exact run_addZ 4 rfl (by kernel_rfl) Kz.out hz62 w); simp only [Act.put, List.setIfInBounds_toArray, List.set_cons_succ, List.set_cons_zero]) | ((with_reducible refine wv_elem (d := 17) ?hd ?hw 9 ag_str (.tmp 16) ?ho (⟨wz.heap.size, 3, none⟩) ?hx (.string (strOf s)) ?hc ?_); (case hd => rfl); (case hw => kernel_rfl); (case ho => rfl); (case hx => kernel_rfl); (case hc => exact (KT2.out.cell K3.out)); simp only [Act.put, List.setIfInBounds_toArray, List.set_cons_succ, List.set_cons_zero]) | ((with_reducible refine wv_val (d := 18) ?hd ?hw (.int .i64 (ns : Int)) ?hr ?_); (case hd => rfl); (case hw => kernel_rfl); (case hr => intro w; exact run_slen rfl (by kernel_rfl) Kns.out w); simp only [Act.put, List.setIfInBounds_toArray, List.set_cons_succ, List.set_cons_zero]))
            go_roundg (gO - 1)
            case measure => have := KgO.out; omega
            case rel =>
              have := KgO.out
              exact ⟨i + 1, by omega, by simp, by rw [Ks.out]; exact KR.out.under Kq2.out, Kb.out.trans (Kq2.out.mono KHz.out)⟩
          | false =>
            have Ks : Kept (cleanL (l.take (i + 1)) = cleanL (l.take i) ++ [x]) := ⟨by rw [Kst.out, ← Khh.out]; simp⟩
            have b6 := (Below.refl w2.heap.size w2).alloc (Nat.le_refl _) (.cells AA 56)
            have hs2 : Hs ≤ w2.heap.size := Nat.le_trans KHz.out Kq2.out.size
            have Kr6 : Kept _ := ⟨(KR.out.under Kq2.out).under b6⟩
            have Kh6 : Kept (Hs ≤ (w2.alloc (.cells AA 56)).heap.size) := ⟨Nat.le_trans hs2 b6.size⟩
            have Kq6 : Kept _ := ⟨(Kb.out.trans (Kq2.out.mono KHz.out)).trans (b6.mono hs2)⟩
            have Kc6 : Kept (∀ (f : Nat) (u : Value), (actC x)[f]? = some u → (w2.alloc (.cells AA 56)).cell? ((⟨w2.heap.size, 0, none⟩ : Addr).add f) = some u) := ⟨fun f u hu => by
              rw [addr_add, Nat.zero_add]
              refine (blk_new w2 56 AA).cell ?_
              rw [KAA.out]; exact hu⟩
            have Kn6 : Kept (((cleanL (l.take i)).length + 1) * 32 ≤ 140737488355328) := ⟨by have := Kcl.out; omega⟩
            clear b6 hs2
            go_wp2_with (first | ((with_reducible refine wv_val (d := 15) ?hd ?hw (.int .i64 (z : Int)) ?hr ?_); (case hd => rfl); (case hw => kernel_rfl); (case hr => intro w; exact run_addZ 4 rfl (by kernel_rfl) Kz.out hz62 w); simp only [Act.put, List.setIfInBounds_toArray, List.set_cons_succ, List.set_cons_zero]) | ((with_reducible refine wv_elem (d := 17) ?hd ?hw 9 ag_str (.tmp 16) ?ho (⟨wz.heap.size, 3, none⟩) ?hx (.string (strOf s)) ?hc ?_); (case hd => rfl); (case hw => kernel_rfl); (case ho => rfl); (case hx => kernel_rfl); (case hc => exact (KT2.out.cell K3.out)); simp only [Act.put, List.setIfInBounds_toArray, List.set_cons_succ, List.set_cons_zero]) | ((with_reducible refine wv_val (d := 18) ?hd ?hw (.int .i64 (ns : Int)) ?hr ?_); (case hd => rfl); (case hw => kernel_rfl); (case hr => intro w; exact run_slen rfl (by kernel_rfl) Kns.out w); simp only [Act.put, List.setIfInBounds_toArray, List.set_cons_succ, List.set_cons_zero]) | ((with_reducible refine wv_rowS (d := 35) ?hd ?hw 56 (.tmp 5) ?ho (wz.heap.size) ?hx (t' := 56) (AA) _ Tryd.underlying56 ?hs ?hg ?_); (case hd => rfl); (case hw => kernel_rfl); (case ho => rfl); (case hx => kernel_rfl); (case hs => rw [KA5.out]; exact info_actK); (case hg => exact KT2.out); simp only [Act.put, List.setIfInBounds_toArray, List.set_cons_succ, List.set_cons_zero]) | (refine wl_bsA rfl (.tmp 35) rfl x AA KAA.out (by kernel_rfl) ?_; simp only [Act.put, List.setIfInBounds_toArray, List.set_cons_succ, List.set_cons_zero]) | ((refine wl_appA rfl (.tmp 34) (.tmp 36) rfl Hs 1 _ x _ _ (by kernel_rfl) (by kernel_rfl) Kr6.out Kc6.out Kn6.out Kh6.out ?_); intro v' w7 hr' hg'; simp only [Act.put, List.setIfInBounds_toArray, List.set_cons_succ, List.set_cons_zero]))
            go_roundg (gO - 1)
            case measure => have := KgO.out; omega
            case rel =>
              have := KgO.out
              refine ⟨i + 1, by omega, by simp, by rw [Ks.out]; exact hr', Kq6.out.trans (grown_mono hg' Kh6.out (fun b hb => (Kr6.out.range b hb).1))⟩
end Go.Proofs.YtniogaimhkcedaaDoor.sh
