/-
  (*Table).All, (*Table).Dh.
-/
import Derived.Test.YtfdldpcfdebinaaDoorDG
namespace Go.Proofs.YtfdldpcfdebinaaDoor.sh
open Go Go.RowKit Go.Maps
set_option linter.unusedVariables false
set_option linter.unusedSimpArgs false

/-- The names of so many terms. -/
def namesL (i : Nat) : List (List Nat) := (List.range i).map fun j => termN (j + 1)
theorem namesL_len (i : Nat) : (namesL i).length = i := by simp [namesL]
theorem namesL_succ (i : Nat) : namesL (i + 1) = namesL i ++ [termN (i + 1)] := by simp [namesL, List.range_succ]
theorem namesL_get {i n : Nat} (h : i < n) : (namesL n)[i]? = some (termN (i + 1)) := by simp [namesL, h]
theorem namesL_bytes {n : Nat} : ∀ l ∈ namesL n, Bytes l := fun l h => by
  unfold namesL at h
  obtain ⟨j, _, rfl⟩ := List.mem_map.1 h
  exact termN_bytes _
def nmA (i n : Nat) : Array Value := (strs (namesL i) ++ List.replicate (n - i) (Value.string .empty)).toArray
theorem nmA_size {i n : Nat} (h : i ≤ n) : (nmA i n).size = n := by simp [nmA, strs_len, namesL_len]; omega
theorem nmA_set {i n : Nat} (h : i < n) : (nmA i n).setIfInBounds i (.string (strOf (termN (i + 1)))) = nmA (i + 1) n := by
  unfold nmA
  rw [List.setIfInBounds_toArray, namesL_succ, strs_append]
  congr 1
  have hl : (strs (namesL i)).length = i := by rw [strs_len, namesL_len]
  rw [List.set_append_right _ _ (by omega), hl, Nat.sub_self, show n - i = (n - (i + 1)) + 1 by omega, List.replicate_succ, List.set_cons_zero, List.append_assoc]
  rfl
theorem nmA_all (n : Nat) : (nmA n n).toList = strs (namesL n) := by simp [nmA]
theorem made_empty (n : Nat) : madeCells (Value.string .empty).cells n = nmA 0 n := by
  apply Array.ext_getElem?
  intro i
  by_cases h : i < n
  · simp [madeCells, nmA, namesL, strs, Value.cells, h, Nat.mod_one]
  · rw [Array.getElem?_eq_none (by rw [size_madeCells]; omega), Array.getElem?_eq_none (by rw [nmA_size (Nat.zero_le _)]; omega)]
theorem run_mkS (c : Nat) (hc : c < 1000001) (w : World) : (Instr.makeSlice 35 (.int .i64 (c : Int)) (.int .i64 (c : Int))).run Tryd.prog w = .ok (.slice (some ⟨w.heap.size, 0, none⟩) c c) (w.alloc (.cells (nmA 0 c) 9)) := by
  have hi := inf_str
  cases hq : Tryd.prog.info? 9 with
  | none => rw [hq] at hi; cases hi
  | some i =>
    rw [hq] at hi
    simp only [Option.map_some, Option.some.injEq, Prod.mk.injEq] at hi
    obtain ⟨h1, h2, h3⟩ := hi
    have h := run_make (P := Tryd.prog) w 35 9 i (.string .empty) Tryd.underlying35 hq h1 .i64 .i64 (c : Int) (c : Int) (by omega) (Int.le_refl _) (by rw [h3]; omega) (by omega)
    rw [h2, Nat.mul_one, Int.toNat_natCast, made_empty] at h
    exact h
theorem wl_mkS {ops : Array Oper} {rest : List Oper} {o : Oper} {a : Act} {w : World} {Q : Exit → Act → World → Prop} (hgd : o.guard = none) (x : Operand) (ho : o.op = .makeSlice 35 x x) (c : Nat) (hx : a.eval x = .int .i64 (c : Int)) (hc : c < 1000001)
    (h : wpList Tryd.prog ops Q rest (a.put o.dst (.slice (some ⟨w.heap.size, 0, none⟩) c c)) (w.alloc (.cells (nmA 0 c) 9))) : wpList Tryd.prog ops Q (o :: rest) a w :=
  wpList_plain hgd fun K hK => by
    have hrun : (execOp a.eval o).run Tryd.prog w = .ok (.value (.slice (some ⟨w.heap.size, 0, none⟩) c c)) (w.alloc (.cells (nmA 0 c) 9)) := by
      unfold execOp
      simp only [ho, hx]
      simp [run_mkS c hc w]
    unfold Oper.wp
    rw [hrun]
    exact hK _ _ h
theorem vrow_of_blk {base g n : Nat} {e : TypeId} {A : Array Value} {w : World} (h : Blk w g e A) (hn : A.size = n) (hb : base ≤ g) (hm : n ≤ maxLen) : VRow base e A.toList (.slice (some ⟨g, 0, none⟩) n n) w := by
  subst hn
  unfold VRow
  rw [Array.length_toList]
  refine ⟨by simp, .inr ⟨g, A.size, A, rfl, hb, h, Nat.le_refl _, hm, by omega, ?_⟩⟩
  rw [Nat.mul_one, List.take_of_length_le (by simp)]
theorem run_add1U {o : Oper} {a : Act} {x : Operand} {m n : Nat} (ho : o.op = .binOp .add 28 x (.const (.int .u64 1)) 28) (hx : a.eval x = .int .u64 (m : Int)) (hn : n = m + 1) (hm : n < 18446744073709551616) (w : World) : (execOp a.eval o).run Tryd.prog w = .ok (.value (.int .u64 (n : Int))) w := by
  have e3 : a.eval (.const (.int .u64 1)) = .int .u64 1 := rfl
  have h4 : ((m : Int) + 1) % 18446744073709551616 = (n : Int) := by omega
  unfold execOp
  simp only [ho, hx, e3]
  simp [go_sem, IntKind.wrap_u64, h4]
set_option maxRecDepth 100000 in
set_option maxHeartbeats 2000000 in
theorem AllD {tb B : Nat} {ts : List TermL} {M : Nat → Prop} {w : World} (hT : Tab tb B ts M w) (hn : ts.length < 1000000) :
    Calls Tryd.prog 14 #[.pointer (some ⟨tb, 0, none⟩)] w fun e w' => (∃ V, e = .returned V ∧ VRow w.heap.size 9 (strs (namesL ts.length)) V w') ∧ Below w.heap.size w w' := by
  obtain ⟨mb, v, hA⟩ := hT.at'
  have hA' := hA
  obtain ⟨_, _, _, hr0, _⟩ := hA'
  obtain ⟨p, cc, rfl, hcc⟩ := vals_form (vrow_vals hr0) (keys_len ts)
  have CM := madeD hA.1
  obtain ⟨m, hm⟩ : ∃ m, m = ts.length := ⟨_, rfl⟩
  rw [← hm] at hA hcc ⊢
  have hm6 : m < 1000001 := by omega
  have hmI : m < 4611686018427387904 := by omega
  have c1 : Kept (w.cell? ⟨tb, 1, none⟩ = some (.slice p m cc)) := ⟨hA.1.cell rfl⟩
  have KM : Kept _ := ⟨CM⟩
  obtain ⟨H, hH⟩ : ∃ H, H = w.heap.size := ⟨_, rfl⟩
  have KH : Kept _ := ⟨hH⟩
  rw [← hH]
  have hb0 : Kept (Blk (w.alloc (.cells (nmA 0 m) 9)) H 9 (nmA 0 m)) := ⟨by rw [hH]; exact blk_new _ _ _⟩
  have hq0 : Kept (Below H w (w.alloc (.cells (nmA 0 m) 9))) := ⟨by rw [hH]; exact (Below.refl _ _).alloc (Nat.le_refl _) _⟩
  clear hT hA hr0 hm CM hn
  go_enter Tryd.func14, Tryd.ntmps14
  go_wp2_with fail
  refine KM.out.mono ?_
  rintro e w1 ⟨rfl, hw⟩
  obtain rfl := hw.symm
  go_wp2_with (first | ((with_reducible refine wv_elem (d := 11) ?hd ?hw 35 ag_strs (.tmp 10) ?ho (⟨tb, 1, none⟩) ?hx (.slice p m cc) ?hc ?_); (case hd => rfl); (case hw => kernel_rfl); (case ho => rfl); (case hx => kernel_rfl); (case hc => exact c1.out); simp only [Act.put, List.setIfInBounds_toArray, List.set_cons_succ, List.set_cons_zero]) | (refine wl_mkS rfl (.tmp 12) rfl m (by kernel_rfl) hm6 ?_; rw [← KH.out]; simp only [Act.put, List.setIfInBounds_toArray, List.set_cons_succ, List.set_cons_zero]))
  clear c1 hcc hH
  go_loopg [16] m (fun g s16 wr => ∃ i : Nat, i + g = m ∧ s16 = .int .i64 (i : Int) ∧ Blk wr H 9 (nmA i m) ∧ Below H w wr)
  case atStart => exact ⟨0, by omega, rfl, hb0.out, hq0.out⟩
  case round =>
    rename World => wz
    obtain ⟨i, hik, rfl, hbi, hqi⟩ := hrel
    by_cases hk0 : gk = 0
    · obtain rfl : m = i := by omega
      go_wp2_with fail
      go_ret
      refine ⟨⟨_, rfl, ?_⟩, hqi⟩
      rw [← nmA_all]
      exact vrow_of_blk hbi (nmA_size (Nat.le_refl _)) (Nat.le_refl _) (by unfold maxLen; omega)
    · have hin : i < m := by omega
      have hin' : (i : Int) < (m : Int) := by omega
      have hiI : i < 4611686018427387904 := by omega
      obtain ⟨j, hj⟩ : ∃ j, j = i + 1 := ⟨_, rfl⟩
      have KJ : Kept _ := ⟨hj⟩
      have hj64 : j < 18446744073709551616 := by omega
      have CN := nameOfD (w := wz) hj64
      obtain ⟨N, hN⟩ : ∃ N, N = termN j := ⟨_, rfl⟩
      rw [← hN] at CN
      have KCN : Kept _ := ⟨CN⟩
      have KN : Kept _ := ⟨hN⟩
      have KB : Kept _ := ⟨hbi⟩
      have his : Kept (i < (nmA i m).size) := ⟨by rw [nmA_size (by omega)]; exact hin⟩
      clear CN hN hj hbi
      go_wp2_with (first | ((with_reducible refine wv_val (d := 22) ?hd ?hw (.int .u64 (i : Int)) ?hr ?_); (case hd => rfl); (case hw => kernel_rfl); (case hr => intro w; exact run_c3U rfl (by kernel_rfl) hiI w); simp only [Act.put, List.setIfInBounds_toArray, List.set_cons_succ, List.set_cons_zero]) | ((with_reducible refine wv_val (d := 23) ?hd ?hw (.int .u64 (j : Int)) ?hr ?_); (case hd => rfl); (case hw => kernel_rfl); (case hr => intro w; exact run_add1U rfl (by kernel_rfl) KJ.out hj64 w); simp only [Act.put, List.setIfInBounds_toArray, List.set_cons_succ, List.set_cons_zero]))
      refine KCN.out.mono ?_
      rintro e w5 ⟨rfl, q5⟩
      have hb5 := KB.out.under q5
      go_wp2_with (first | ((with_reducible refine wv_val (d := 25) ?hd ?hw (.pointer (some ⟨H, i, none⟩)) ?hr ?_); (case hd => rfl); (case hw => kernel_rfl); (case hr => intro w; exact run_idxS0 rfl (by kernel_rfl) (by kernel_rfl) Tryd.underlying35 hin Tryd.sizeOf9 w); simp only [Act.put, List.setIfInBounds_toArray, List.set_cons_succ, List.set_cons_zero]) | ((refine wl_set1 rfl 9 Tryd.sizeOf9 (.tmp 25) (.tmp 24) rfl H i (.string (strOf N)) (by kernel_rfl) (by kernel_rfl) rfl _ hb5 his.out ?_); intro w6 hb6 hp6; simp only [Act.put, List.setIfInBounds_toArray, List.set_cons_succ, List.set_cons_zero]))
      go_roundg (gk - 1)
      case measure => omega
      case rel =>
        refine ⟨i + 1, by omega, by simp, ?_, ?_⟩
        · rw [KN.out, KJ.out, nmA_set hin] at hb6
          exact hb6
        · have hH2 := hqi.size
          rw [← KH.out] at hH2
          exact (hqi.trans (q5.mono hH2)).trans (hp6.below (Nat.le_refl _))
set_option maxRecDepth 100000 in
set_option maxHeartbeats 2000000 in
theorem AllN {p : Option Addr} {w : World} (hp : Nobody p w) :
    Calls Tryd.prog 14 #[.pointer p] w fun e w' => e = .returned (.slice none 0 0) ∧ w' = w := by
  have KM : Kept _ := ⟨madeN hp⟩
  clear hp
  go_enter Tryd.func14, Tryd.ntmps14
  go_wp2_with fail
  refine KM.out.mono ?_
  rintro e w1 ⟨rfl, hw⟩
  obtain rfl := hw.symm
  go_wp2_with fail
  go_ret
  exact ⟨rfl, rfl⟩

theorem dhL_part (ts : List TermL) (a b : List Nat) : dhL ts a b = (match partX ts b with
    | some (2, [y]) => ((putL ts (3, sort2 a y)).1, (putL ts (3, sort2 a y)).2, decide ((putL ts (3, sort2 a y)).2 ≠ []))
    | _ => (ts, [], false)) := by
  unfold dhL partX
  by_cases h : findN ts.length b = 0
  · rw [if_pos h]
    split
    · rw [if_pos h]
    · rfl
  · rw [if_neg h]
    generalize ts[findN ts.length b - 1]? = q
    split
    · rw [if_neg h]; rfl
    · next hq =>
      split
      · next y => exact absurd rfl (hq y)
      · rfl
theorem dhL_none {ts : List TermL} {a b : List Nat} (h : partX ts b = none) : dhL ts a b = (ts, [], false) := by rw [dhL_part, h]
theorem dhL_kind {ts : List TermL} {a b : List Nat} {t : TermL} (h : partX ts b = some t) (hk : t.1 ≠ 2) : dhL ts a b = (ts, [], false) := by
  rw [dhL_part, h]
  obtain ⟨k, p⟩ := t
  have hk' : k ≠ 2 := hk
  split
  · next y e => cases e; exact absurd rfl hk'
  · rfl
theorem dhL_two {ts : List TermL} {a b y : List Nat} (h : partX ts b = some (2, [y])) : dhL ts a b = ((putL ts (3, sort2 a y)).1, (putL ts (3, sort2 a y)).2, decide ((putL ts (3, sort2 a y)).2 ≠ [])) := (dhL_part ts a b).trans (by rw [h]; rfl)
theorem partX_mem {ts : List TermL} {b : List Nat} {t : TermL} (h : partX ts b = some t) : t ∈ ts := by
  unfold partX at h
  split at h
  · cases h
  · exact List.mem_of_getElem? h
theorem putL_bytes (ts : List TermL) (t : TermL) : Bytes (putL ts t).2 := by
  by_cases hF : Fits t.2
  · by_cases hm : t ∈ ts
    · rw [putL_old hF hm]; exact termN_bytes _
    · rw [putL_new hF hm]; exact termN_bytes _
  · rw [putL_not hF]; exact nil_bytes
theorem putL_len32 (ts : List TermL) (t : TermL) : (putL ts t).2.length ≤ 32 := by
  by_cases hF : Fits t.2
  · by_cases hm : t ∈ ts
    · rw [putL_old hF hm]; exact Nat.le_of_eq (termN_len _)
    · rw [putL_new hF hm]; exact Nat.le_of_eq (termN_len _)
  · rw [putL_not hF]; exact Nat.zero_le _
theorem run_sleq {l m : List Nat} (hl : Bytes l) (hm : Bytes m) (w : World) : (Op.stringOp .leq (strOf l) (strOf m)).run Tryd.prog w = .ok (.bool (lessL l m || decide (l = m))) w := by
  rw [← sa_less hl hm, ← sa_beq hl hm]
  simp [Op.stringOp]
theorem run_sgeq {l m : List Nat} (hl : Bytes l) (hm : Bytes m) (w : World) : (Op.stringOp .geq (strOf l) (strOf m)).run Tryd.prog w = .ok (.bool (!lessL l m)) w := by
  rw [← sa_less hl hm]
  simp [Op.stringOp]
theorem run_smin {o : Oper} {a : Act} {x y : Operand} {l m z : List Nat} {ts : Array TypeId} (ho : o.op = .call { callee := .builtin .min, args := #[x, y], argTypes := ts }) (hx : a.eval x = .string (strOf l)) (hy : a.eval y = .string (strOf m)) (hl : Bytes l) (hm : Bytes m) (hz : z = if lessL m l = true then m else l) (w : World) : (execOp a.eval o).run Tryd.prog w = .ok (.value (.string (strOf z))) w := by
  have h : (Builtin.min_ ts o.type #[.string (strOf l), .string (strOf m)]).run Tryd.prog w = .ok (.string (strOf z)) w := by
    have e := run_sleq hl hm w
    rw [hz]
    by_cases h1 : lessL m l = true
    · have h2 := lessL_asym _ _ h1
      have h3 : l ≠ m := fun h => by rw [h, lessL_irrefl] at h1; cases h1
      simp [Builtin.min_, Builtin.min2, e, asBool, h1, h2, h3]
    · have h1' : lessL m l = false := by simpa using h1
      by_cases h2 : lessL l m = true
      · have h3 : l ≠ m := fun h => by rw [h, lessL_irrefl] at h2; cases h2
        simp [Builtin.min_, Builtin.min2, e, asBool, h1', h2, h3]
      · have h2' : lessL l m = false := by simpa using h2
        have h3 := lessL_tri l m h2' h1'
        subst h3
        simp [Builtin.min_, Builtin.min2, e, asBool, h1']
  unfold execOp
  simp only [ho, resolve, invoke, builtin, Sem.run_bind, Sem.run_pure, Result.andThen_ok, List.map_toArray, List.map_cons, List.map_nil, hx, hy, h]
theorem run_smax {o : Oper} {a : Act} {x y : Operand} {l m z : List Nat} {ts : Array TypeId} (ho : o.op = .call { callee := .builtin .max, args := #[x, y], argTypes := ts }) (hx : a.eval x = .string (strOf l)) (hy : a.eval y = .string (strOf m)) (hl : Bytes l) (hm : Bytes m) (hz : z = if lessL l m = true then m else l) (w : World) : (execOp a.eval o).run Tryd.prog w = .ok (.value (.string (strOf z))) w := by
  have h : (Builtin.max_ ts o.type #[.string (strOf l), .string (strOf m)]).run Tryd.prog w = .ok (.string (strOf z)) w := by
    have e := run_sgeq hl hm w
    rw [hz]
    by_cases h1 : lessL m l = true
    · have h2 := lessL_asym _ _ h1
      have h3 : l ≠ m := fun h => by rw [h, lessL_irrefl] at h1; cases h1
      simp [Builtin.max_, Builtin.max2, e, asBool, h1, h2, h3]
    · have h1' : lessL m l = false := by simpa using h1
      by_cases h2 : lessL l m = true
      · have h3 : l ≠ m := fun h => by rw [h, lessL_irrefl] at h2; cases h2
        simp [Builtin.max_, Builtin.max2, e, asBool, h1', h2, h3]
      · have h2' : lessL l m = false := by simpa using h2
        have h3 := lessL_tri l m h2' h1'
        subst h3
        simp [Builtin.max_, Builtin.max2, e, asBool, h1']
  unfold execOp
  simp only [ho, resolve, invoke, builtin, Sem.run_bind, Sem.run_pure, Result.andThen_ok, List.map_toArray, List.map_cons, List.map_nil, hx, hy, h]
theorem sort2_min (a y : List Nat) : sort2 a y = [if lessL y a = true then y else a, if lessL a y = true then y else a] := by
  unfold sort2
  by_cases h1 : lessL y a = true
  · rw [if_pos h1, if_pos h1, if_neg (by rw [lessL_asym _ _ h1]; decide)]
  · by_cases h2 : lessL a y = true
    · rw [if_neg h1, if_neg h1, if_pos h2]
    · rw [if_neg h1, if_neg h1, if_neg h2, lessL_tri a y (by simpa using h2) (by simpa using h1)]
/-- A public key has one part, of bytes, short enough. -/
theorem pub_form {ts : List TermL} (h : Terms ts) {t : TermL} (ht : t ∈ ts) (hk : t.1 = 2) : ∃ y, t = (2, [y]) ∧ Bytes y ∧ y.length ≤ 4000 := by
  obtain ⟨k, ps⟩ := t
  have hk' : k = 2 := hk
  subst hk'
  have hf := h.2 _ ht
  have hF := h.1.2 _ ht
  rcases hf.2 with ⟨e, _⟩ | ⟨_, y, e⟩ | ⟨e, _⟩ | e | e
  · cases e
  · have e' : ps = [y] := e
    subst e'
    exact ⟨y, rfl, hf.1 y (by simp), hF.2.1 y (by simp)⟩
  · cases e
  · cases e
  · cases e
set_option maxRecDepth 100000 in
set_option maxHeartbeats 4000000 in
theorem DhD {tb B : Nat} {ts : List TermL} {M : Nat → Prop} {a b : List Nat} {w : World} (hT : Tab tb B ts M w) (ha : Bytes a) (hb : Bytes b) (hal : a.length ≤ maxLen) (hbl : b.length ≤ maxLen) (hn : ts.length < 1000000) :
    Calls Tryd.prog 21 #[.pointer (some ⟨tb, 0, none⟩), .string (strOf a), .string (strOf b)] w fun e w' => e = .returned (.tuple #[.string (strOf (dhL ts a b).2.1), .bool (dhL ts a b).2.2]) ∧ Puts tb B ts M w (dhL ts a b).1 w' := by
  have CP := PartsD hT hb hbl hn
  obtain ⟨x, hx⟩ : ∃ x, x = partX ts b := ⟨_, rfl⟩
  rw [← hx] at CP
  have stay : ∀ w', dhL ts a b = (ts, [], false) → Below w.heap.size w w' → Ending.returned (.tuple #[.string .empty, .bool false]) = .returned (.tuple #[.string (strOf (dhL ts a b).2.1), .bool (dhL ts a b).2.2]) ∧ Puts tb B ts M w (dhL ts a b).1 w' := fun w' e q => by
    rw [e]
    exact ⟨rfl, M, hT.under q, Turn.of_below q⟩
  have KS : Kept _ := ⟨stay⟩
  have KT : Kept _ := ⟨hT⟩
  clear stay
  cases x with
  | none =>
    have KD : Kept _ := ⟨dhL_none (a := a) hx.symm⟩
    have KC : Kept _ := ⟨CP⟩
    clear hx CP hT hn
    go_enter Tryd.func21, Tryd.ntmps21
    go_wp2_with fail
    refine KC.out.mono ?_
    rintro e w1 ⟨rfl, q1⟩
    go_wp2_with fail
    refine bodyPost_ret (v := .tuple #[.string ⟨#[]⟩, .bool false]) (by simp [results, Tryd.results21, go_sem]) rfl ?_
    exact KS.out w1 KD.out q1
  | some t =>
    have hmem := partX_mem hx.symm
    by_cases hk : t.1 = 2
    case neg =>
      have KD : Kept _ := ⟨dhL_kind (a := a) hx.symm hk⟩
      obtain ⟨k, ps⟩ := t
      have hk' : ¬ k = 2 := hk
      have B1 : Kept (true = !decide (k = 2)) := ⟨by rw [decide_eq_false hk']; rfl⟩
      have KC : Kept _ := ⟨CP⟩
      clear hx CP hk hk' hmem hT hn
      go_enter Tryd.func21, Tryd.ntmps21
      go_wp2_with fail
      refine KC.out.mono ?_
      rintro e w1 ⟨⟨V, rfl, hV⟩, q1⟩
      obtain ⟨p, c, rfl, _⟩ := vals_form (vrow_vals hV) (strs_len ps)
      clear hV
      go_wp2_with (first | ((with_reducible refine wv_val (d := 24) ?hd ?hw (.bool true) ?hr ?_); (case hd => rfl); (case hw => kernel_rfl); (case hr => intro w; exact run_neU (n := 2) rfl (by kernel_rfl) rfl B1.out w); simp only [Act.put, List.setIfInBounds_toArray, List.set_cons_succ, List.set_cons_zero]))
      refine bodyPost_ret (v := .tuple #[.string ⟨#[]⟩, .bool false]) (by simp [results, Tryd.results21, go_sem]) rfl ?_
      exact KS.out w1 KD.out q1
    case pos =>
      obtain ⟨y, rfl, hy, hyl⟩ := pub_form hT.terms hmem hk
      have hD := dhL_two (a := a) hx.symm
      have hs2 := sort2_min a y
      have hsb := sort2_bytes ha hy
      have NB := putL_bytes ts (3, sort2 a y)
      obtain ⟨P, hP⟩ : ∃ P, P = (putL ts (3, sort2 a y)).2 := ⟨_, rfl⟩
      rw [hD, ← hP]
      rw [← hP] at NB
      have hf3 : Formed (3, sort2 a y) := ⟨hsb, .inr (.inr (.inl ⟨rfl, sort2_two a y⟩))⟩
      have CN := fun w1 V (q : Below w.heap.size w w1) (hV : ValsV V w1 (strs (sort2 a y))) => nameD (k := 3) (hT.under q) hf3 hV (fun l h => by
        rw [hs2] at h
        simp at h
        rcases h with rfl | rfl <;> split <;> first | exact hal | (unfold maxLen; omega)) hn
      rw [← hP] at CN
      obtain ⟨z1, hz1⟩ : ∃ z, z = if lessL y a = true then y else a := ⟨_, rfl⟩
      obtain ⟨z2, hz2⟩ : ∃ z, z = if lessL a y = true then y else a := ⟨_, rfl⟩
      rw [← hz1, ← hz2] at hs2
      obtain ⟨F, hF⟩ : ∃ F, F = decide (P ≠ []) := ⟨_, rfl⟩
      have BF : Kept (F = !decide (P = [])) := ⟨by rw [hF]; exact decide_not⟩
      rw [← hF]
      have KN : Kept _ := ⟨CN⟩
      have Ks : Kept _ := ⟨hs2⟩
      have KC : Kept _ := ⟨CP⟩
      have KNB : Kept _ := ⟨NB⟩
      have K1 : Kept _ := ⟨hz1⟩
      have K2 : Kept _ := ⟨hz2⟩
      have Ka : Kept _ := ⟨ha⟩
      have Ky : Kept _ := ⟨hy⟩
      clear hx CP hk hmem hD hs2 hsb NB hP hf3 CN hz1 hz2 hF hT hn ha hy hb KS
      go_enter Tryd.func21, Tryd.ntmps21
      go_wp2_with fail
      refine KC.out.mono ?_
      rintro e w1 ⟨⟨V, rfl, hV⟩, q1⟩
      have hV1 := vrow_vals hV
      obtain ⟨p, c, rfl, _⟩ := vals_form hV1 (strs_len [y])
      obtain ⟨A, rfl, hAb, hcell⟩ := vals_at hV1 (show (strs [y])[0]? = some (.string (strOf y)) from rfl)
      have KCe : Kept _ := ⟨hcell⟩
      have B1 : Kept (false = !decide (2 = 2)) := ⟨rfl⟩
      have hlt : 0 < 1 := by decide
      clear hV hV1 hcell
      go_wp2_with (first | ((with_reducible refine wv_val (d := 24) ?hd ?hw (.bool false) ?hr ?_); (case hd => rfl); (case hw => kernel_rfl); (case hr => intro w; exact run_neU (m := 2) (n := 2) rfl (by kernel_rfl) rfl B1.out w); simp only [Act.put, List.setIfInBounds_toArray, List.set_cons_succ, List.set_cons_zero]) | ((with_reducible refine wv_val (d := 27) ?hd ?hw (.pointer (some (A.add 0))) ?hr ?_); (case hd => rfl); (case hw => kernel_rfl); (case hr => intro w; exact run_idxS (i := 0) (l := 1) rfl (by kernel_rfl) rfl Tryd.underlying35 hlt Tryd.sizeOf9 w); simp only [Act.put, List.setIfInBounds_toArray, List.set_cons_succ, List.set_cons_zero]) | ((with_reducible refine wv_elem (d := 28) ?hd ?hw 9 ag_str (.tmp 27) ?ho (A.add 0) ?hx (.string (strOf y)) ?hc ?_); (case hd => rfl); (case hw => kernel_rfl); (case ho => rfl); (case hx => kernel_rfl); (case hc => exact KCe.out); simp only [Act.put, List.setIfInBounds_toArray, List.set_cons_succ, List.set_cons_zero]) | ((with_reducible refine wv_val (d := 32) ?hd ?hw (.string (strOf z1)) ?hr ?_); (case hd => rfl); (case hw => kernel_rfl); (case hr => intro w; exact run_smin rfl (by kernel_rfl) (by kernel_rfl) Ka.out Ky.out K1.out w); simp only [Act.put, List.setIfInBounds_toArray, List.set_cons_succ, List.set_cons_zero]) | ((with_reducible refine wv_val (d := 35) ?hd ?hw (.string (strOf z2)) ?hr ?_); (case hd => rfl); (case hw => kernel_rfl); (case hr => intro w; exact run_smax rfl (by kernel_rfl) (by kernel_rfl) Ka.out Ky.out K2.out w); simp only [Act.put, List.setIfInBounds_toArray, List.set_cons_succ, List.set_cons_zero]) | (refine wl_bs2 (by kernel_rfl) (.tmp 32) (.tmp 35) rfl (z1) (z2) (by kernel_rfl) (by kernel_rfl) ?_; simp only [Act.put, List.setIfInBounds_toArray, List.set_cons_succ, List.set_cons_zero]))
      have q2 := q1.trans (((Below.refl w1.heap.size w1).alloc (Nat.le_refl _) (.cells #[.string (strOf z1), .string (strOf z2)] 9)).mono q1.size)
      refine (KN.out _ _ q2 (by rw [Ks.out]; exact new2 z1 z2 w1)).mono ?_
      rintro e w3 ⟨rfl, hPu⟩
      have KPu : Kept _ := ⟨hPu⟩
      clear hPu
      go_wp2_with (first | ((with_reducible refine wv_val (d := 40) ?hd ?hw (.bool F) ?hr ?_); (case hd => rfl); (case hw => kernel_rfl); (case hr => intro w; exact run_sneq (m := []) rfl (by kernel_rfl) rfl KNB.out nil_bytes BF.out w); simp only [Act.put, List.setIfInBounds_toArray, List.set_cons_succ, List.set_cons_zero]))
      refine bodyPost_ret (v := .tuple #[.string (strOf P), .bool F]) (by simp [results, Tryd.results21, go_sem]) rfl ?_
      exact ⟨rfl, KPu.out.from q2⟩
set_option maxRecDepth 100000 in
set_option maxHeartbeats 2000000 in
theorem DhN {p : Option Addr} {a b : List Nat} {w : World} (hp : Nobody p w) (hb : Bytes b) (hbl : b.length ≤ maxLen) :
    Calls Tryd.prog 21 #[.pointer p, .string (strOf a), .string (strOf b)] w fun e w' => e = .returned (.tuple #[.string .empty, .bool false]) ∧ w' = w := by
  have KC : Kept _ := ⟨PartsN hp hb hbl⟩
  clear hp hb
  go_enter Tryd.func21, Tryd.ntmps21
  go_wp2_with fail
  refine KC.out.mono ?_
  rintro e w1 ⟨rfl, hw⟩
  obtain rfl := hw.symm
  go_wp2_with fail
  refine bodyPost_ret (v := .tuple #[.string ⟨#[]⟩, .bool false]) (by simp [results, Tryd.results21, go_sem]) rfl ?_
  exact ⟨rfl, rfl⟩
end Go.Proofs.YtfdldpcfdebinaaDoor.sh
