/-
  General pieces, joined: SA SC BL SE CA CB CC.
-/
import Derived.Test.YtjkdonjcngmjeaaGreatDoorG08
import Derived.Test.YtjkdonjcngmjeaaGreatDoorG11
import Derived.Test.YtjkdonjcngmjeaaGreatDoorG09
import Derived.Test.YtjkdonjcngmjeaaGreatDoorG10
import Derived.Test.YtjkdonjcngmjeaaGreatDoorG12
import Derived.Test.YtjkdonjcngmjeaaGreatDoorG13
import Derived.Laws.IdiomStrings
import Derived.Shelf.Strings.Builder1
import Derived.Shelf.Strings.Builder2
import Derived.Shelf.Strconv.Clone
import Derived.Shelf.Strings.Prefix
import Derived.Shelf.LaysM
import Derived.SliceStrings
import Derived.ProofKit
import Derived.LaidMore
import Derived.OpenShut
import Derived.ChangeOld
/-
  Strings as lists of bytes: length, bytes, parts, joined, compared, turned into bytes.
-/
namespace Go.Proofs.YtjkdonjcngmjeaaGreatDoor.sh
open Go Go.RowKit
set_option linter.unusedVariables false
set_option linter.unusedSimpArgs false

/-- The bytes of a string. -/
def strL (s : ByteArray) : List Nat := s.data.toList.map (·.toNat)
theorem strL_bytes (s : ByteArray) : Bytes (strL s) := bytes_of_all (fun x hx => by
  unfold strL at hx
  obtain ⟨u, _, rfl⟩ := List.mem_map.1 hx
  exact u.toNat_lt)
theorem sa_fold : ∀ (l : List Nat) (b : ByteArray), ((l.map fun n : Nat => (n : Int)).foldl (fun r n => r.push (UInt8.ofNat n.toNat)) b).data.toList = b.data.toList ++ l.map (fun n => UInt8.ofNat n)
  | [], b => by simp
  | x :: l, b => by
    rw [List.map_cons, List.foldl_cons, sa_fold l]
    simp [ByteArray.push]
theorem sa_data (l : List Nat) : (strOf l).data.toList = l.map (fun n => UInt8.ofNat n) := by
  unfold strOf
  rw [sa_fold]
  rfl
theorem str_ext {s t : ByteArray} (h : s.data.toList = t.data.toList) : s = t := by
  cases s; cases t
  simp only at h
  congr 1
  exact Array.toList_inj.1 h
theorem strOf_strL (s : ByteArray) : strOf (strL s) = s := by
  refine str_ext ?_
  rw [sa_data]
  unfold strL
  rw [List.map_map]
  conv => rhs; rw [← List.map_id s.data.toList]
  exact List.map_congr_left fun x _ => by simp
theorem strL_strOf {l : List Nat} (h : Bytes l) : strL (strOf l) = l := by
  unfold strL
  rw [sa_data, List.map_map]
  conv => rhs; rw [← List.map_id l]
  refine List.map_congr_left fun x hx => ?_
  have := h.all x hx
  simp
  omega
theorem strOf_size (l : List Nat) : (strOf l).size = l.length := by
  show (strOf l).data.size = _
  rw [← Array.length_toList, sa_data, List.length_map]
theorem strOf_append (l m : List Nat) : strOf l ++ strOf m = strOf (l ++ m) := by
  refine str_ext ?_
  rw [sa_data, List.map_append, ← sa_data, ← sa_data, ByteArray.data_append, Array.toList_append]
theorem strOf_same {l m : List Nat} (hl : Bytes l) (hm : Bytes m) (h : strOf l = strOf m) : l = m := by
  rw [← strL_strOf hl, h, strL_strOf hm]
theorem sa_beq {l m : List Nat} (hl : Bytes l) (hm : Bytes m) : ((strOf l).toList == (strOf m).toList) = decide (l = m) := by
  by_cases h : l = m
  · rw [h]; simp
  · rw [decide_eq_false h]
    refine beq_eq_false_iff_ne.2 (fun e => h (strOf_same hl hm (str_ext ?_)))
    rw [ByteArray.toList_eq, ByteArray.toList_eq] at e
    exact e
theorem run_scat {o : Oper} {a : Act} {x y : Operand} {l m k : List Nat} (ho : o.op = .binOp .add 9 x y 9) (hx : a.eval x = .string (strOf l)) (hy : a.eval y = .string (strOf m)) (hn : l.length + m.length < 4611686018427387904) (hk : k = l ++ m) (w : World) : (execOp a.eval o).run Tryz.prog w = .ok (.value (.string (strOf k))) w := by
  have h1 : ¬ (((strOf l).size + (strOf m).size : Nat) : Int) > IntKind.i64.max := by rw [strOf_size, strOf_size, show IntKind.i64.max = 9223372036854775807 from rfl]; omega
  unfold execOp
  simp only [ho, hx, hy]
  simp [go_sem, Op.stringOp, h1]
  rw [if_neg (by simpa using h1), hk, ← strOf_append]
theorem run_seq {o : Oper} {a : Act} {x y : Operand} {u : TypeId} {l m : List Nat} {b : Bool} (ho : o.op = .binOp .eql 9 x y u) (hx : a.eval x = .string (strOf l)) (hy : a.eval y = .string (strOf m)) (hl : Bytes l) (hm : Bytes m) (hb : b = decide (l = m)) (w : World) : (execOp a.eval o).run Tryz.prog w = .ok (.value (.bool b)) w := by
  have e := sa_beq hl hm
  unfold execOp
  simp only [ho, hx, hy]
  rw [hb, ← e]
  simp [go_sem]
theorem run_sneq {o : Oper} {a : Act} {x y : Operand} {u : TypeId} {l m : List Nat} {b : Bool} (ho : o.op = .binOp .neq 9 x y u) (hx : a.eval x = .string (strOf l)) (hy : a.eval y = .string (strOf m)) (hl : Bytes l) (hm : Bytes m) (hb : b = !decide (l = m)) (w : World) : (execOp a.eval o).run Tryz.prog w = .ok (.value (.bool b)) w := by
  have e := sa_beq hl hm
  unfold execOp
  simp only [ho, hx, hy]
  rw [hb, ← e]
  simp [go_sem]
theorem run_slen {o : Oper} {a : Act} {x : Operand} {l : List Nat} {n : Nat} (ho : o.op = .call { callee := .builtin .len, args := #[x], argTypes := #[9] }) (hx : a.eval x = .string (strOf l)) (hn : n = l.length) (w : World) : (execOp a.eval o).run Tryz.prog w = .ok (.value (.int .i64 (n : Int))) w := by
  unfold execOp
  simp only [ho, resolve, invoke, builtin, Sem.run_bind, Sem.run_pure, Result.andThen_ok, List.map_toArray, List.map_cons, List.map_nil, hx]
  simp [Builtin.len_, run_underlying str_u, goInt, go_sem, strOf_size, hn]
end Go.Proofs.YtjkdonjcngmjeaaGreatDoor.sh
/-
  Slices whose elements have one cell each, whatever they are: read, owned, appended to; slices of strings.
-/
namespace Go.Proofs.YtjkdonjcngmjeaaGreatDoor.sh
open Go Go.RowKit
set_option linter.unusedVariables false
set_option linter.unusedSimpArgs false

/-- Values, of one cell each, that a slice holds. -/
def ValsV (v : Value) (w : World) (vs : List Value) : Prop := ∃ p c, v = .slice p vs.length c ∧ vs.length ≤ c ∧ (vs ≠ [] → ∃ A, p = some A ∧ A.block < w.heap.size ∧ ∀ (j : Nat) (x : Value), vs[j]? = some x → w.cell? (A.add j) = some x)
theorem ValsV.below {v : Value} {w w' : World} {vs : List Value} {B : Nat} (h : ValsV v w vs) (hB : ∀ b, blkOf v = some b → b < B) (hb : Below B w w') : ValsV v w' vs := by
  obtain ⟨p, c, rfl, h2, h3⟩ := h
  refine ⟨p, c, rfl, h2, fun hne => ?_⟩
  obtain ⟨A, rfl, e2, e3⟩ := h3 hne
  exact ⟨A, rfl, Nat.lt_of_lt_of_le e2 hb.size, fun j x hx => by rw [hb.cell (by rw [add_block]; exact hB _ rfl)]; exact e3 j x hx⟩
theorem ValsV.under {v : Value} {w w' : World} {vs : List Value} (h : ValsV v w vs) (hb : Below w.heap.size w w') : ValsV v w' vs := by
  obtain ⟨p, c, rfl, hlc, hp⟩ := h
  refine ⟨p, c, rfl, hlc, fun hne => ?_⟩
  obtain ⟨A, rfl, hA, hc⟩ := hp hne
  exact ⟨A, rfl, Nat.lt_of_lt_of_le hA hb.size, fun j x hx => (hb.cell (by rw [add_block]; exact hA)).trans (hc j x hx)⟩
theorem vals_nil (w : World) : ValsV (.slice none 0 0) w [] := ⟨none, 0, rfl, Nat.le_refl _, fun h => absurd rfl h⟩
theorem vals_form {v : Value} {w : World} {vs : List Value} {n : Nat} (h : ValsV v w vs) (hn : vs.length = n) : ∃ p c, v = .slice p n c ∧ n ≤ c := by
  obtain ⟨p, c, rfl, h2, _⟩ := h
  exact ⟨p, c, by rw [hn], by omega⟩
theorem vals_at {p : Option Addr} {n c : Nat} {w : World} {vs : List Value} (h : ValsV (.slice p n c) w vs) {i : Nat} {x : Value} (hx : vs[i]? = some x) : ∃ A, p = some A ∧ A.block < w.heap.size ∧ w.cell? (A.add i) = some x := by
  obtain ⟨p', c', e1, _, e3⟩ := h
  cases e1
  obtain ⟨A, e4, e6, e5⟩ := e3 (by intro e; rw [e] at hx; cases hx)
  exact ⟨A, e4, e6, e5 i x hx⟩
/-- The same, in a block that the call owns. -/
def VRow (base : Nat) (e : TypeId) (vs : List Value) : Value → World → Prop := fun v w => w.ownsRow base e 1 v vs.length vs
theorem vrow_blk {base : Nat} {e : TypeId} {vs : List Value} {v : Value} {w : World} (h : VRow base e vs v w) : v.ownBlock = blkOf v := by
  rcases h.2 with ⟨rfl, _⟩ | ⟨g, cap, cur, rfl, _⟩ <;> rfl
theorem VRow.keeps {base : Nat} {e : TypeId} {vs : List Value} {v : Value} {w w' : World} {row : Option Nat} (h : VRow base e vs v w) (hg : w.grownBy w' row) (hne : blkOf v = none ∨ blkOf v ≠ row) : VRow base e vs v w' := by
  obtain ⟨h1, h2⟩ := h
  refine ⟨h1, ?_⟩
  rcases h2 with h | ⟨g, cap, cur, rfl, hb, hgt, r⟩
  · exact .inl h
  · refine .inr ⟨g, cap, cur, rfl, hb, ?_, r⟩
    have hlt : g < w.heap.size := (Array.getElem?_eq_some_iff.1 hgt).1
    rw [hg.block g hlt (fun e => by
      rcases hne with h | h
      · cases h
      · exact h e)]
    exact hgt
theorem VRow.mono {base b' : Nat} {e : TypeId} {vs : List Value} {v : Value} {w : World} (h : VRow base e vs v w) (hb : b' ≤ base) : VRow b' e vs v w := by
  obtain ⟨h1, h2⟩ := h
  refine ⟨h1, ?_⟩
  rcases h2 with h | ⟨g, cap, cur, a, b, c⟩
  · exact .inl h
  · exact .inr ⟨g, cap, cur, a, Nat.le_trans hb b, c⟩
theorem VRow.range {base : Nat} {e : TypeId} {vs : List Value} {v : Value} {w : World} (h : VRow base e vs v w) : ∀ b, blkOf v = some b → base ≤ b ∧ b < w.heap.size := fun b hb => h.lt b (by rw [vrow_blk h]; exact hb)
theorem VRow.under {base : Nat} {e : TypeId} {vs : List Value} {v : Value} {w w' : World} (h : VRow base e vs v w) (hb : Below w.heap.size w w') : VRow base e vs v w' := h.keeps (grown_under hb) (ne_none v)
theorem VRow.alloc {base : Nat} {e : TypeId} {vs : List Value} {v : Value} {w : World} (h : VRow base e vs v w) (o : Obj) : VRow base e vs v (w.alloc o) := World.ownsRow.alloc h o
theorem vrow_nil (w : World) (base : Nat) (e : TypeId) : VRow base e [] (.slice none 0 0) w := World.ownsRow_nil w base e 1
theorem vrow_lit {base : Nat} {e : TypeId} (w : World) (A : Array Value) (n : Nat) (hn : A.size = n) (hb : base ≤ w.heap.size) (hm : n ≤ maxLen) : VRow base e A.toList (.slice (some ⟨w.heap.size, 0, none⟩) n n) (w.alloc (.cells A e)) := by
  subst hn
  unfold VRow
  rw [Array.length_toList]
  refine ⟨by simp, .inr ⟨w.heap.size, A.size, A, rfl, hb, heap_new w _, Nat.le_refl _, hm, by omega, ?_⟩⟩
  rw [Nat.mul_one, List.take_of_length_le (by simp)]
theorem vrow_vals {base : Nat} {e : TypeId} {vs : List Value} {v : Value} {w : World} (h : VRow base e vs v w) : ValsV v w vs := by
  rcases h.2 with ⟨rfl, h0⟩ | ⟨g, cap, cur, rfl, hb, hg, hn, hm, hs, ht⟩
  · have : vs = [] := List.eq_nil_of_length_eq_zero h0
    subst this
    exact vals_nil w
  · refine ⟨_, cap, rfl, hn, fun _ => ⟨_, rfl, (Array.getElem?_eq_some_iff.1 hg).1, fun j x hx => ?_⟩⟩
    rw [addr_add, Nat.zero_add]
    refine cell_row hg ?_
    have hj : j < vs.length := (List.getElem?_eq_some_iff.1 hx).1
    have h3 : (cur.toList.take (vs.length * 1))[j]? = vs[j]? := by rw [ht]
    rw [List.getElem?_take_of_lt (by omega), hx, Array.getElem?_toList] at h3
    exact h3
theorem appV_run {P : Program} {t ty e : TypeId} {z : Value} {bytes : Nat} (ht : P.underlying t = some (.slice e)) (hi : (P.info? e).map (fun i => (i.zero, i.size, i.bytes)) = some (some z, 1, bytes)) (hz : z.cells.size = 1) {base : Nat} {l m : List Value} {v u : Value} {w : World} (hown : VRow base e l v w) (hx : ValsV u w m) (h1 : ∀ x ∈ m, x.oneCell' = true) (hn : l.length + m.length ≤ 1099511627776) (hby : bytes ≤ 64) (hbase : base ≤ w.heap.size) :
    ∃ v' w', (Builtin.append_ #[t, t] ty #[v, u]).run P w = .ok v' w' ∧ VRow base e (l ++ m) v' w' ∧ w.grownBy w' (blkOf v) ∧ (blkOf v' = blkOf v ∨ blkOf v' = some w.heap.size) := by
  cases hq : P.info? e with
  | none => rw [hq] at hi; cases hi
  | some i0 =>
  rw [hq] at hi
  simp only [Option.map_some, Option.some.injEq, Prod.mk.injEq] at hi
  obtain ⟨hz0, hz1, hz2⟩ := hi
  obtain ⟨p, c, rfl, h2, h3⟩ := hx
  have hbl := vrow_blk hown
  have hmax : l.length + m.length ≤ maxLen := by unfold maxLen; omega
  have hbb : (l.length + m.length) * bytes ≤ 140737488355328 := Nat.le_trans (Nat.mul_le_mul hn hby) (by decide)
  cases p with
  | none =>
    have hm0 : m = [] := by
      cases m with
      | nil => rfl
      | cons x r => obtain ⟨A, h, _⟩ := h3 (by simp); cases h
    subst hm0
    refine ⟨v, w, ?_, by rw [List.append_nil]; exact hown, ⟨rfl, rfl, rfl, Nat.le_refl _, fun _ _ _ => rfl⟩, .inl rfl⟩
    rcases hown.2 with ⟨rfl, h0⟩ | ⟨g, cap, cur, rfl, _, _, hnc, _⟩
    · simp [Builtin.append_, run_underlying ht, sizeOf, typeInfo, hq, Builtin.lenOf, Builtin.firstCells, h0]
    · simp [Builtin.append_, run_underlying ht, sizeOf, typeInfo, hq, Builtin.lenOf, Builtin.firstCells, hnc, storeCells]
  | some A =>
    obtain ⟨v', w', h4, h5, h6, _, h8⟩ := run_append_own_at (P := P) w base t ty e i0 z 1 bytes ht hq hz0 hz1 hz2 hz (by decide) v l.length l hown A m.length c m (by simp) (by
      intro j y hj
      obtain ⟨A', e1, _, e3⟩ := h3 (by intro e; rw [e] at hj; simp at hj)
      cases e1
      exact e3 j y hj) h1 hmax hbb hbase
    have hrow : VRow base e (l ++ m) v' w' := by unfold VRow; rw [List.length_append]; exact h5
    rw [vrow_blk hrow, hbl] at h8
    exact ⟨v', w', h4, hrow, by rw [← hbl]; exact h6, h8⟩
/-- 'append' in a plain region. -/
theorem wl_appV {ops : Array Oper} {rest : List Oper} {o : Oper} {a : Act} {w : World} {Q : Exit → Act → World → Prop} (hw : Region.wanted o (yielded ops a.tmps) = true) (s x : Operand) (t e : TypeId) (z : Value) (bytes : Nat) (ho : o.op = .call { callee := .builtin .append, args := #[s, x], argTypes := #[t, t] }) (ht : Tryz.prog.underlying t = some (.slice e)) (hi : (Tryz.prog.info? e).map (fun i => (i.zero, i.size, i.bytes)) = some (some z, 1, bytes)) (hz : z.cells.size = 1) (hby : bytes ≤ 64) (base : Nat) (l m : List Value) (v u : Value) (hs : a.eval s = v) (hx : a.eval x = u) (hv : VRow base e l v w) (hu : ValsV u w m) (h1 : ∀ x ∈ m, x.oneCell' = true) (hn : l.length + m.length ≤ 1099511627776) (hbase : base ≤ w.heap.size)
    (hk : ∀ v' w', VRow base e (l ++ m) v' w' → w.grownBy w' (blkOf v) → (blkOf v' = blkOf v ∨ blkOf v' = some w.heap.size) → wpList Tryz.prog ops Q rest (a.put o.dst v') w') : wpList Tryz.prog ops Q (o :: rest) a w :=
  BigFrame.wpList_want hw fun K hK => by
    obtain ⟨v', w', h4, h5, h6, h7⟩ := appV_run (ty := o.type) ht hi hz hv hu h1 hn hby hbase
    unfold Oper.wp execOp
    simp only [ho, resolve, invoke, builtin, Sem.run_bind, Sem.run_pure, Result.andThen_ok, List.map_toArray, List.map_cons, List.map_nil, hs, hx, h4]
    exact hK _ _ (hk v' w' h5 h6 h7)
/-- Strings as values. -/
def strs (ll : List (List Nat)) : List Value := ll.map fun l => .string (strOf l)
theorem strs_len (ll : List (List Nat)) : (strs ll).length = ll.length := by simp [strs]
theorem strs_get {ll : List (List Nat)} {i : Nat} {l : List Nat} (h : ll[i]? = some l) : (strs ll)[i]? = some (.string (strOf l)) := by unfold strs; rw [List.getElem?_map, h]; rfl
theorem strs_append (ll mm : List (List Nat)) : strs (ll ++ mm) = strs ll ++ strs mm := by simp [strs]
end Go.Proofs.YtjkdonjcngmjeaaGreatDoor.sh
/-
  The library's builder, its Clone and its HasPrefix in this program: the shelf's contracts, over one table of numbers.
-/
namespace Go.Proofs.YtjkdonjcngmjeaaGreatDoor.sh
open Go Go.RowKit Go.Shelf
set_option linter.unusedVariables false
set_option linter.unusedSimpArgs false

def ren : Ren := { f := fun n => if n = 165 then 98 else if n = 166 then 100 else if n = 167 then 99 else if n = 169 then 101 else if n = 240 then 126 else if n = 241 then 127 else if n = 276 then 139 else if n = 277 then 140 else if n = 316 then 144 else if n = 99 then 104 else if n = 206 then 130 else if n = 103 then 66 else if n = 210 then 103 else if n = 231 then 105 else if n = 105 then 102 else if n = 170 then 129 else if n = 212 then 128 else if n = 263 then 141 else if n = 264 then 137 else n, t := fun n => if n = 70 then 155 else if n = 3 then 3 else if n = 0 then 0 else if n = 4 then 4 else if n = 9 then 9 else if n = 20 then 20 else if n = 72 then 157 else if n = 37 then 34 else if n = 164 then 205 else if n = 5 then 5 else if n = 75 then 160 else if n = 80 then 164 else if n = 127 then 193 else if n = 24 then 37 else if n = 46 then 96 else if n = 51 then 72 else if n = 53 then 22 else if n = 76 then 162 else if n = 109 then 194 else if n = 146 then 208 else if n = 148 then 179 else n, g := fun n => n }
theorem lay165 : Lays.n165 Tryz.prog ren := { mixed := by kernel_rfl, f165 := Tryz.func98.trans (congrArg some (by kernel_rfl)), f240 := Tryz.func126.trans (congrArg some (by kernel_rfl)), f241 := Tryz.func127.trans (congrArg some (by kernel_rfl)), f276 := Tryz.func139.trans (congrArg some (by kernel_rfl)), f277 := Tryz.func140.trans (congrArg some (by kernel_rfl)), t0 := Tryz.underlying0, a0 := Tryz.isAgg0, z0 := Tryz.sizeOf0, v0 := Tryz.zeroValue0, t3 := Tryz.underlying3, a3 := Tryz.isAgg3, z3 := Tryz.sizeOf3, v3 := Tryz.zeroValue3, t4 := Tryz.underlying4, a4 := Tryz.isAgg4, z4 := Tryz.sizeOf4, v4 := Tryz.zeroValue4, t9 := Tryz.underlying9, a9 := Tryz.isAgg9, z9 := Tryz.sizeOf9, v9 := Tryz.zeroValue9, t20 := Tryz.underlying20, a20 := Tryz.isAgg20, z20 := Tryz.sizeOf20, v20 := Tryz.zeroValue20, t37 := Tryz.underlying34, a37 := Tryz.isAgg34, z37 := Tryz.sizeOf34, v37 := Tryz.zeroValue34, t70 := Tryz.underlying155, a70 := Tryz.isAgg155, z70 := Tryz.sizeOf155, v70 := Tryz.zeroValue155, t72 := Tryz.underlying157, a72 := Tryz.isAgg157, z72 := Tryz.sizeOf157, v72 := Tryz.zeroValue157, t164 := Tryz.underlying205, a164 := Tryz.isAgg205, z164 := Tryz.sizeOf205, v164 := Tryz.zeroValue205 }
theorem lay166 : Lays.n166 Tryz.prog ren := { mixed := by kernel_rfl, f166 := Tryz.func100.trans (congrArg some (by kernel_rfl)), f240 := Tryz.func126.trans (congrArg some (by kernel_rfl)), f276 := Tryz.func139.trans (congrArg some (by kernel_rfl)), t0 := Tryz.underlying0, a0 := Tryz.isAgg0, z0 := Tryz.sizeOf0, v0 := Tryz.zeroValue0, t3 := Tryz.underlying3, a3 := Tryz.isAgg3, z3 := Tryz.sizeOf3, v3 := Tryz.zeroValue3, t4 := Tryz.underlying4, a4 := Tryz.isAgg4, z4 := Tryz.sizeOf4, v4 := Tryz.zeroValue4, t9 := Tryz.underlying9, a9 := Tryz.isAgg9, z9 := Tryz.sizeOf9, v9 := Tryz.zeroValue9, t20 := Tryz.underlying20, a20 := Tryz.isAgg20, z20 := Tryz.sizeOf20, v20 := Tryz.zeroValue20, t37 := Tryz.underlying34, a37 := Tryz.isAgg34, z37 := Tryz.sizeOf34, v37 := Tryz.zeroValue34, t70 := Tryz.underlying155, a70 := Tryz.isAgg155, z70 := Tryz.sizeOf155, v70 := Tryz.zeroValue155, t72 := Tryz.underlying157, a72 := Tryz.isAgg157, z72 := Tryz.sizeOf157, v72 := Tryz.zeroValue157, t75 := Tryz.underlying160, a75 := Tryz.isAgg160, z75 := Tryz.sizeOf160, v75 := Tryz.zeroValue160, t164 := Tryz.underlying205, a164 := Tryz.isAgg205, z164 := Tryz.sizeOf205, v164 := Tryz.zeroValue205 }
theorem lay167 : Lays.n167 Tryz.prog ren := { mixed := by kernel_rfl, f167 := Tryz.func99.trans (congrArg some (by kernel_rfl)), f240 := Tryz.func126.trans (congrArg some (by kernel_rfl)), f276 := Tryz.func139.trans (congrArg some (by kernel_rfl)), t0 := Tryz.underlying0, a0 := Tryz.isAgg0, z0 := Tryz.sizeOf0, v0 := Tryz.zeroValue0, t4 := Tryz.underlying4, a4 := Tryz.isAgg4, z4 := Tryz.sizeOf4, v4 := Tryz.zeroValue4, t5 := Tryz.underlying5, a5 := Tryz.isAgg5, z5 := Tryz.sizeOf5, v5 := Tryz.zeroValue5, t9 := Tryz.underlying9, a9 := Tryz.isAgg9, z9 := Tryz.sizeOf9, v9 := Tryz.zeroValue9, t20 := Tryz.underlying20, a20 := Tryz.isAgg20, z20 := Tryz.sizeOf20, v20 := Tryz.zeroValue20, t37 := Tryz.underlying34, a37 := Tryz.isAgg34, z37 := Tryz.sizeOf34, v37 := Tryz.zeroValue34, t70 := Tryz.underlying155, a70 := Tryz.isAgg155, z70 := Tryz.sizeOf155, v70 := Tryz.zeroValue155, t72 := Tryz.underlying157, a72 := Tryz.isAgg157, z72 := Tryz.sizeOf157, v72 := Tryz.zeroValue157, t75 := Tryz.underlying160, a75 := Tryz.isAgg160, z75 := Tryz.sizeOf160, v75 := Tryz.zeroValue160, t164 := Tryz.underlying205, a164 := Tryz.isAgg205, z164 := Tryz.sizeOf205, v164 := Tryz.zeroValue205 }
theorem lay169 : Lays.n169 Tryz.prog ren := { mixed := by kernel_rfl, f169 := Tryz.func101.trans (congrArg some (by kernel_rfl)), t0 := Tryz.underlying0, a0 := Tryz.isAgg0, z0 := Tryz.sizeOf0, v0 := Tryz.zeroValue0, t3 := Tryz.underlying3, a3 := Tryz.isAgg3, z3 := Tryz.sizeOf3, v3 := Tryz.zeroValue3, t9 := Tryz.underlying9, a9 := Tryz.isAgg9, z9 := Tryz.sizeOf9, v9 := Tryz.zeroValue9, t37 := Tryz.underlying34, a37 := Tryz.isAgg34, z37 := Tryz.sizeOf34, v37 := Tryz.zeroValue34, t70 := Tryz.underlying155, a70 := Tryz.isAgg155, z70 := Tryz.sizeOf155, v70 := Tryz.zeroValue155, t72 := Tryz.underlying157, a72 := Tryz.isAgg157, z72 := Tryz.sizeOf157, v72 := Tryz.zeroValue157, t127 := Tryz.underlying193, a127 := Tryz.isAgg193, z127 := Tryz.sizeOf193, v127 := Tryz.zeroValue193 }
theorem layX : Builder.Extra Tryz.prog ren := { sizeBuilder := by kernel_rfl, liesBuilder := by kernel_rfl, t5 := Tryz.underlying5, a5 := Tryz.isAgg5, z5 := Tryz.sizeOf5, v5 := Tryz.zeroValue5, infoByte := by kernel_rfl, cellsByte := by kernel_rfl, sizeByte := by kernel_rfl, neB5 := by decide }

/-- Bytes as cells. -/
def cellsL (l : List Nat) : List Value := l.map fun n : Nat => Value.int .u8 (n : Int)
theorem cellsL_len (l : List Nat) : (cellsL l).length = l.length := by simp [cellsL]
theorem cellsL_append (l m : List Nat) : cellsL (l ++ m) = cellsL l ++ cellsL m := by simp [cellsL]
theorem cellsL_bytes {l : List Nat} (h : Bytes l) : Lib.byteCells (l.map fun n => UInt8.ofNat n) = cellsL l := by
  unfold Lib.byteCells cellsL
  rw [List.map_map]
  refine List.map_congr_left fun x hx => ?_
  have := h.all x hx
  simp
  omega
theorem cellsL_str {l : List Nat} (h : Bytes l) : Lib.strCells (strOf l) = cellsL l := by
  rw [Lib.strCells_eq, sa_data]
  exact cellsL_bytes h
theorem strOf_mk (l : List Nat) : (⟨(l.map fun n => UInt8.ofNat n).toArray⟩ : ByteArray) = strOf l := str_ext (by rw [sa_data])

/-- A builder of the call's own that holds these bytes. -/
def Bld (B b : Nat) (l : List Nat) (w : World) : Prop := Lib.IsBuilder 157 5 B b (cellsL l) w
theorem bGrow {B n : Nat} (w : World) (hB : B ≤ w.heap.size) (hn : n ≤ 281474976710656) :
    Calls Tryz.prog 98 #[.pointer (some ⟨w.heap.size, 0, none⟩), .int .i64 (n : Int)] (w.alloc (.cells #[.pointer none, .slice none 0 0] 157)) fun e w' => e = .returned (.tuple #[]) ∧ Bld B w.heap.size [] w' ∧ Below B w w' := by
  refine (Any.Builder_Grow_fresh lay165 layX B w.heap.size n _ hB (heap_alloc_new w _) (by simp; omega) hn).mono ?_
  rintro e w' ⟨rfl, h1, h2⟩
  exact ⟨rfl, .inr h1, ((Below.refl B w).alloc hB _).trans h2⟩
theorem bByte {B b c : Nat} {l : List Nat} {w : World} (h : Bld B b l w) (hl : l.length + 1 ≤ 140737488355328) (hB : B ≤ w.heap.size) :
    Calls Tryz.prog 99 #[.pointer (some ⟨b, 0, none⟩), .int .u8 (c : Int)] w fun e w' => e = .returned .nilIface ∧ Bld B b (l ++ [c]) w' ∧ Below B w w' := by
  refine (Any.Builder_WriteByte lay167 layX B b (cellsL l) (c : Int) w h (by rw [cellsL_len]; exact hl) hB).mono ?_
  rintro e w' ⟨rfl, h1, h2⟩
  exact ⟨rfl, by unfold Bld; rw [cellsL_append]; exact .inr h1, h2⟩
theorem bStr {B b : Nat} {l m : List Nat} {w : World} (h : Bld B b l w) (hm : Bytes m) (hl : l.length + m.length ≤ 140737488355328) (hB : B ≤ w.heap.size) :
    Calls Tryz.prog 100 #[.pointer (some ⟨b, 0, none⟩), .string (strOf m)] w fun e w' => (∃ n, e = .returned (.tuple #[n, .nilIface])) ∧ Bld B b (l ++ m) w' ∧ Below B w w' := by
  refine (Any.Builder_WriteString lay166 layX B b (cellsL l) (strOf m) w h (by rw [cellsL_len, strOf_size]; exact hl) hB).mono ?_
  rintro e w' ⟨rfl, h1, h2⟩
  exact ⟨⟨_, rfl⟩, by unfold Bld; rw [cellsL_append, ← cellsL_str hm]; exact .inr h1, h2⟩
theorem bString {B b : Nat} {l : List Nat} {w : World} (h : Bld B b l w) (hl : Bytes l) (hB : B ≤ w.heap.size) :
    Calls Tryz.prog 101 #[.pointer (some ⟨b, 0, none⟩)] w fun e w' => e = .returned (.string (strOf l)) ∧ Below B w w' := by
  refine (Any.Builder_String_any lay169 layX B b (l.map fun n => UInt8.ofNat n) w (by rw [cellsL_bytes hl]; exact h) hB).mono ?_
  rintro e w' ⟨rfl, h1⟩
  exact ⟨by rw [strOf_mk], h1⟩
end Go.Proofs.YtjkdonjcngmjeaaGreatDoor.sh
/-
  Arguments that are strings, and slices of strings.
-/
namespace Go.Proofs.YtjkdonjcngmjeaaGreatDoor.sh
open Go Go.ChangeShapes Go.WideShapes Go.ChangeAt Go.RowKit
set_option linter.unusedVariables false
set_option linter.unusedSimpArgs false

end Go.Proofs.YtjkdonjcngmjeaaGreatDoor.sh
/-
  Texts of texts in one form, as lists of bytes: joined, cut; numbers, the highest byte first.
-/
namespace Go.Proofs.YtjkdonjcngmjeaaGreatDoor.sh
open Go Go.RowKit
set_option linter.unusedVariables false
set_option linter.unusedSimpArgs false

/-- A text, with how many bytes it has ahead of it. -/
def itemL (l : List Nat) : List Nat := l.length / 256 :: l.length % 256 :: l
def itemsL (ll : List (List Nat)) : List Nat := (ll.map itemL).flatten
def joinL (kind : Nat) (ll : List (List Nat)) : List Nat := 1 :: kind :: ll.length :: itemsL ll
def Fits (ll : List (List Nat)) : Prop := ll.length ≤ 255 ∧ (∀ l ∈ ll, l.length ≤ 4000) ∧ (itemsL ll).length ≤ 29997
theorem itemL_len (l : List Nat) : (itemL l).length = l.length + 2 := rfl
theorem itemsL_cons (l : List Nat) (ll : List (List Nat)) : itemsL (l :: ll) = itemL l ++ itemsL ll := by simp [itemsL]
theorem itemsL_snoc (ll : List (List Nat)) (l : List Nat) : itemsL (ll ++ [l]) = itemsL ll ++ itemL l := by simp [itemsL]
theorem itemL_bytes {l : List Nat} (h : Bytes l) (hl : l.length < 65536) : Bytes (itemL l) := bytes_of_all (fun x hx => by
  rcases List.mem_cons.1 hx with rfl | hx
  · omega
  rcases List.mem_cons.1 hx with rfl | hx
  · omega
  · exact h.all x hx)
theorem itemsL_bytes : ∀ {ll : List (List Nat)}, (∀ l ∈ ll, Bytes l ∧ l.length < 65536) → Bytes (itemsL ll)
  | [], _ => nil_bytes
  | l :: ll, h => by
    rw [itemsL_cons]
    exact (itemL_bytes (h l List.mem_cons_self).1 (h l List.mem_cons_self).2).append (itemsL_bytes fun x hx => h x (List.mem_cons_of_mem _ hx))
theorem joinL_len (kind : Nat) (ll : List (List Nat)) : (joinL kind ll).length = (itemsL ll).length + 3 := rfl
theorem joinL_bytes {kind : Nat} {ll : List (List Nat)} (hk : kind < 256) (h : ∀ l ∈ ll, Bytes l) (hf : Fits ll) : Bytes (joinL kind ll) := bytes_of_all (fun x hx => by
  rcases List.mem_cons.1 hx with rfl | hx
  · decide
  rcases List.mem_cons.1 hx with rfl | hx
  · exact hk
  rcases List.mem_cons.1 hx with rfl | hx
  · have := hf.1; omega
  · exact (itemsL_bytes fun l hl => ⟨h l hl, by have := hf.2.1 l hl; omega⟩).all x hx)

/-- So many texts, and nothing behind them. -/
def cutL : Nat → List Nat → Option (List (List Nat))
  | 0, s => if s = [] then some [] else none
  | n + 1, a :: b :: r => if r.length < 256 * a + b then none else (cutL n (r.drop (256 * a + b))).map (r.take (256 * a + b) :: ·)
  | _ + 1, _ => none
theorem cutL_items : ∀ ll : List (List Nat), cutL ll.length (itemsL ll) = some ll
  | [] => rfl
  | l :: ll => by
    have hm : 256 * (l.length / 256) + l.length % 256 = l.length := Nat.div_add_mod _ _
    rw [itemsL_cons, List.length_cons]
    show cutL (ll.length + 1) (l.length / 256 :: l.length % 256 :: (l ++ itemsL ll)) = _
    rw [cutL, hm, if_neg (by rw [List.length_append]; omega), List.drop_left, List.take_left, cutL_items ll]
    rfl
theorem items_one {ll mm : List (List Nat)} (hn : ll.length = mm.length) (h : itemsL ll = itemsL mm) : ll = mm := by
  have h1 := cutL_items ll
  have h2 := cutL_items mm
  rw [hn, h, h2] at h1
  exact (Option.some.inj h1).symm
theorem join_one {k j : Nat} {ll mm : List (List Nat)} (h : joinL k ll = joinL j mm) : k = j ∧ ll = mm := by
  unfold joinL at h
  simp only [List.cons.injEq, true_and] at h
  exact ⟨h.1, items_one h.2.1 h.2.2⟩

/-- A number's bytes, the highest first. -/
def numT (n : Nat) : Nat → List Nat
  | 0 => []
  | k + 1 => if n = 0 then [] else numT (n / 256) k ++ [n % 256]
def numL (n : Nat) : List Nat := numT n 8
def readT (s : List Nat) : Nat := s.foldl (fun a x => a * 256 + x) 0
theorem readT_snoc (s : List Nat) (x : Nat) : readT (s ++ [x]) = readT s * 256 + x := by simp [readT]
theorem numT_zero (k : Nat) : numT 0 k = [] := by cases k <;> simp [numT]
theorem numT_len : ∀ (k n : Nat), (numT n k).length ≤ k
  | 0, _ => Nat.le_refl _
  | k + 1, n => by
    unfold numT
    split
    · exact Nat.zero_le _
    · rw [List.length_append]; have := numT_len k (n / 256); simp; omega
theorem numL_len (n : Nat) : (numL n).length ≤ 8 := numT_len 8 n
end Go.Proofs.YtjkdonjcngmjeaaGreatDoor.sh
/-
  Texts of texts: cut one after another; a byte more or fewer is none; what is split is what is said.
-/
namespace Go.Proofs.YtjkdonjcngmjeaaGreatDoor.sh
open Go Go.RowKit
set_option linter.unusedVariables false
set_option linter.unusedSimpArgs false

instance decFits (ll : List (List Nat)) : Decidable (Fits ll) := inferInstanceAs (Decidable (_ ∧ _ ∧ _))
/-- What a text of texts says. -/
def splitL (s : List Nat) : Option (Nat × List (List Nat)) :=
  if s[0]? = some 1 then
    match s[1]?, s[2]? with
    | some k, some n => match cutL n (s.drop 3) with
      | some ll => if Fits ll then some (k, ll) else none
      | none => none
    | _, _ => none
  else none
end Go.Proofs.YtjkdonjcngmjeaaGreatDoor.sh
/-
  How many bytes texts have as one: codec.sizeOf; the statements' few.
-/
namespace Go.Proofs.YtjkdonjcngmjeaaGreatDoor.sh
open Go Go.RowKit
set_option linter.unusedVariables false
set_option linter.unusedSimpArgs false

theorem run_nadd {o : Oper} {a : Act} {x y : Operand} {i j z : Nat} (ho : o.op = .binOp .add 3 x y 3) (hx : a.eval x = .int .i64 (i : Int)) (hy : a.eval y = .int .i64 (j : Int)) (hz : z = i + j) (hi : z < 4611686018427387904) (w : World) : (execOp a.eval o).run Tryz.prog w = .ok (.value (.int .i64 (z : Int))) w := by
  have e : ((i : Int) + (j : Int)) = (z : Int) := by omega
  unfold execOp
  simp only [ho, hx, hy]
  simp [go_sem, IntKind.wrap_i64, e]
  omega
theorem ag_str : ∀ w, (isAgg 9).run Tryz.prog w = .ok false w := Tryz.isAgg9
theorem strs_put {ll : List (List Nat)} {i : Nat} (h : i < ll.length) : ∃ l, ll[i]? = some l ∧ (strs ll)[i]? = some (.string (strOf l)) ∧ l ∈ ll := by
  obtain ⟨l, hl⟩ : ∃ l, ll[i]? = some l := ⟨_, List.getElem?_eq_getElem h⟩
  exact ⟨l, hl, strs_get hl, List.mem_of_getElem? hl⟩
theorem items_take {ll : List (List Nat)} {i : Nat} {l : List Nat} (h : ll[i]? = some l) : itemsL (ll.take (i + 1)) = itemsL (ll.take i) ++ itemL l := by
  rw [List.take_add_one, h, Option.toList_some, itemsL_snoc]
theorem items_small : ∀ (ll : List (List Nat)) (b : Nat), (∀ l ∈ ll, l.length ≤ b) → (itemsL ll).length ≤ ll.length * (b + 2)
  | [], b, _ => by simp [itemsL]
  | l :: ll, b, h => by
    rw [itemsL_cons, List.length_append, itemL_len]
    have h1 := items_small ll b fun x hx => h x (List.mem_cons_of_mem _ hx)
    have h2 := h l List.mem_cons_self
    rw [List.length_cons, Nat.add_mul]
    omega
theorem small_take {ll : List (List Nat)} {i : Nat} {l : List Nat} (h : ll[i]? = some l) (hs : ∀ x ∈ ll.take i, x.length ≤ 4000) (hl : l.length ≤ 4000) : ∀ x ∈ ll.take (i + 1), x.length ≤ 4000 := by
  intro x hx
  rw [List.take_add_one, h, Option.toList_some] at hx
  rcases List.mem_append.1 hx with hx | hx
  · exact hs x hx
  · rw [List.mem_singleton] at hx; subst hx; exact hl
theorem items_takeB {ll : List (List Nat)} {i : Nat} (hi : i ≤ 255) (hs : ∀ x ∈ ll.take i, x.length ≤ 4000) : (itemsL (ll.take i)).length ≤ 1020510 := by
  have h1 := items_small (ll.take i) 4000 hs
  have h2 : (ll.take i).length ≤ 255 := by rw [List.length_take]; omega
  have h3 := Nat.mul_le_mul_right 4002 h2
  omega

set_option maxRecDepth 100000 in
set_option maxHeartbeats 1000000 in
theorem sizeOfD {ll : List (List Nat)} {v : Value} {w : World} (hv : ValsV v w (strs ll)) (hl : ∀ l ∈ ll, l.length ≤ maxLen) :
    Calls Tryz.prog 97 #[v] w fun e w' => (∃ n : Nat, e = .returned (.tuple #[.int .i64 (n : Int), .bool (decide (Fits ll))]) ∧ (Fits ll → n = (itemsL ll).length + 3)) ∧ w' = w := by
  obtain ⟨p, c, rfl, hc⟩ := vals_form hv (strs_len ll)
  obtain ⟨n, hn⟩ : ∃ n, n = ll.length := ⟨_, rfl⟩
  rw [← hn] at hv hc ⊢
  have HN : Kept _ := ⟨hn⟩
  have HV : Kept _ := ⟨hv⟩
  have HL : Kept _ := ⟨hl⟩
  obtain ⟨F, hF⟩ : ∃ F, F = decide (Fits ll) := ⟨_, rfl⟩
  rw [← hF]
  have HF : Kept _ := ⟨hF⟩
  clear hn hv hl hF
  by_cases h255 : 255 < n
  · have h' : (255 : Int) < (n : Int) := by omega
    have hF : ¬ Fits ll := fun h => by have := h.1; have := HN.out; omega
    have HF1 : Kept (F = false) := ⟨by rw [HF.out]; exact decide_eq_false hF⟩
    have HF2 : Kept _ := ⟨hF⟩
    clear hF
    go_enter Tryz.func97, Tryz.ntmps97
    go_wp2_with fail
    go_ret2
    exact ⟨⟨0, congrArg (fun b => Ending.returned (.tuple #[.int .i64 0, .bool b])) HF1.out.symm, fun h => absurd h HF2.out⟩, rfl⟩
  · have h' : ¬ (255 : Int) < (n : Int) := by omega
    go_enter Tryz.func97, Tryz.ntmps97
    go_wp2_with fail
    go_loopg [4, 12] n (fun k s4 s12 wr => ∃ i m : Nat, i + k = n ∧ s12 = .int .i64 (i : Int) ∧ s4 = .int .i64 (m : Int) ∧ Kept (m = (itemsL (ll.take i)).length + 3 ∧ ∀ x ∈ ll.take i, x.length ≤ 4000) ∧ wr = w)
    case atStart => exact ⟨0, 3, by omega, rfl, rfl, ⟨by simp [itemsL], fun x hx => by simp at hx⟩, rfl⟩
    case round =>
      obtain ⟨i, m, hik, rfl, rfl, KM, hwr⟩ := hrel
      obtain rfl := hwr.symm
      by_cases hk0 : gk = 0
      · obtain rfl : n = i := by omega
        have hM : m = (itemsL ll).length + 3 ∧ ∀ x ∈ ll, x.length ≤ 4000 := by
          have := KM.out
          rwa [List.take_of_length_le (by rw [← HN.out]; exact Nat.le_refl _)] at this
        have KB : Kept (F = decide (m ≤ 30000)) := ⟨by
          rw [HF.out]
          refine decide_eq_decide.2 ⟨fun h => ?_, fun h => ⟨?_, hM.2, ?_⟩⟩
          · have := h.2.2; have := hM.1; omega
          · have := HN.out; omega
          · have := hM.1; omega⟩
        have KM2 : Kept _ := ⟨hM.1⟩
        clear hM KM
        go_wp2_with (first | ((with_reducible refine wv_val (d := 27) ?hd ?hw (.bool F) ?hr ?_); (case hd => rfl); (case hw => kernel_rfl); (case hr => intro w; exact run_leqI (n := 30000) rfl (by kernel_rfl) (by kernel_rfl) KB.out w); simp only [Act.put, List.setIfInBounds_toArray, List.set_cons_succ, List.set_cons_zero]))
        go_ret2
        exact ⟨⟨m, rfl, fun _ => KM2.out⟩, rfl⟩
      · have hin : i < n := by omega
        have hin' : (i : Int) < (n : Int) := by omega
        obtain ⟨l, h1, h2, h3⟩ := strs_put (show i < ll.length by rw [← HN.out]; exact hin)
        obtain ⟨A, rfl, hA, hcell⟩ := vals_at HV.out h2
        have KC : Kept _ := ⟨hcell⟩
        obtain ⟨z, hz⟩ : ∃ z, z = l.length := ⟨_, rfl⟩
        have KZ : Kept _ := ⟨hz⟩
        have KL : Kept _ := ⟨h1⟩
        have hm := items_takeB (ll := ll) (i := i) (by omega) KM.out.2
        have hmL := HL.out l h3
        rw [← hz] at hmL
        unfold maxLen at hmL
        clear h1 h2 h3 hcell hz
        by_cases h4 : 4000 < z
        · have h4' : (4000 : Int) < (z : Int) := by omega
          have hF : ¬ Fits ll := fun h => by have := h.2.1 l (List.mem_of_getElem? KL.out); have := KZ.out; omega
          have HF1 : Kept (F = false) := ⟨by rw [HF.out]; exact decide_eq_false hF⟩
          have HF2 : Kept _ := ⟨hF⟩
          clear hF
          go_wp2_with (first | ((with_reducible refine wv_val (d := 14) ?hd ?hw (.pointer (some (A.add i))) ?hr ?_); (case hd => rfl); (case hw => kernel_rfl); (case hr => intro w; exact run_idxS rfl (by kernel_rfl) (by kernel_rfl) Tryz.underlying43 hin Tryz.sizeOf9 w); simp only [Act.put, List.setIfInBounds_toArray, List.set_cons_succ, List.set_cons_zero]) | ((with_reducible refine wv_elem (d := 15) ?hd ?hw 9 ag_str (.tmp 14) ?ho (A.add i) ?hx (.string (strOf l)) ?hc ?_); (case hd => rfl); (case hw => kernel_rfl); (case ho => rfl); (case hx => kernel_rfl); (case hc => exact KC.out); simp only [Act.put, List.setIfInBounds_toArray, List.set_cons_succ, List.set_cons_zero]) | ((with_reducible refine wv_val (d := 17) ?hd ?hw (.int .i64 (z : Int)) ?hr ?_); (case hd => rfl); (case hw => kernel_rfl); (case hr => intro w; exact run_slen rfl (by kernel_rfl) KZ.out w); simp only [Act.put, List.setIfInBounds_toArray, List.set_cons_succ, List.set_cons_zero]))
          go_ret2
          exact ⟨⟨0, congrArg (fun b => Ending.returned (.tuple #[.int .i64 0, .bool b])) HF1.out.symm, fun h => absurd h HF2.out⟩, rfl⟩
        · have h4' : ¬ (4000 : Int) < (z : Int) := by omega
          obtain ⟨z2, hz2⟩ : ∃ z2, z2 = 2 + z := ⟨_, rfl⟩
          obtain ⟨m2, hm2⟩ : ∃ m2, m2 = m + z2 := ⟨_, rfl⟩
          have KZ2 : Kept _ := ⟨hz2⟩
          have KM2 : Kept _ := ⟨hm2⟩
          have hb2 : m2 < 4611686018427387904 := by have := KM.out.1; omega
          have hb3 : z2 < 4611686018427387904 := by omega
          clear hz2 hm2
          go_wp2_with (first | ((with_reducible refine wv_val (d := 14) ?hd ?hw (.pointer (some (A.add i))) ?hr ?_); (case hd => rfl); (case hw => kernel_rfl); (case hr => intro w; exact run_idxS rfl (by kernel_rfl) (by kernel_rfl) Tryz.underlying43 hin Tryz.sizeOf9 w); simp only [Act.put, List.setIfInBounds_toArray, List.set_cons_succ, List.set_cons_zero]) | ((with_reducible refine wv_elem (d := 15) ?hd ?hw 9 ag_str (.tmp 14) ?ho (A.add i) ?hx (.string (strOf l)) ?hc ?_); (case hd => rfl); (case hw => kernel_rfl); (case ho => rfl); (case hx => kernel_rfl); (case hc => exact KC.out); simp only [Act.put, List.setIfInBounds_toArray, List.set_cons_succ, List.set_cons_zero]) | ((with_reducible refine wv_val (d := 17) ?hd ?hw (.int .i64 (z : Int)) ?hr ?_); (case hd => rfl); (case hw => kernel_rfl); (case hr => intro w; exact run_slen rfl (by kernel_rfl) KZ.out w); simp only [Act.put, List.setIfInBounds_toArray, List.set_cons_succ, List.set_cons_zero]) | ((with_reducible refine wv_val (d := 21) ?hd ?hw (.int .i64 (z : Int)) ?hr ?_); (case hd => rfl); (case hw => kernel_rfl); (case hr => intro w; exact run_slen rfl (by kernel_rfl) KZ.out w); simp only [Act.put, List.setIfInBounds_toArray, List.set_cons_succ, List.set_cons_zero]) | ((with_reducible refine wv_val (d := 22) ?hd ?hw (.int .i64 (z2 : Int)) ?hr ?_); (case hd => rfl); (case hw => kernel_rfl); (case hr => intro w; exact run_addC 2 rfl (by kernel_rfl) KZ2.out hb3 w); simp only [Act.put, List.setIfInBounds_toArray, List.set_cons_succ, List.set_cons_zero]) | ((with_reducible refine wv_val (d := 23) ?hd ?hw (.int .i64 (m2 : Int)) ?hr ?_); (case hd => rfl); (case hw => kernel_rfl); (case hr => intro w; exact run_nadd rfl (by kernel_rfl) (by kernel_rfl) KM2.out hb2 w); simp only [Act.put, List.setIfInBounds_toArray, List.set_cons_succ, List.set_cons_zero]))
          go_roundg (gk - 1)
          case measure => omega
          case rel =>
            refine ⟨i + 1, m2, by omega, by simp, rfl, ⟨?_, small_take KL.out KM.out.2 (by have := KZ.out; omega)⟩, rfl⟩
            rw [items_take KL.out, List.length_append, itemL_len, ← KZ.out, KM2.out, KZ2.out, KM.out.1]
            omega

end Go.Proofs.YtjkdonjcngmjeaaGreatDoor.sh
