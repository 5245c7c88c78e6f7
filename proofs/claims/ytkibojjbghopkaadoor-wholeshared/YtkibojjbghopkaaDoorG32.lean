/-
  General pieces, joined: XA XB.
-/
import Derived.Test.YtkibojjbghopkaaDoorG31
import Derived.Test.YtkibojjbghopkaaDoorG30
import Derived.Test.YtkibojjbghopkaaDoorG27
import Derived.Test.YtkibojjbghopkaaDoorG28
/-
  ChaCha20 as lists of numbers: quarters, rounds, blocks, and bytes that are turned by blocks.
-/
namespace Go.Proofs.YtkibojjbghopkaaDoor.sh
open Go Go.RowKit
set_option linter.unusedVariables false
set_option linter.unusedSimpArgs false

/-- A word turned to the left. -/
def rotl (x n : Nat) : Nat := x * 2 ^ n % 4294967296 ||| x / 2 ^ (32 - n)
theorem rotl_lt (x n : Nat) (h : x < 4294967296) : rotl x n < 4294967296 := by
  unfold rotl
  exact Nat.or_lt_two_pow (n := 32) (Nat.mod_lt _ (by decide)) (Nat.lt_of_le_of_lt (Nat.div_le_self _ _) h)
/-- The four words of a quarter. -/
def qa (a b c d : Nat) : Nat := (a + b) % 4294967296
def qd (a b c d : Nat) : Nat := rotl (d ^^^ qa a b c d) 16
def qc (a b c d : Nat) : Nat := (c + qd a b c d) % 4294967296
def qb (a b c d : Nat) : Nat := rotl (b ^^^ qc a b c d) 12
def qa2 (a b c d : Nat) : Nat := (qa a b c d + qb a b c d) % 4294967296
def qd2 (a b c d : Nat) : Nat := rotl (qd a b c d ^^^ qa2 a b c d) 8
def qc2 (a b c d : Nat) : Nat := (qc a b c d + qd2 a b c d) % 4294967296
def qb2 (a b c d : Nat) : Nat := rotl (qb a b c d ^^^ qc2 a b c d) 7
theorem xor_lt32 {m n : Nat} (h : m < 4294967296) (h' : n < 4294967296) : m ^^^ n < 4294967296 := Nat.xor_lt_two_pow (n := 32) h h'
structure Four (a b c d : Nat) : Prop where
  a : a < 4294967296
  b : b < 4294967296
  c : c < 4294967296
  d : d < 4294967296
theorem four_q {a b c d : Nat} (h : Four a b c d) : Four (qa a b c d) (qb a b c d) (qc a b c d) (qd a b c d) := by
  have ha : qa a b c d < 4294967296 := Nat.mod_lt _ (by decide)
  have hd : qd a b c d < 4294967296 := rotl_lt _ _ (xor_lt32 h.d ha)
  have hc : qc a b c d < 4294967296 := Nat.mod_lt _ (by decide)
  exact ⟨ha, rotl_lt _ _ (xor_lt32 h.b hc), hc, hd⟩
theorem four_q2 {a b c d : Nat} (h : Four a b c d) : Four (qa2 a b c d) (qb2 a b c d) (qc2 a b c d) (qd2 a b c d) := by
  have h1 := four_q h
  have ha : qa2 a b c d < 4294967296 := Nat.mod_lt _ (by decide)
  have hd : qd2 a b c d < 4294967296 := rotl_lt _ _ (xor_lt32 h1.d ha)
  have hc : qc2 a b c d < 4294967296 := Nat.mod_lt _ (by decide)
  exact ⟨ha, rotl_lt _ _ (xor_lt32 h1.b hc), hc, hd⟩
/-- Sixteen words. -/
structure Ws (w : List Nat) : Prop where
  len : w.length = 16
  lt : ∀ (i x : Nat), w[i]? = some x → x < 4294967296
theorem Ws.get {w : List Nat} (h : Ws w) (i : Nat) (hi : i < 16) : w[i]? = some (w.getD i 0) := by
  rw [List.getD_eq_getElem?_getD, List.getElem?_eq_getElem (by have := h.len; omega)]
  rfl
theorem Ws.small {w : List Nat} (h : Ws w) (i : Nat) : w.getD i 0 < 4294967296 := by
  rw [List.getD_eq_getElem?_getD]
  cases e : w[i]? with
  | none => decide
  | some x => exact h.lt i x e
theorem Ws.set {w : List Nat} (h : Ws w) (i x : Nat) (hx : x < 4294967296) : Ws (w.set i x) := by
  refine ⟨by rw [List.length_set]; exact h.len, fun j y hy => ?_⟩
  rw [List.getElem?_set] at hy
  split at hy
  · split at hy
    · cases hy; exact hx
    · cases hy
  · exact h.lt j y hy
/-- A quarter of four words of some. -/
def qL (w : List Nat) (i j k l : Nat) : List Nat :=
  (((w.set i (qa2 (w.getD i 0) (w.getD j 0) (w.getD k 0) (w.getD l 0))).set j (qb2 (w.getD i 0) (w.getD j 0) (w.getD k 0) (w.getD l 0))).set k (qc2 (w.getD i 0) (w.getD j 0) (w.getD k 0) (w.getD l 0))).set l (qd2 (w.getD i 0) (w.getD j 0) (w.getD k 0) (w.getD l 0))
theorem Ws.four {w : List Nat} (h : Ws w) (i j k l : Nat) : Four (w.getD i 0) (w.getD j 0) (w.getD k 0) (w.getD l 0) := ⟨h.small i, h.small j, h.small k, h.small l⟩
theorem Ws.q {w : List Nat} (h : Ws w) (i j k l : Nat) : Ws (qL w i j k l) := by
  have f := four_q2 (h.four i j k l)
  unfold qL
  exact (((h.set i _ f.a).set j _ f.b).set k _ f.c).set l _ f.d
/-- The first four quarters, one by one, and the other ones. -/
def colL (w : List Nat) : Nat → List Nat
  | 0 => w
  | i + 1 => qL (colL w i) i (i + 4) (i + 8) (i + 12)
def diaL (w : List Nat) : Nat → List Nat
  | 0 => w
  | i + 1 => qL (diaL w i) i ((i + 1) % 4 + 4) ((i + 2) % 4 + 8) ((i + 3) % 4 + 12)
def dblL (w : List Nat) : List Nat := diaL (colL w 4) 4
def mixT (w : List Nat) : Nat → List Nat
  | 0 => w
  | n + 1 => dblL (mixT w n)
theorem Ws.col {w : List Nat} (h : Ws w) : ∀ i, Ws (colL w i)
  | 0 => h
  | i + 1 => (h.col i).q _ _ _ _
theorem Ws.dia {w : List Nat} (h : Ws w) : ∀ i, Ws (diaL w i)
  | 0 => h
  | i + 1 => (h.dia i).q _ _ _ _
theorem Ws.dbl {w : List Nat} (h : Ws w) : Ws (dblL w) := (h.col 4).dia 4
theorem Ws.mix {w : List Nat} (h : Ws w) : ∀ n, Ws (mixT w n)
  | 0 => h
  | n + 1 => (h.mix n).dbl
/-- A word of four bytes, the lowest first: of the first m of them. -/
def part (b : List Nat) (j : Nat) : Nat → Nat
  | 0 => 0
  | m + 1 => part b j m + b.getD (4 * j + m) 0 * 256 ^ m
theorem byte_getD {b : List Nat} (h : Bytes b) (i : Nat) : b.getD i 0 < 256 := by
  rw [List.getD_eq_getElem?_getD]
  cases e : b[i]? with
  | none => decide
  | some x => exact h i x e
theorem part_lt (b : List Nat) (h : Bytes b) (j : Nat) : ∀ m, part b j m < 256 ^ m
  | 0 => by show 0 < 1; decide
  | m + 1 => by
    have h1 := part_lt b h j m
    have h2 : b.getD (4 * j + m) 0 * 256 ^ m ≤ 255 * 256 ^ m := Nat.mul_le_mul_right _ (by have := byte_getD h (4 * j + m); omega)
    show part b j m + b.getD (4 * j + m) 0 * 256 ^ m < _
    rw [Nat.pow_succ]
    omega
def wsL (b : List Nat) (n : Nat) : List Nat := (List.range n).map fun j => part b j 4
theorem wsL_len (b : List Nat) (n : Nat) : (wsL b n).length = n := by simp [wsL]
theorem wsL_lt (b : List Nat) (h : Bytes b) (n : Nat) : ∀ (i x : Nat), (wsL b n)[i]? = some x → x < 4294967296 := fun i x hx => by
  unfold wsL at hx
  rw [List.getElem?_map] at hx
  obtain ⟨y, _, rfl⟩ := Option.map_eq_some_iff.1 hx
  exact part_lt b h y 4
def nameL : List Nat := [101, 120, 112, 97, 110, 100, 32, 51, 50, 45, 98, 121, 116, 101, 32, 107]
theorem nameL_bytes : Bytes nameL := fun i x hx => by
  have h : ∀ y ∈ nameL, y < 256 := by decide
  exact h x (List.mem_of_getElem? hx)
/-- The words of a block at first. -/
def frstL (key nonce : List Nat) (count : Nat) : List Nat := wsL (nameL ++ key) 12 ++ [count] ++ wsL nonce 3
theorem Ws.frst {key nonce : List Nat} {count : Nat} (hk : Bytes key) (hn : Bytes nonce) (hc : count < 4294967296) : Ws (frstL key nonce count) := by
  refine ⟨by simp [frstL, wsL_len], fun i x hx => ?_⟩
  unfold frstL at hx
  rw [List.getElem?_append] at hx
  split at hx
  · rw [List.getElem?_append] at hx
    split at hx
    · exact wsL_lt _ (nameL_bytes.append hk) 12 i x hx
    · have : x ∈ [count] := List.mem_of_getElem? hx
      simp at this
      omega
  · exact wsL_lt _ hn 3 _ x hx
theorem Ws.plus {a b : List Nat} (ha : Ws a) (hb : Ws b) : Ws (plusL a b) := by
  refine ⟨by rw [plusL_len a b (by rw [ha.len, hb.len]), ha.len], fun i x hx => ?_⟩
  unfold plusL at hx
  rw [List.getElem?_zipWith] at hx
  split at hx
  · cases hx
    exact Nat.mod_lt _ (by decide)
  · cases hx
/-- The words one behind the other, the lowest byte of each first. -/
def leL (s : List Nat) : List Nat := (List.range 64).map fun i => s.getD (i / 4) 0 / 2 ^ (i % 4 * 8) % 256
theorem leL_len (s : List Nat) : (leL s).length = 64 := by simp [leL]
theorem leL_bytes (s : List Nat) : Bytes (leL s) := fun i x hx => by
  unfold leL at hx
  rw [List.getElem?_map] at hx
  obtain ⟨y, _, rfl⟩ := Option.map_eq_some_iff.1 hx
  exact Nat.mod_lt _ (by decide)
theorem leL_get (s : List Nat) (i x : Nat) (hi : i < 64) (hx : s[i / 4]? = some x) : (leL s)[i]? = some (x / 2 ^ (i % 4 * 8) % 256) := by
  simp [leL, hi, hx]
/-- The block of a key, a nonce and a count. -/
def blockL (key nonce : List Nat) (count : Nat) : List Nat := leL (plusL (frstL key nonce count) (mixT (frstL key nonce count) 10))
theorem blockL_len (key nonce : List Nat) (count : Nat) : (blockL key nonce count).length = 64 := leL_len _
theorem blockL_bytes (key nonce : List Nat) (count : Nat) : Bytes (blockL key nonce count) := leL_bytes _
/-- The byte of the blocks at a place. -/
def padB (key nonce : List Nat) (count i : Nat) : Nat := (blockL key nonce (count + i / 64)).getD (i % 64) 0
theorem padB_lt (key nonce : List Nat) (count i : Nat) : padB key nonce count i < 256 := byte_getD (blockL_bytes _ _ _) _
/-- Bytes turned by blocks. -/
def encL (key nonce : List Nat) (count : Nat) (b : List Nat) : List Nat := (List.range b.length).map fun i => b.getD i 0 ^^^ padB key nonce count i
theorem encL_len (key nonce : List Nat) (count : Nat) (b : List Nat) : (encL key nonce count b).length = b.length := by simp [encL]
theorem encL_get (key nonce : List Nat) (count : Nat) (b : List Nat) (i x : Nat) (h : b[i]? = some x) : (encL key nonce count b)[i]? = some (x ^^^ padB key nonce count i) := by
  have hi : i < b.length := (List.getElem?_eq_some_iff.1 h).1
  simp [encL, hi]
  have := (List.getElem?_eq_some_iff.1 h).2
  rw [this]
theorem encL_bytes (key nonce : List Nat) (count : Nat) {b : List Nat} (h : Bytes b) : Bytes (encL key nonce count b) := fun i x hx => by
  unfold encL at hx
  rw [List.getElem?_map] at hx
  obtain ⟨y, _, rfl⟩ := Option.map_eq_some_iff.1 hx
  exact xor_lt8 (byte_getD h _) (padB_lt _ _ _ _)
/-- Turned twice bytes are as they were. -/
theorem encL_back (key nonce : List Nat) (count : Nat) (b : List Nat) : encL key nonce count (encL key nonce count b) = b := by
  apply List.ext_getElem?
  intro i
  by_cases hi : i < b.length
  · have e : b[i]? = some b[i] := List.getElem?_eq_getElem hi
    rw [encL_get _ _ _ _ i _ (encL_get _ _ _ b i _ e), e, Nat.xor_assoc, Nat.xor_self, Nat.xor_zero]
  · rw [List.getElem?_eq_none (by rw [encL_len, encL_len]; omega), List.getElem?_eq_none (by omega)]
end Go.Proofs.YtkibojjbghopkaaDoor.sh
/-
  A word turned, and a quarter, by the program.
-/
namespace Go.Proofs.YtkibojjbghopkaaDoor.sh
open Go Go.RowKit
set_option linter.unusedVariables false
set_option linter.unusedSimpArgs false

theorem run_conv3u {o : Oper} {a : Act} {x : Operand} {m : Nat} (ho : o.op = .convert 3 107 x) (hx : a.eval x = .int .i64 (m : Int)) (hm : m < 4611686018427387904) (w : World) : (execOp a.eval o).run Tryd.prog w = .ok (.value (.int .u64 (m : Int))) w := by
  unfold execOp
  simp only [ho, hx]
  simp [go_sem, IntKind.wrap_u64]
  omega
theorem run_and31 {o : Oper} {a : Act} {x : Operand} {m : Nat} (ho : o.op = .binOp .and 107 x (.const (.int .u64 31)) 107) (hx : a.eval x = .int .u64 (m : Int)) (hm : m < 32) (w : World) : (execOp a.eval o).run Tryd.prog w = .ok (.value (.int .u64 (m : Int))) w := by
  have e3 : a.eval (.const (.int .u64 31)) = .int .u64 31 := rfl
  have h := u64_and_nat m 31 (by omega) (by decide)
  rw [nat_mask5, Nat.mod_eq_of_lt hm] at h
  unfold execOp
  simp only [ho, hx, e3]
  simp [go_sem]
  exact h
theorem results_tmp4 {fn : Func} {t u v x : Tmp} (h : fn.results = #[.tmp t, .tmp u, .tmp v, .tmp x]) (tmps : Array Value) (P : Program) (w : World) :
    (results fn tmps).run P w = .ok (.tuple #[tmps.getD t undef, tmps.getD u undef, tmps.getD v undef, tmps.getD x undef]) w := by
  simp [results, h]

set_option maxHeartbeats 400000 in
theorem rotl_any (n m : Nat) (w : World) (hn : n < 4294967296) (h0 : 0 < m) (h1 : m < 32) :
    Calls Tryd.prog 86 #[.int .u32 (n : Int), .int .i64 (m : Int)] w fun e w' => e = .returned (.int .u32 (rotl n m : Nat)) ∧ w' = w := by
  go_enter Tryd.func86, Tryd.ntmps86
  go_wp2_with (first | ((with_reducible refine wv_val (d := 7) ?hd ?hw (.int .u64 (m : Int)) ?hr ?_); (case hd => rfl); (case hw => kernel_rfl); (case hr => intro w; exact run_conv3u rfl (by kernel_rfl) (by omega) w); simp only [Act.put, List.setIfInBounds_toArray, List.set_cons_succ, List.set_cons_zero]) | ((with_reducible refine wv_val (d := 8) ?hd ?hw (.int .u64 (m : Int)) ?hr ?_); (case hd => rfl); (case hw => kernel_rfl); (case hr => intro w; exact run_and31 rfl (by kernel_rfl) h1 w); simp only [Act.put, List.setIfInBounds_toArray, List.set_cons_succ, List.set_cons_zero]))
  go_ret
  refine ⟨ret_int ?_, rfl⟩
  have e1 : ((n : Int) * 2 ^ m % 4294967296) = ((n * 2 ^ m % 4294967296 : Nat) : Int) := by rw [Int.natCast_emod, Int.natCast_mul, Int.natCast_pow]; rfl
  have e2 : ((n : Int) / 2 ^ (32 - m)) = ((n / 2 ^ (32 - m) : Nat) : Int) := by rw [Int.natCast_ediv, Int.natCast_pow]; rfl
  rw [e1, e2, u32_or_nat _ _ (Nat.mod_lt _ (by decide)) (Nat.lt_of_le_of_lt (Nat.div_le_self _ _) hn)]
  rfl
theorem rotl_at (n m z : Nat) (w : World) (hn : n < 4294967296) (h0 : 0 < m) (h1 : m < 32) (hz : z = rotl n m) :
    Calls Tryd.prog 86 #[.int .u32 (n : Int), .int .i64 (m : Int)] w fun e w' => e = .returned (.int .u32 (z : Int)) ∧ w' = w := by rw [hz]; exact rotl_any n m w hn h0 h1

set_option maxRecDepth 100000 in
set_option maxHeartbeats 1000000 in
theorem quarter_any (a b c d : Nat) (w : World) (h : Four a b c d) :
    Calls Tryd.prog 77 #[.int .u32 (a : Int), .int .u32 (b : Int), .int .u32 (c : Int), .int .u32 (d : Int)] w fun e w' => e = .returned (.tuple #[.int .u32 (qa2 a b c d : Nat), .int .u32 (qb2 a b c d : Nat), .int .u32 (qc2 a b c d : Nat), .int .u32 (qd2 a b c d : Nat)]) ∧ w' = w := by
  have F0 : Kept _ := ⟨h⟩
  have F1 : Kept _ := ⟨four_q h⟩
  have F2 : Kept _ := ⟨four_q2 h⟩
  obtain ⟨a1, ha1⟩ : ∃ z, z = qa a b c d := ⟨_, rfl⟩
  obtain ⟨b1, hb1⟩ : ∃ z, z = qb a b c d := ⟨_, rfl⟩
  obtain ⟨c1, hc1⟩ : ∃ z, z = qc a b c d := ⟨_, rfl⟩
  obtain ⟨d1, hd1⟩ : ∃ z, z = qd a b c d := ⟨_, rfl⟩
  obtain ⟨a2, ha2⟩ : ∃ z, z = qa2 a b c d := ⟨_, rfl⟩
  obtain ⟨b2, hb2⟩ : ∃ z, z = qb2 a b c d := ⟨_, rfl⟩
  obtain ⟨c2, hc2⟩ : ∃ z, z = qc2 a b c d := ⟨_, rfl⟩
  obtain ⟨d2, hd2⟩ : ∃ z, z = qd2 a b c d := ⟨_, rfl⟩
  have Ea : Kept (a1 = (a + b) % 4294967296) := ⟨ha1⟩
  have Ed : Kept (d1 = rotl (d ^^^ a1) 16) := ⟨by rw [hd1, ha1]; rfl⟩
  have Ec : Kept (c1 = (c + d1) % 4294967296) := ⟨by rw [hc1, hd1]; rfl⟩
  have Eb : Kept (b1 = rotl (b ^^^ c1) 12) := ⟨by rw [hb1, hc1]; rfl⟩
  have Ea2 : Kept (a2 = (a1 + b1) % 4294967296) := ⟨by rw [ha2, ha1, hb1]; rfl⟩
  have Ed2 : Kept (d2 = rotl (d1 ^^^ a2) 8) := ⟨by rw [hd2, hd1, ha2]; rfl⟩
  have Ec2 : Kept (c2 = (c1 + d2) % 4294967296) := ⟨by rw [hc2, hc1, hd2]; rfl⟩
  have Eb2 : Kept (b2 = rotl (b1 ^^^ c2) 7) := ⟨by rw [hb2, hb1, hc2]; rfl⟩
  rw [← ha1, ← hb1, ← hc1, ← hd1] at F1
  rw [← ha2, ← hb2, ← hc2, ← hd2] at F2 ⊢
  obtain ⟨x1, hx1⟩ : ∃ z, z = d ^^^ a1 := ⟨_, rfl⟩
  obtain ⟨x2, hx2⟩ : ∃ z, z = b ^^^ c1 := ⟨_, rfl⟩
  obtain ⟨x3, hx3⟩ : ∃ z, z = d1 ^^^ a2 := ⟨_, rfl⟩
  obtain ⟨x4, hx4⟩ : ∃ z, z = b1 ^^^ c2 := ⟨_, rfl⟩
  have X1 : Kept _ := ⟨hx1⟩
  have X2 : Kept _ := ⟨hx2⟩
  have X3 : Kept _ := ⟨hx3⟩
  have X4 : Kept _ := ⟨hx4⟩
  rw [← hx1] at Ed
  rw [← hx2] at Eb
  rw [← hx3] at Ed2
  rw [← hx4] at Eb2
  have L1 : Kept (x1 < 4294967296) := ⟨by rw [hx1]; exact xor_lt32 F0.out.d F1.out.a⟩
  have L2 : Kept (x2 < 4294967296) := ⟨by rw [hx2]; exact xor_lt32 F0.out.b F1.out.c⟩
  have L3 : Kept (x3 < 4294967296) := ⟨by rw [hx3]; exact xor_lt32 F1.out.d F2.out.a⟩
  have L4 : Kept (x4 < 4294967296) := ⟨by rw [hx4]; exact xor_lt32 F1.out.b F2.out.c⟩
  clear h ha1 hb1 hc1 hd1 ha2 hb2 hc2 hd2 hx1 hx2 hx3 hx4
  go_enter Tryd.func77, Tryd.ntmps77
  go_wp2_with (first | ((with_reducible refine wv_val (d := 14) ?hd ?hw (.int .u32 (a1 : Int)) ?hr ?_); (case hd => rfl); (case hw => kernel_rfl); (case hr => intro w; exact run_add32 rfl (by kernel_rfl) (by kernel_rfl) Ea.out w); simp only [Act.put, List.setIfInBounds_toArray, List.set_cons_succ, List.set_cons_zero]) | ((with_reducible refine wv_val (d := 17) ?hd ?hw (.int .u32 (x1 : Int)) ?hr ?_); (case hd => rfl); (case hw => kernel_rfl); (case hr => intro w; exact run_xor32 rfl (by kernel_rfl) (by kernel_rfl) F0.out.d F1.out.a X1.out w); simp only [Act.put, List.setIfInBounds_toArray, List.set_cons_succ, List.set_cons_zero]))
  refine (rotl_at x1 16 d1 w L1.out (by decide) (by decide) Ed.out).mono ?_
  rintro e w1 ⟨rfl, rfl⟩
  go_wp2_with (first | ((with_reducible refine wv_val (d := 21) ?hd ?hw (.int .u32 (c1 : Int)) ?hr ?_); (case hd => rfl); (case hw => kernel_rfl); (case hr => intro w; exact run_add32 rfl (by kernel_rfl) (by kernel_rfl) Ec.out w); simp only [Act.put, List.setIfInBounds_toArray, List.set_cons_succ, List.set_cons_zero]) | ((with_reducible refine wv_val (d := 24) ?hd ?hw (.int .u32 (x2 : Int)) ?hr ?_); (case hd => rfl); (case hw => kernel_rfl); (case hr => intro w; exact run_xor32 rfl (by kernel_rfl) (by kernel_rfl) F0.out.b F1.out.c X2.out w); simp only [Act.put, List.setIfInBounds_toArray, List.set_cons_succ, List.set_cons_zero]))
  refine (rotl_at x2 12 b1 w1 L2.out (by decide) (by decide) Eb.out).mono ?_
  rintro e w2 ⟨rfl, rfl⟩
  go_wp2_with (first | ((with_reducible refine wv_val (d := 28) ?hd ?hw (.int .u32 (a2 : Int)) ?hr ?_); (case hd => rfl); (case hw => kernel_rfl); (case hr => intro w; exact run_add32 rfl (by kernel_rfl) (by kernel_rfl) Ea2.out w); simp only [Act.put, List.setIfInBounds_toArray, List.set_cons_succ, List.set_cons_zero]) | ((with_reducible refine wv_val (d := 31) ?hd ?hw (.int .u32 (x3 : Int)) ?hr ?_); (case hd => rfl); (case hw => kernel_rfl); (case hr => intro w; exact run_xor32 rfl (by kernel_rfl) (by kernel_rfl) F1.out.d F2.out.a X3.out w); simp only [Act.put, List.setIfInBounds_toArray, List.set_cons_succ, List.set_cons_zero]))
  refine (rotl_at x3 8 d2 w2 L3.out (by decide) (by decide) Ed2.out).mono ?_
  rintro e w3 ⟨rfl, rfl⟩
  go_wp2_with (first | ((with_reducible refine wv_val (d := 35) ?hd ?hw (.int .u32 (c2 : Int)) ?hr ?_); (case hd => rfl); (case hw => kernel_rfl); (case hr => intro w; exact run_add32 rfl (by kernel_rfl) (by kernel_rfl) Ec2.out w); simp only [Act.put, List.setIfInBounds_toArray, List.set_cons_succ, List.set_cons_zero]) | ((with_reducible refine wv_val (d := 38) ?hd ?hw (.int .u32 (x4 : Int)) ?hr ?_); (case hd => rfl); (case hw => kernel_rfl); (case hr => intro w; exact run_xor32 rfl (by kernel_rfl) (by kernel_rfl) F1.out.b F2.out.c X4.out w); simp only [Act.put, List.setIfInBounds_toArray, List.set_cons_succ, List.set_cons_zero]))
  refine (rotl_at x4 7 b2 w3 L4.out (by decide) (by decide) Eb2.out).mono ?_
  rintro e w4 ⟨rfl, rfl⟩
  go_wp2_with fail
  (try simp only [Exit.inBlock, Exit.then])
  exact bodyPost_ret (results_tmp4 Tryd.results77 _ _ _) rfl ⟨rfl, rfl⟩
end Go.Proofs.YtkibojjbghopkaaDoor.sh
