/-
  Joined texts: Mod ModB Rot.
-/
import Derived.Test.YtanfjkmkfcekmaaDoorPrime
import Derived.Test.YtanfjkmkfcekmaaDoorPart
/-
  Sums and products modulo a number.
-/
namespace Go.Proofs.YtanfjkmkfcekmaaDoor
variable (p a b c : Nat)

theorem m_add_assoc : ((a + b) % p + c) % p = (a + (b + c) % p) % p := by
  rw [Nat.mod_add_mod, Nat.add_mod_mod, Nat.add_assoc]
theorem m_mul_assoc : (a * b % p) * c % p = a * (b * c % p) % p := by
  rw [Nat.mod_mul_mod, Nat.mul_mod_mod, Nat.mul_assoc]
theorem m_distrib : a * ((b + c) % p) % p = (a * b % p + a * c % p) % p := by
  rw [Nat.mul_mod_mod, ← Nat.add_mod, Nat.mul_add]
theorem m_neg (hp : 0 < p) : (p - b % p + b) % p = 0 := by
  have h1 := Nat.mod_lt b hp
  have h2 : p - b % p + b = p + p * (b / p) := by
    have := Nat.div_add_mod b p
    omega
  rw [h2, Nat.add_mul_mod_self_left, Nat.mod_self]
theorem m_sub_add (hp : 0 < p) : ((a + (p - b % p)) % p + b) % p = a % p := by
  rw [Nat.mod_add_mod, Nat.add_assoc, Nat.add_mod, m_neg p b hp, Nat.add_zero, Nat.mod_mod]
theorem m_sub_self (hp : 0 < p) : (a + (p - a % p)) % p % p = 0 := by
  rw [Nat.mod_mod, Nat.add_comm, m_neg p a hp]
end Go.Proofs.YtanfjkmkfcekmaaDoor
/-
  Differences, squares and quotients modulo a number.
-/
namespace Go.Proofs.YtanfjkmkfcekmaaDoor
set_option linter.unusedVariables false

theorem c_add {p x y u v : Nat} (h : x % p = y % p) (k : u % p = v % p) : (x + u) % p = (y + v) % p := by
  rw [Nat.add_mod, h, k, ← Nat.add_mod]
theorem c_mul {p x y u v : Nat} (h : x % p = y % p) (k : u % p = v % p) : (x * u) % p = (y * v) % p := by
  rw [Nat.mul_mod, h, k, ← Nat.mul_mod]
theorem c_cancel {p x y b : Nat} (hp : 0 < p) (h : (x + b) % p = (y + b) % p) : x % p = y % p := by
  have h1 := c_add h (rfl : (p - b % p) % p = (p - b % p) % p)
  have e : ∀ z, (z + b + (p - b % p)) % p = z % p := fun z => by
    rw [Nat.add_assoc, Nat.add_comm b, Nat.add_mod, m_neg p b hp, Nat.add_zero, Nat.mod_mod]
  rwa [e, e] at h1

/-- A difference is what goes with the lesser one to the greater one. -/
theorem sub_is {p a b z : Nat} (hp : 0 < p) (hz : z < p) (h : (z + b) % p = a % p) : (a + (p - b % p)) % p = z := by
  have h1 : ((a + (p - b % p)) % p + b) % p = (z + b) % p := by rw [m_sub_add p a b hp, h]
  have h2 := c_cancel hp h1
  rw [Nat.mod_mod] at h2
  rw [h2, Nat.mod_eq_of_lt hz]

theorem sq_neg {p a o : Nat} (hp : 0 < p) (ho : (o + a) % p = 0) : a * a % p = o * o % p := by
  have h1 : (a * a + a * o) % p = 0 := by
    rw [← Nat.mul_add, Nat.add_comm a o, Nat.mul_mod, ho, Nat.mul_zero, Nat.zero_mod]
  have h2 : (o * o + a * o) % p = 0 := by
    rw [← Nat.add_mul, Nat.mul_mod, ho, Nat.zero_mul, Nat.zero_mod]
  exact c_cancel hp (h1.trans h2.symm)

theorem sq_diff {p a b s : Nat} (hp : 0 < p) (hs : (s + b) % p = a % p) : (((a + b) % p * s % p) + b * b % p) % p = a * a % p % p := by
  rw [Nat.mod_mul_mod, ← Nat.add_mod, Nat.mod_mod]
  have h0 : (a * s + b * s + b * b) % p = ((s + b) * s + b * s + b * b) % p := c_add (c_add (c_mul hs.symm rfl) rfl) rfl
  have e : (s + b) * s + b * s + b * b = (s + b) * (s + b) := by grind
  have h1 : ((a + b) * s + b * b) % p = (a * s + b * s + b * b) % p := by rw [Nat.add_mul]
  have h2 : ((a + b) * s % p + b * b) % p = ((a + b) * s + b * b) % p := by rw [Nat.mod_add_mod]
  have h3 : ((s + b) * (s + b)) % p = a * a % p := c_mul hs hs
  first
    | (rw [h1, h0, e, h3])
    | (rw [h2, h1, h0, e, h3])

theorem quot_back {p a b i : Nat} (hi : b * i % p = 1 % p) : (a * i % p) * b % p = a % p := by
  rw [Nat.mod_mul_mod, Nat.mul_assoc, Nat.mul_comm i b, Nat.mul_mod, hi, ← Nat.mul_mod, Nat.mul_one]
theorem quot_zero {p a b i : Nat} (hp : IsPrime p) (hi : b * i % p = 1 % p) : decide (a * i % p % p = 0) = decide (a % p = 0) := by
  rw [zero_product hp]
  have hni : ¬ i % p = 0 := by
    intro h
    rw [Nat.mul_mod, h, Nat.mul_zero, Nat.zero_mod, Nat.mod_eq_of_lt hp.1] at hi
    cases hi
  simp [hni]

/-- The opposite's inverse is the inverse's opposite. -/
theorem inv_opposite {p b n i j : Nat} (hp : IsPrime p) (hn : (n + b) % p = 0) (hi : b * i % p = 1) (hj : n * j % p = 1) : (j + i) % p = 0 := by
  have h1 : (n * (j + i)) % p = 0 := by
    have e : (n * i + 1) % p = 0 := by
      have h2 : (n * i + b * i) % p = 0 := by rw [← Nat.add_mul, Nat.mul_mod, hn, Nat.zero_mul, Nat.zero_mod]
      rw [Nat.add_mod, hi] at h2
      rw [Nat.add_mod, Nat.mod_eq_of_lt hp.1]
      exact h2
    rw [Nat.mul_add, Nat.add_mod, hj, Nat.add_comm]
    rw [Nat.add_mod, Nat.mod_eq_of_lt hp.1] at e
    exact e
  rcases hp.euclid (Nat.dvd_of_mod_eq_zero h1) with h | h
  · have := Nat.mod_eq_zero_of_dvd (Nat.dvd_trans h (Nat.dvd_mul_right n j))
    omega
  · exact Nat.mod_eq_zero_of_dvd h

theorem powOf_ltp (e p n : Nat) (hp : 0 < p) : powOf e p n < p := Nat.mod_lt _ hp
theorem invOf_ltp (n : Nat) : invOf n < 57896044618658097711785492504343953926634992332820282019728792003956564819949 := powOf_ltp _ _ n (by decide)
end Go.Proofs.YtanfjkmkfcekmaaDoor
/-
  For LimbSums: a sum over a list that begins at another place and goes round is the same sum; a number is read out of a row of numbers within a quiet walk.
-/
namespace Go.Proofs.YtanfjkmkfcekmaaDoor
open Go Go.RowKit
set_option linter.unusedVariables false

/-- The sum of the first k. -/
def sumTo (f : Nat → Nat) : Nat → Nat
  | 0 => 0
  | k + 1 => sumTo f k + f k

theorem sumTo_congr {f g : Nat → Nat} : ∀ (k : Nat), (∀ i, i < k → f i = g i) → sumTo f k = sumTo g k
  | 0, _ => rfl
  | k + 1, h => by rw [sumTo, sumTo, sumTo_congr k (fun i hi => h i (by omega)), h k (by omega)]

theorem sumTo_add (f : Nat → Nat) (a : Nat) : ∀ (b : Nat), sumTo f (a + b) = sumTo f a + sumTo (fun j => f (a + j)) b
  | 0 => rfl
  | b + 1 => by
    show sumTo f (a + b) + f (a + b) = sumTo f a + (sumTo (fun j => f (a + j)) b + f (a + b))
    rw [sumTo_add f a b]
    omega

theorem sumTo_round (f : Nat → Nat) {n s : Nat} (hs : s < n) : sumTo (fun i => f ((i + s) % n)) n = sumTo f n := by
  have e1 : sumTo f n = sumTo f s + sumTo (fun j => f (s + j)) (n - s) := by
    rw [← sumTo_add, show s + (n - s) = n by omega]
  have e2 : sumTo (fun i => f ((i + s) % n)) n = sumTo (fun i => f ((i + s) % n)) (n - s) + sumTo (fun j => f ((n - s + j + s) % n)) s := by
    rw [← sumTo_add (fun i => f ((i + s) % n)), show n - s + s = n by omega]
  have e3 : sumTo (fun i => f ((i + s) % n)) (n - s) = sumTo (fun j => f (s + j)) (n - s) := sumTo_congr _ fun i hi => by
    show f ((i + s) % n) = f (s + i)
    rw [Nat.mod_eq_of_lt (by omega), Nat.add_comm]
  have e4 : sumTo (fun j => f ((n - s + j + s) % n)) s = sumTo f s := sumTo_congr _ fun i hi => by
    show f ((n - s + i + s) % n) = f i
    rw [show n - s + i + s = i + n by omega, Nat.add_mod_right, Nat.mod_eq_of_lt (by omega)]
  rw [e2, e3, e4, e1]
  omega

/-- One more, modulo p. -/
theorem sumTo_mod (f : Nat → Nat) (k p : Nat) : (sumTo f k % p + f k) % p = sumTo f (k + 1) % p := by
  rw [sumTo, Nat.mod_add_mod]

theorem q_load_at {P : Program} {ops : Array Oper} {C : World → Prop} {Q : Act → Prop} {a : Act} {o : Oper} {rest : List Oper} (hw : Region.wanted o (yielded ops a.tmps) = true) (ty : TypeId) (x : Operand) (g off : Nat) (t : TypeId) (cs es : Array Value) (fr : Nat × Nat) (d : TypeDesc) (ho : o.op = .load ty x) (hx : a.eval x = .pointer (some ⟨g, off, none⟩))
    (hC : ∀ w, C w → w.heap[g]? = some (.cells cs t fr)) (hp : ∀ j v, es[j]? = some v → cs[off + j]? = some v) (hu : P.underlying ty = some d) (hd : (match d with | .struct _ | .array _ _ => true | _ => false) = true) (hi : (P.info? ty).map (·.size) = some es.size)
    (h : wpQuiet P ops C Q rest (a.put o.dst (.agg es))) : wpQuiet P ops C Q (o :: rest) a := by
  refine BigFrame.wpQuiet_want hw fun K hK => ⟨.agg es, fun w hc => ?_, hK _ h⟩
  unfold Oper.quietAt execOp
  simp only [ho, hx, Instr.loadAt, Instr.sureAddr, Sem.run_bind, Sem.run_pure, Result.andThen_ok, run_loadVar_at w g off t ty cs es fr d (hC w hc) hp hu hd hi]
  exact ⟨rfl, rfl⟩

/-- The same by cells, at any address: so an argument's slice is given. -/
theorem run_loadVar_cells {P : Program} (w : World) (A : Addr) (ty : TypeId) (es : Array Value) (d : TypeDesc) (hp : ∀ j v, es[j]? = some v → w.cell? (A.add j) = some v)
    (hu : P.underlying ty = some d) (hd : (match d with | .struct _ | .array _ _ => true | _ => false) = true) (hi : (P.info? ty).map (·.size) = some es.size) :
    (loadVar ty A).run P w = .ok (.agg es) w := by
  have hl : (loadCells A es.toList.length).run P w = .ok es.toList.toArray w :=
    run_loadCells_list (P := P) w A es.toList (fun j v hv => hp j v (by simpa using hv))
  cases hq : P.info? ty with
  | none => simp [hq] at hi
  | some i =>
    have hs : i.size = es.size := by simpa [hq] using hi
    have hagg : (isAgg ty).run P w = .ok true w := by
      unfold isAgg
      rw [Sem.run_bind, run_underlying hu w]
      cases d <;> simp_all
    simp only [Array.length_toList, Array.toArray_toList] at hl
    simp [loadVar, Sem.run_bind, hagg, sizeOf, typeInfo, hq, hs, hl]

theorem q_load_cells {P : Program} {ops : Array Oper} {C : World → Prop} {Q : Act → Prop} {a : Act} {o : Oper} {rest : List Oper} (hw : Region.wanted o (yielded ops a.tmps) = true) (ty : TypeId) (x : Operand) (A : Addr) (es : Array Value) (d : TypeDesc) (ho : o.op = .load ty x) (hx : a.eval x = .pointer (some A))
    (hC : ∀ w, C w → ∀ j v, es[j]? = some v → w.cell? (A.add j) = some v) (hu : P.underlying ty = some d) (hd : (match d with | .struct _ | .array _ _ => true | _ => false) = true) (hi : (P.info? ty).map (·.size) = some es.size)
    (h : wpQuiet P ops C Q rest (a.put o.dst (.agg es))) : wpQuiet P ops C Q (o :: rest) a := by
  refine BigFrame.wpQuiet_want hw fun K hK => ⟨.agg es, fun w hc => ?_, hK _ h⟩
  unfold Oper.quietAt execOp
  simp only [ho, hx, Instr.loadAt, Instr.sureAddr, Sem.run_bind, Sem.run_pure, Result.andThen_ok, run_loadVar_cells w A ty es d (hC w hc) hu hd hi]
  exact ⟨rfl, rfl⟩

theorem wpList_load_cells {P : Program} {ops : Array Oper} {rest : List Oper} {o : Oper} {a : Act} {w : World} {Q : Exit → Act → World → Prop} (hgd : o.guard = none) (ty : TypeId) (x : Operand) (ho : o.op = .load ty x)
    (A : Addr) (hx : a.eval x = .pointer (some A)) (es : Array Value) (d : TypeDesc) (hp : ∀ j v, es[j]? = some v → w.cell? (A.add j) = some v)
    (hu : P.underlying ty = some d) (hd : (match d with | .struct _ | .array _ _ => true | _ => false) = true) (hi : (P.info? ty).map (·.size) = some es.size)
    (h : wpList P ops Q rest (a.put o.dst (.agg es)) w) : wpList P ops Q (o :: rest) a w :=
  wpList_plain hgd fun _ hK => by
    unfold Oper.wp execOp
    simp only [ho, hx, Instr.loadAt, Instr.sureAddr, Sem.run_bind, Sem.run_pure, Result.andThen_ok, run_loadVar_cells w A ty es d hp hu hd hi]
    exact hK _ _ h
end Go.Proofs.YtanfjkmkfcekmaaDoor
