/-
  Keys cut of bytes, one by one: what package mac's iterator hands on.
-/
import Derived.Test.YthnkipicehppmaaDoorUT
import Derived.RangeFuncNested
import Derived.RangeFuncBound
import Derived.RangeFuncCalls
import Derived.RangeFuncLeaves
import Derived.RangeFuncBox
import Derived.Shelf.Abstract
import Derived.Shelf.RegionOpen
import Derived.WalkKit
import Derived.OwnWalkIn
import Derived.TacticsInMore
import Derived.LoopNIn
import Derived.LoopIn
namespace Go.Proofs.YthnkipicehppmaaDoor.sh
open Go Go.RowKit Go.Shelf
set_option linter.unusedVariables false
set_option linter.unusedSimpArgs false

/-- 32 numbers. -/
abbrev K32 := { l : List Nat // l.length = 32 }
def chunkK (X : List Nat) (i : Nat) : K32 := if h : ((X.drop (32 * i)).take 32).length = 32 then ⟨_, h⟩ else ⟨List.replicate 32 0, by simp⟩
theorem chunkK_val {X : List Nat} {i N : Nat} (hX : X.length = 32 * N) (hi : i < N) : (chunkK X i).1 = (X.drop (32 * i)).take 32 := by
  have h : ((X.drop (32 * i)).take 32).length = 32 := by rw [List.length_take, List.length_drop, hX]; omega
  unfold chunkK
  rw [dif_pos h]
def chunks (X : List Nat) (N : Nat) : List K32 := (List.range N).map (chunkK X)
theorem chunks_succ (X : List Nat) (i : Nat) : chunks X (i + 1) = chunks X i ++ [chunkK X i] := by simp [chunks, List.range_succ]
theorem chunks_len (X : List Nat) (i : Nat) : (chunks X i).length = i := by simp [chunks]

def noDefer (o : Oper) : Bool := match o.op with | .defer _ => false | _ => true
theorem noDefer_spec {o : Oper} (h : noDefer o = true) : ∀ c, o.op ≠ .defer c := fun c e => by simp [noDefer, e] at h
theorem rowsIn_wide' {n : Nat} {P : Program} {row : String} {args : Array Value} {w : World} {R : Value → World → Prop} (h : Rows P row args w R) : RowsIn Fence.wide n P row args w R :=
  fun c cs _ => let ⟨v, w', r, s⟩ := h c cs; ⟨v, w', r, stepsIn_wide.2 s⟩
/-- What is walked as everywhere holds in a round of a range over a function. -/
theorem list_round {P : Program} {ops : Array Oper} {Q : Exit → Act → World → Prop} {n l : Nat} (hQ : LetsOut Q → False) : ∀ (r : List Oper) (a : Act) (w : World), (r.all noDefer) = true → wpList P ops Q r a w → wpListIn (Fence.wide.inRound l) n P ops Q r a w
  | [], a, w, _, h => h
  | o :: r, a, w, hn, h => by
    simp only [List.all_cons, Bool.and_eq_true] at hn
    unfold wpList at h
    unfold wpListIn
    by_cases hw : Region.wanted o (yielded ops a.tmps) = true
    · rw [if_pos hw] at h ⊢
      rcases h with h | ⟨_, h⟩
      case inr => exact (hQ h).elim
      unfold Oper.wp at h
      refine ⟨fun f _ => trivial, ?_⟩
      rw [show (Fence.wide.inRound l).round = some l from rfl, Oper.semAt_some l _ _ (noDefer_spec hn.1)]
      generalize (execOp a.eval o).run P w = res at *
      cases res with
      | ok x w' =>
        cases x with
        | value v => exact list_round hQ r _ _ hn.2 h
        | skip => exact list_round hQ r _ _ hn.2 h
        | defer d => exact list_round hQ r _ _ hn.2 h
        | enter f args =>
          refine ⟨fun hd => (by cases hd), CallsIn.inRound l (callsIn_wide.2 (Calls.mono h ?_))⟩
          intro e w'' hr
          cases e with
          | returned v => exact list_round hQ r _ _ hn.2 hr
          | panicked c => exact hr
          | outgrown => exact hr
        | row nm args =>
          exact ⟨fun hd => (by cases hd), (rowsIn_wide' h).mono fun v w'' hr => list_round hQ r _ _ hn.2 hr⟩
        | _ => exact h.elim
      | halt x w' =>
        cases x <;> first | exact h | exact h.elim
    · rw [if_neg hw] at h ⊢
      exact ⟨fun f _ => trivial, list_round hQ r _ _ hn.2 h⟩
theorem region_round {P : Program} {Q : Exit → Act → World → Prop} {n l id : Nat} {r : List Oper} {a : Act} {w : World} (hQ : LetsOut Q → False) (hn : (r.all noDefer) = true) (h : wpList P r.toArray Q r a w) : (Code.region id r.toArray false).wpIn (Fence.wide.inRound l) n P Q a w :=
  wpIn_region_lit (list_round hQ r a w hn h)
theorem wi_val {F : Fence} (hF : ∀ f, F.fn f) {n d : Nat} {P : Program} {ops : Array Oper} {Q : Exit → Act → World → Prop} {rest : List Oper} {o : Oper} {a : Act} {w : World} (hd : o.dst = some d) (hg : o.guard = none) (hn : noDefer o = true) (v : Value) (hr : (execOp a.eval o).run P w = .ok (.value v) w) (h : wpListIn F n P ops Q rest (a.put o.dst v) w) : wpListIn F n P ops Q (o :: rest) a w := by
  refine wpListIn_plain hg fun K hK => ⟨fun f _ => hF f, ?_⟩
  rw [Oper.semAt_plain F _ _ (noDefer_spec hn), hr]
  exact hK _ _ h
theorem run_arrAt {o : Oper} {a : Act} {x : Operand} {p : Option Addr} {l c n : Nat} {t e : TypeId} (ho : o.op = .sliceToArrayPointer t x) (hx : a.eval x = .slice p l c) (ht : Tryd.prog.underlying t = some (.array n e)) (hl : n ≤ l) (w : World) : (execOp a.eval o).run Tryd.prog w = .ok (.value (.pointer p)) w := by
  have h : ¬ (l < n) := by omega
  unfold execOp
  simp only [ho, hx]
  simp [Instr.arrayAt, run_underlying ht, h]
  try omega
theorem run_partA {o : Oper} {a : Act} {x : Operand} {g off n : Nat} {t t' e : TypeId} {w : World} {cs es : Array Value} (ho : o.op = .load t x) (hx : a.eval x = .pointer (some ⟨g, off, none⟩)) (ht : Tryd.prog.underlying t = some (.array n e)) (hi : (Tryd.prog.info? t).map (·.size) = some es.size) (hb : Blk w g t' cs) (hp : ∀ j v, es[j]? = some v → cs[off + j]? = some v) : (execOp a.eval o).run Tryd.prog w = .ok (.value (.agg es)) w := by
  unfold execOp
  simp only [ho, hx, Instr.loadAt, Instr.sureAddr, Sem.run_bind, Sem.run_pure, Result.andThen_ok, run_loadVar_at w g off t' t cs es (0, 0) _ hb hp ht rfl hi]

set_option maxHeartbeats 1000000 in
theorem cut_any (p : Option Addr) (m c : Nat) (w : World) :
    Calls Tryd.prog 25 #[.slice p m c] w fun e w' => e = .returned (.func (.func 34) #[] #[.pointer (some ⟨w.heap.size, 0, none⟩)]) ∧ w' = w.alloc (.cells #[.slice p m c] 22) := by
  go_enter Tryd.func25, Tryd.ntmps25
  go_wp2_with fail
  go_ret
  exact ⟨rfl, rfl⟩

/-- Two blocks stay as they are. -/
def Keep2 (g b : Nat) (W W' : World) : Prop := W'.heap[g]? = W.heap[g]? ∧ W'.heap[b]? = W.heap[b]?
theorem Keep2.refl (g b : Nat) (W : World) : Keep2 g b W W := ⟨rfl, rfl⟩
theorem Keep2.trans {g b : Nat} {A B C : World} (h : Keep2 g b A B) (h' : Keep2 g b B C) : Keep2 g b A C := ⟨h'.1.trans h.1, h'.2.trans h.2⟩
theorem Keep2.below {g b n : Nat} {A B : World} (h : Below n A B) (hg : g < n) (hb : b < n) : Keep2 g b A B := ⟨h.block g hg, h.block b hb⟩
theorem Keep2.grown {g b : Nat} {A B : World} {row : Option Nat} (h : A.grownBy B row) (hg : g < A.heap.size) (hb : b < A.heap.size) (h1 : row ≠ some g) (h2 : row ≠ some b) : Keep2 g b A B := ⟨h.block g hg (fun e => h1 e.symm), h.block b hb (fun e => h2 e.symm)⟩
theorem keep2_b {g b n : Nat} (hg : g < n) (hb : b < n) : ∀ (W : World) (l : Nat) (o o' : Obj), n ≤ l → W.heap[l]? = some o → o.isCells = false → o.isWalk = false → Keep2 g b W (W.putObj l o') := fun W l o o' hl _ _ _ => ⟨World.putObj_heap_other (by omega), World.putObj_heap_other (by omega)⟩
def leftOf (m : Nat) : Value → World → Nat := fun v _ => match v with | .int _ k => m - k.toNat | _ => 0
set_option maxRecDepth 100000 in
set_option maxHeartbeats 4000000 in
/-- The iterator hands on all keys, one by one, to a loop that keeps what lay below n₀. -/
theorem cut1_in (n : Nat) (hn : 1 ≤ n) (l Bn N gx c : Nat) (hN : N ≤ 1000) (X : List Nat) (cur : Array Value) (J Jx : List K32 → World → Prop)
    (hY : ∀ pre x W1, J pre W1 → pre.length < N → YieldAt Fence.wide (n - 1) Tryd.prog l #[.agg (ints .u8 x.1)] W1 fun e W' => (e = .returned (.bool true) ∧ J (pre ++ [x]) W' ∧ Keep2 gx Bn W1 W') ∨ (e = .returned (.bool false) ∧ Jx (pre ++ [x]) W'))
    (W : World) (hc : Blk W Bn 22 #[.slice (some ⟨gx, 0, none⟩) (32 * N) c]) (hcap : 32 * N ≤ c) (hX : X.length = 32 * N) (hb : Blk W gx 5 cur) (hcur : ∀ (i x : Nat), X[i]? = some x → cur[i]? = some (.int .u8 (x : Int))) (h0 : J [] W) :
    CallsIn Fence.wide n Tryd.prog 34 #[.func (.yield l) #[] #[], .pointer (some ⟨Bn, 0, none⟩)] W fun e W' => (∃ v, e = .returned v) ∧ ((∃ ys, ys = chunks X N ∧ J ys W') ∨ (∃ pre, True ∧ Jx pre W')) := by
  have KY : Kept _ := ⟨hY⟩
  have KCU : Kept _ := ⟨hcur⟩
  have KX : Kept _ := ⟨hX⟩
  obtain ⟨M, hM⟩ : ∃ M, M = 32 * N := ⟨_, rfl⟩
  have EM : Kept _ := ⟨hM⟩
  rw [← hM] at hc hcap
  have h00 : Kept (J (chunks X 0) W) := ⟨h0⟩
  clear hY hcur hX hM h0
  refine callsIn_of_wp Tryd.func34 rfl trivial ?_ rfl
  simp only [Tryd.ntmps34, List.size_toArray, List.length_cons, List.length_nil, Nat.reduceAdd, Nat.reduceSub, Array.replicate_succ, Array.replicate_zero, List.push_toArray, List.append_toArray, List.nil_append, List.cons_append]
  gi_wp2
  gi_loopw [3] (fun s3 wr => ∃ i a : Nat, i ≤ N ∧ s3 = .int .i64 (a : Int) ∧ Kept (a = 32 * i ∧ Keep2 gx Bn W wr ∧ J (chunks X i) wr)) (leftOf M)
  case atStart => exact ⟨0, 0, Nat.zero_le _, rfl, ⟨rfl, Keep2.refl _ _ _, h00.out⟩⟩
  case round =>
    clear h00
    obtain ⟨i, a, hiN, rfl, KQ⟩ := hrel
    obtain ⟨ha, HB, HJ⟩ := KQ.out
    have Ea : Kept _ := ⟨ha⟩
    have aS : a ≤ 32000 := by omega
    clear KQ
    have hcr : wr.cell? ⟨Bn, 0, none⟩ = some (.slice (some ⟨gx, 0, none⟩) M c) := Blk.cell (t := 22) (HB.2.trans hc) rfl
    obtain ⟨a2, ha2⟩ : ∃ z, z = a + 32 := ⟨_, rfl⟩
    have E2 : Kept _ := ⟨ha2⟩
    have a62 : a + 32 < 4611686018427387904 := by omega
    by_cases hi : i < N
    case pos =>
      have hle : (a2 : Int) ≤ (M : Int) := by have := EM.out; omega
      have aM : a ≤ M := by omega
      have a2M : Kept (a2 = 32 * (i + 1)) := ⟨by omega⟩
      have acM : Kept (¬ c = a) := ⟨by have := EM.out; omega⟩
      obtain ⟨C, hC⟩ : ∃ C, C = chunkK X i := ⟨_, rfl⟩
      have LC : Kept ((Tryd.prog.info? 24).map (·.size) = some (ints .u8 C.1).size) := ⟨by rw [ints_size, C.2]; exact t32_info⟩
      have HC : Kept (∀ (j : Nat) (v : Value), (ints .u8 C.1)[j]? = some v → cur[a + j]? = some v) := ⟨fun j v hv => by
        have hj : j < C.1.length := by have := (Array.getElem?_eq_some_iff.1 hv).1; rwa [ints_size] at this
        have e1 : C.1[j]? = X[a + j]? := by
          rw [hC, chunkK_val KX.out hi, List.getElem?_take_of_lt (by have := C.2; omega), List.getElem?_drop, ha]
        obtain ⟨x, hx⟩ : ∃ x, C.1[j]? = some x := ⟨_, List.getElem?_eq_getElem hj⟩
        rw [ints_get hx] at hv
        cases hv
        exact KCU.out (a + j) x (by rw [← e1]; exact hx)⟩
      have hbr : Blk wr gx 5 cur := HB.1.trans hb
      have L32 : 32 ≤ M - a := by have := EM.out; omega
      have CUT : Kept (∀ {o : Oper} {a' : Act}, o.op = .slice 22 (.tmp 12) (some (.tmp 13)) none none → a'.eval (.tmp 12) = .slice (some ⟨gx, 0, none⟩) M c → a'.eval (.tmp 13) = .int .i64 (a : Int) → ∀ w, (execOp a'.eval o).run Tryd.prog w = .ok (.value (.slice (some ⟨gx, a, none⟩) (M - a) (c - a))) w) := ⟨fun ho hx hy w => by
        have := cut_run ho hx hy Tryd.underlying22 sz_u8 aM w
        rw [this, if_neg acM.out]
        simp [addr_add]⟩
      obtain ⟨fn, tmps, assign, body, hy, hR⟩ := KY.out (chunks X i) C wr HJ (by rw [chunks_len]; exact hi)
      have NX : Kept (chunks X i ++ [C] = chunks X (i + 1)) := ⟨by rw [chunks_succ, hC]⟩
      have aL : Kept (leftOf M (.int .i64 (a2 : Int)) wr < leftOf M (.int .i64 (a : Int)) wr) := ⟨by simp [leftOf]; have := EM.out; omega⟩
      clear hC HJ ha ha2
      gi_wp2_with (first | ((with_reducible refine wi_val (fun _ => trivial) (d := 5) ?hd ?hg ?hn (.int .i64 (a2 : Int)) ?hr ?_); (case hd => rfl); (case hg => rfl); (case hn => rfl); (case hr => rw [E2.out]; exact run_addI 32 rfl (by kernel_rfl) a62 _); simp only [Act.put, List.setIfInBounds_toArray, List.set_cons_succ, List.set_cons_zero]) | ((with_reducible refine wi_val (fun _ => trivial) (d := 14) ?hd ?hg ?hn (.slice (some ⟨gx, a, none⟩) (M - a) (c - a)) ?hr ?_); (case hd => rfl); (case hg => rfl); (case hn => rfl); (case hr => exact CUT.out rfl (by kernel_rfl) (by kernel_rfl) _); simp only [Act.put, List.setIfInBounds_toArray, List.set_cons_succ, List.set_cons_zero]) | ((with_reducible refine wi_val (fun _ => trivial) (d := 15) ?hd ?hg ?hn (.pointer (some ⟨gx, a, none⟩)) ?hr ?_); (case hd => rfl); (case hg => rfl); (case hn => rfl); (case hr => exact run_arrAt (c := c - a) rfl (by kernel_rfl) Tryd.underlying24 L32 _); simp only [Act.put, List.setIfInBounds_toArray, List.set_cons_succ, List.set_cons_zero]) | ((with_reducible refine wi_val (fun _ => trivial) (d := 16) ?hd ?hg ?hn (.agg (ints .u8 C.1)) ?hr ?_); (case hd => rfl); (case hg => rfl); (case hn => rfl); (case hr => exact run_partA rfl (by kernel_rfl) Tryd.underlying24 LC.out hbr HC.out); simp only [Act.put, List.setIfInBounds_toArray, List.set_cons_succ, List.set_cons_zero]))
      refine hR.mono ?_
      rintro e W3 (⟨rfl, hJ3, hk3⟩ | ⟨rfl, hJx3⟩)
      · have HB3 := HB.trans hk3
        rw [NX.out] at hJ3
        gi_wp2_with (first | ((with_reducible refine wi_val (fun _ => trivial) (d := 10) ?hd ?hg ?hn (.int .i64 (a2 : Int)) ?hr ?_); (case hd => rfl); (case hg => rfl); (case hn => rfl); (case hr => rw [E2.out]; exact run_addI 32 rfl (by kernel_rfl) a62 _); simp only [Act.put, List.setIfInBounds_toArray, List.set_cons_succ, List.set_cons_zero]))
        go_roundw
        case rel => exact ⟨i + 1, a2, by omega, rfl, ⟨a2M.out, HB3, hJ3⟩⟩
        case measure => exact aL.out
      · gi_wp2
        refine bodyPost_ret (results_none rfl _ _ _) rfl ?_
        first | exact ⟨⟨_, rfl⟩, .inr ⟨_, trivial, hJx3⟩⟩ | exact ⟨⟨_, rfl⟩, .inr ⟨_, hJx3⟩⟩
    case neg =>
      have hle : ¬ (a2 : Int) ≤ (M : Int) := by have := EM.out; omega
      obtain rfl : i = N := by omega
      clear ha ha2
      gi_wp2_with (first | ((with_reducible refine wi_val (fun _ => trivial) (d := 5) ?hd ?hg ?hn (.int .i64 (a2 : Int)) ?hr ?_); (case hd => rfl); (case hg => rfl); (case hn => rfl); (case hr => rw [E2.out]; exact run_addI 32 rfl (by kernel_rfl) a62 _); simp only [Act.put, List.setIfInBounds_toArray, List.set_cons_succ, List.set_cons_zero]))
      go_end0
      first | exact ⟨⟨_, rfl⟩, .inl ⟨_, rfl, HJ⟩⟩ | exact ⟨⟨_, rfl⟩, .inl HJ⟩
theorem cut1_stops (n : Nat) (hn : 1 ≤ n) (Bn N gx c : Nat) (hN : N ≤ 1000) (X : List Nat) (cur : Array Value) (w : World)
    (hc : Blk w Bn 22 #[.slice (some ⟨gx, 0, none⟩) (32 * N) c]) (hcap : 32 * N ≤ c) (hX : X.length = 32 * N) (hb : Blk w gx 5 cur) (hcur : ∀ (i x : Nat), X[i]? = some x → cur[i]? = some (.int .u8 (x : Int))) :
    SeqStopsK Fence.wide n Tryd.prog 34 #[.pointer (some ⟨Bn, 0, none⟩)] (fun x : K32 => #[Value.agg (ints .u8 x.1)]) (Keep2 gx Bn) (fun ys => ys = chunks X N) (fun _ => True) N w := fun l J Jx W hW _ _ hY h0 =>
  cut1_in n hn l Bn N gx c hN X cur J Jx hY W (hc.under hW) hcap hX (hb.under hW) hcur h0
end Go.Proofs.YthnkipicehppmaaDoor.sh
