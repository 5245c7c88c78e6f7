/-
  General pieces, joined: MF UR UU.
-/
import Derived.Test.YtjkdonjcngmjeaaDoorG26
import Derived.Test.YtjkdonjcngmjeaaDoorG20
import Derived.RangeFuncNested
import Derived.RangeFuncBound
import Derived.RangeFuncCalls
import Derived.RangeFuncLeaves
import Derived.RangeFuncBox
import Derived.Shelf.Abstract
import Derived.Shelf.RegionOpen
import Derived.WalkKit
import Derived.OwnWalkIn
import Derived.TacticsInMore
import Derived.LoopNIn
import Derived.LoopIn
/-
  Prims of terms: two slices of texts that are the same; digests.
-/
namespace Go.Proofs.YtjkdonjcngmjeaaDoor.sh
open Go Go.RowKit
set_option linter.unusedVariables false
set_option linter.unusedSimpArgs false

def hashW : List Nat := [104, 97, 115, 104]
def keyW : List Nat := [107, 101, 121]
theorem hashW_ok : Bytes hashW ∧ hashW.length ≤ 4000 ∧ hashW.length ≤ maxLen := ⟨bytes_of_all (by decide), by decide, by decide⟩
theorem keyW_ok : Bytes keyW ∧ keyW.length ≤ 4000 ∧ keyW.length ≤ maxLen := ⟨bytes_of_all (by decide), by decide, by decide⟩

set_option maxRecDepth 100000 in
theorem HashT {tb B : Nat} {ts us : List TermL} {N x y : List Nat} {M : Nat → Prop} {w : World} (hT : Tab tb B ts M w) (hx : Bytes x) (hy : Bytes y) (hxl : x.length ≤ maxLen) (hyl : y.length ≤ maxLen) (hn : ts.length < 1000000) (hp : putL ts (4, [hashW, x, y]) = (us, N)) :
    Calls Tryd.prog 106 #[.agg #[.pointer (some ⟨tb, 0, none⟩)], .string (strOf x), .string (strOf y)] w fun e w' => e = .returned (.string (strOf N)) ∧ Puts tb B ts M w us w' := by
  have KT : Kept _ := ⟨hT⟩
  have CH : Kept (∀ (V : Value) w', Tab tb B ts M w' → ValsV V w' (strs [hashW, x, y]) → Calls Tryd.prog 36 [.pointer (some ⟨tb, 0, none⟩), V].toArray w' fun e w2 => e = .returned (.string (strOf N)) ∧ Puts tb B ts M w' us w2) := ⟨fun V w' h1 h2 => HashE h1 (by
    intro l hl
    simp only [List.mem_cons, List.not_mem_nil, or_false] at hl
    rcases hl with rfl | rfl | rfl
    · exact hashW_ok.1
    · exact hx
    · exact hy) h2 (by
    intro l hl
    simp only [List.mem_cons, List.not_mem_nil, or_false] at hl
    rcases hl with rfl | rfl | rfl
    · exact hashW_ok.2.2
    · exact hxl
    · exact hyl) hn hp⟩
  have q1 := (Below.refl w.heap.size w).alloc (Nat.le_refl _) (.cells #[.pointer (some ⟨tb, 0, none⟩)] 41)
  have Q2 : Kept _ := ⟨q1.alloc (by simp) (.cells #[.string (strOf hashW), .string (strOf x), .string (strOf y)] 9)⟩
  have KN : Kept _ := ⟨new3 hashW x y (w.alloc (.cells #[.pointer (some ⟨tb, 0, none⟩)] 41))⟩
  clear hT hx hy hxl hyl hn hp q1
  go_enter Tryd.func106, Tryd.ntmps106
  go_wp2_with (first | (refine wl_bs3 (by kernel_rfl) (.const (.string ⟨#[104, 97, 115, 104]⟩)) (.tmp 9) (.tmp 10) rfl (hashW) (x) (y) (by kernel_rfl) (by kernel_rfl) (by kernel_rfl) ?_; simp only [Act.put, List.setIfInBounds_toArray, List.set_cons_succ, List.set_cons_zero]))
  refine (CH.out _ _ (KT.out.under Q2.out) (by first | exact KN.out | (have := KN.out; simpa using this))).mono ?_
  rintro e w2 ⟨rfl, hp⟩
  have hp2 := hp.from Q2.out
  have K : Kept _ := ⟨hp2⟩
  clear hp hp2
  go_wp2_with fail
  go_ret
  exact ⟨rfl, K.out⟩
end Go.Proofs.YtjkdonjcngmjeaaDoor.sh
/-
  Keys cut of bytes, one by one: what package mac's iterator hands on.
-/
namespace Go.Proofs.YtjkdonjcngmjeaaDoor.sh
open Go Go.RowKit Go.Shelf
set_option linter.unusedVariables false
set_option linter.unusedSimpArgs false

/-- 32 numbers. -/
abbrev K32 := { l : List Nat // l.length = 32 }
def chunkK (X : List Nat) (i : Nat) : K32 := if h : ((X.drop (32 * i)).take 32).length = 32 then ⟨_, h⟩ else ⟨List.replicate 32 0, by simp⟩
theorem chunkK_val {X : List Nat} {i N : Nat} (hX : X.length = 32 * N) (hi : i < N) : (chunkK X i).1 = (X.drop (32 * i)).take 32 := by
  have h : ((X.drop (32 * i)).take 32).length = 32 := by rw [List.length_take, List.length_drop, hX]; omega
  unfold chunkK
  rw [dif_pos h]
def chunks (X : List Nat) (N : Nat) : List K32 := (List.range N).map (chunkK X)
theorem chunks_succ (X : List Nat) (i : Nat) : chunks X (i + 1) = chunks X i ++ [chunkK X i] := by simp [chunks, List.range_succ]
theorem chunks_len (X : List Nat) (i : Nat) : (chunks X i).length = i := by simp [chunks]

def noDefer (o : Oper) : Bool := match o.op with | .defer _ => false | _ => true
theorem noDefer_spec {o : Oper} (h : noDefer o = true) : ∀ c, o.op ≠ .defer c := fun c e => by simp [noDefer, e] at h
theorem rowsIn_wide' {n : Nat} {P : Program} {row : String} {args : Array Value} {w : World} {R : Value → World → Prop} (h : Rows P row args w R) : RowsIn Fence.wide n P row args w R :=
  fun c cs _ => let ⟨v, w', r, s⟩ := h c cs; ⟨v, w', r, stepsIn_wide.2 s⟩
/-- What is walked as everywhere holds in a round of a range over a function. -/
theorem list_round {P : Program} {ops : Array Oper} {Q : Exit → Act → World → Prop} {n l : Nat} (hQ : LetsOut Q → False) : ∀ (r : List Oper) (a : Act) (w : World), (r.all noDefer) = true → wpList P ops Q r a w → wpListIn (Fence.wide.inRound l) n P ops Q r a w
  | [], a, w, _, h => h
  | o :: r, a, w, hn, h => by
    simp only [List.all_cons, Bool.and_eq_true] at hn
    unfold wpList at h
    unfold wpListIn
    by_cases hw : Region.wanted o (yielded ops a.tmps) = true
    · rw [if_pos hw] at h ⊢
      rcases h with h | ⟨_, h⟩
      case inr => exact (hQ h).elim
      unfold Oper.wp at h
      refine ⟨fun f _ => trivial, ?_⟩
      rw [show (Fence.wide.inRound l).round = some l from rfl, Oper.semAt_some l _ _ (noDefer_spec hn.1)]
      generalize (execOp a.eval o).run P w = res at *
      cases res with
      | ok x w' =>
        cases x with
        | value v => exact list_round hQ r _ _ hn.2 h
        | skip => exact list_round hQ r _ _ hn.2 h
        | defer d => exact list_round hQ r _ _ hn.2 h
        | enter f args =>
          refine ⟨fun hd => (by cases hd), CallsIn.inRound l (callsIn_wide.2 (Calls.mono h ?_))⟩
          intro e w'' hr
          cases e with
          | returned v => exact list_round hQ r _ _ hn.2 hr
          | panicked c => exact hr
          | outgrown => exact hr
        | row nm args =>
          exact ⟨fun hd => (by cases hd), (rowsIn_wide' h).mono fun v w'' hr => list_round hQ r _ _ hn.2 hr⟩
        | _ => exact h.elim
      | halt x w' =>
        cases x <;> first | exact h | exact h.elim
    · rw [if_neg hw] at h ⊢
      exact ⟨fun f _ => trivial, list_round hQ r _ _ hn.2 h⟩
theorem region_round {P : Program} {Q : Exit → Act → World → Prop} {n l id : Nat} {r : List Oper} {a : Act} {w : World} (hQ : LetsOut Q → False) (hn : (r.all noDefer) = true) (h : wpList P r.toArray Q r a w) : (Code.region id r.toArray false).wpIn (Fence.wide.inRound l) n P Q a w :=
  wpIn_region_lit (list_round hQ r a w hn h)
theorem wi_val {F : Fence} (hF : ∀ f, F.fn f) {n d : Nat} {P : Program} {ops : Array Oper} {Q : Exit → Act → World → Prop} {rest : List Oper} {o : Oper} {a : Act} {w : World} (hd : o.dst = some d) (hg : o.guard = none) (hn : noDefer o = true) (v : Value) (hr : (execOp a.eval o).run P w = .ok (.value v) w) (h : wpListIn F n P ops Q rest (a.put o.dst v) w) : wpListIn F n P ops Q (o :: rest) a w := by
  refine wpListIn_plain hg fun K hK => ⟨fun f _ => hF f, ?_⟩
  rw [Oper.semAt_plain F _ _ (noDefer_spec hn), hr]
  exact hK _ _ h
theorem run_arrAt {o : Oper} {a : Act} {x : Operand} {p : Option Addr} {l c n : Nat} {t e : TypeId} (ho : o.op = .sliceToArrayPointer t x) (hx : a.eval x = .slice p l c) (ht : Tryd.prog.underlying t = some (.array n e)) (hl : n ≤ l) (w : World) : (execOp a.eval o).run Tryd.prog w = .ok (.value (.pointer p)) w := by
  have h : ¬ (l < n) := by omega
  unfold execOp
  simp only [ho, hx]
  simp [Instr.arrayAt, run_underlying ht, h]
  try omega
theorem run_partA {o : Oper} {a : Act} {x : Operand} {g off n : Nat} {t t' e : TypeId} {w : World} {cs es : Array Value} (ho : o.op = .load t x) (hx : a.eval x = .pointer (some ⟨g, off, none⟩)) (ht : Tryd.prog.underlying t = some (.array n e)) (hi : (Tryd.prog.info? t).map (·.size) = some es.size) (hb : Blk w g t' cs) (hp : ∀ j v, es[j]? = some v → cs[off + j]? = some v) : (execOp a.eval o).run Tryd.prog w = .ok (.value (.agg es)) w := by
  unfold execOp
  simp only [ho, hx, Instr.loadAt, Instr.sureAddr, Sem.run_bind, Sem.run_pure, Result.andThen_ok, run_loadVar_at w g off t' t cs es (0, 0) _ hb hp ht rfl hi]

set_option maxHeartbeats 1000000 in
theorem cut_any (p : Option Addr) (m c : Nat) (w : World) :
    Calls Tryd.prog 69 #[.slice p m c] w fun e w' => e = .returned (.func (.func 73) #[] #[.pointer (some ⟨w.heap.size, 0, none⟩)]) ∧ w' = w.alloc (.cells #[.slice p m c] 32) := by
  go_enter Tryd.func69, Tryd.ntmps69
  go_wp2_with fail
  go_ret
  exact ⟨rfl, rfl⟩

/-- Two blocks stay as they are. -/
def Keep2 (g b : Nat) (W W' : World) : Prop := W'.heap[g]? = W.heap[g]? ∧ W'.heap[b]? = W.heap[b]?
theorem Keep2.refl (g b : Nat) (W : World) : Keep2 g b W W := ⟨rfl, rfl⟩
theorem Keep2.trans {g b : Nat} {A B C : World} (h : Keep2 g b A B) (h' : Keep2 g b B C) : Keep2 g b A C := ⟨h'.1.trans h.1, h'.2.trans h.2⟩
theorem Keep2.below {g b n : Nat} {A B : World} (h : Below n A B) (hg : g < n) (hb : b < n) : Keep2 g b A B := ⟨h.block g hg, h.block b hb⟩
theorem Keep2.grown {g b : Nat} {A B : World} {row : Option Nat} (h : A.grownBy B row) (hg : g < A.heap.size) (hb : b < A.heap.size) (h1 : row ≠ some g) (h2 : row ≠ some b) : Keep2 g b A B := ⟨h.block g hg (fun e => h1 e.symm), h.block b hb (fun e => h2 e.symm)⟩
theorem keep2_b {g b n : Nat} (hg : g < n) (hb : b < n) : ∀ (W : World) (l : Nat) (o o' : Obj), n ≤ l → W.heap[l]? = some o → o.isCells = false → o.isWalk = false → Keep2 g b W (W.putObj l o') := fun W l o o' hl _ _ _ => ⟨World.putObj_heap_other (by omega), World.putObj_heap_other (by omega)⟩
def leftOf (m : Nat) : Value → World → Nat := fun v _ => match v with | .int _ k => m - k.toNat | _ => 0
set_option maxRecDepth 100000 in
set_option maxHeartbeats 4000000 in
/-- The iterator hands on all keys, one by one, to a loop that keeps what lay below n₀. -/
theorem cut1_in (n : Nat) (hn : 1 ≤ n) (l Bn N gx c : Nat) (hN : N ≤ 1000) (X : List Nat) (cur : Array Value) (J Jx : List K32 → World → Prop)
    (hY : ∀ pre x W1, J pre W1 → pre.length < N → YieldAt Fence.wide (n - 1) Tryd.prog l #[.agg (ints .u8 x.1)] W1 fun e W' => (e = .returned (.bool true) ∧ J (pre ++ [x]) W' ∧ Keep2 gx Bn W1 W') ∨ (e = .returned (.bool false) ∧ Jx (pre ++ [x]) W'))
    (W : World) (hc : Blk W Bn 32 #[.slice (some ⟨gx, 0, none⟩) (32 * N) c]) (hcap : 32 * N ≤ c) (hX : X.length = 32 * N) (hb : Blk W gx 5 cur) (hcur : ∀ (i x : Nat), X[i]? = some x → cur[i]? = some (.int .u8 (x : Int))) (h0 : J [] W) :
    CallsIn Fence.wide n Tryd.prog 73 #[.func (.yield l) #[] #[], .pointer (some ⟨Bn, 0, none⟩)] W fun e W' => (∃ v, e = .returned v) ∧ ((∃ ys, ys = chunks X N ∧ J ys W') ∨ (∃ pre, True ∧ Jx pre W')) := by
  have KY : Kept _ := ⟨hY⟩
  have KCU : Kept _ := ⟨hcur⟩
  have KX : Kept _ := ⟨hX⟩
  obtain ⟨M, hM⟩ : ∃ M, M = 32 * N := ⟨_, rfl⟩
  have EM : Kept _ := ⟨hM⟩
  rw [← hM] at hc hcap
  have h00 : Kept (J (chunks X 0) W) := ⟨h0⟩
  clear hY hcur hX hM h0
  refine callsIn_of_wp Tryd.func73 rfl trivial ?_ rfl
  simp only [Tryd.ntmps73, List.size_toArray, List.length_cons, List.length_nil, Nat.reduceAdd, Nat.reduceSub, Array.replicate_succ, Array.replicate_zero, List.push_toArray, List.append_toArray, List.nil_append, List.cons_append]
  gi_wp2
  gi_loopw [3] (fun s3 wr => ∃ i a : Nat, i ≤ N ∧ s3 = .int .i64 (a : Int) ∧ Kept (a = 32 * i ∧ Keep2 gx Bn W wr ∧ J (chunks X i) wr)) (leftOf M)
  case atStart => exact ⟨0, 0, Nat.zero_le _, rfl, ⟨rfl, Keep2.refl _ _ _, h00.out⟩⟩
  case round =>
    clear h00
    obtain ⟨i, a, hiN, rfl, KQ⟩ := hrel
    obtain ⟨ha, HB, HJ⟩ := KQ.out
    have Ea : Kept _ := ⟨ha⟩
    have aS : a ≤ 32000 := by omega
    clear KQ
    have hcr : wr.cell? ⟨Bn, 0, none⟩ = some (.slice (some ⟨gx, 0, none⟩) M c) := Blk.cell (t := 32) (HB.2.trans hc) rfl
    obtain ⟨a2, ha2⟩ : ∃ z, z = a + 32 := ⟨_, rfl⟩
    have E2 : Kept _ := ⟨ha2⟩
    have a62 : a + 32 < 4611686018427387904 := by omega
    by_cases hi : i < N
    case pos =>
      have hle : (a2 : Int) ≤ (M : Int) := by have := EM.out; omega
      have aM : a ≤ M := by omega
      have a2M : Kept (a2 = 32 * (i + 1)) := ⟨by omega⟩
      have acM : Kept (¬ c = a) := ⟨by have := EM.out; omega⟩
      obtain ⟨C, hC⟩ : ∃ C, C = chunkK X i := ⟨_, rfl⟩
      have LC : Kept ((Tryd.prog.info? 22).map (·.size) = some (ints .u8 C.1).size) := ⟨by rw [ints_size, C.2]; exact t32_info⟩
      have HC : Kept (∀ (j : Nat) (v : Value), (ints .u8 C.1)[j]? = some v → cur[a + j]? = some v) := ⟨fun j v hv => by
        have hj : j < C.1.length := by have := (Array.getElem?_eq_some_iff.1 hv).1; rwa [ints_size] at this
        have e1 : C.1[j]? = X[a + j]? := by
          rw [hC, chunkK_val KX.out hi, List.getElem?_take_of_lt (by have := C.2; omega), List.getElem?_drop, ha]
        obtain ⟨x, hx⟩ : ∃ x, C.1[j]? = some x := ⟨_, List.getElem?_eq_getElem hj⟩
        rw [ints_get hx] at hv
        cases hv
        exact KCU.out (a + j) x (by rw [← e1]; exact hx)⟩
      have hbr : Blk wr gx 5 cur := HB.1.trans hb
      have L32 : 32 ≤ M - a := by have := EM.out; omega
      have CUT : Kept (∀ {o : Oper} {a' : Act}, o.op = .slice 32 (.tmp 12) (some (.tmp 13)) none none → a'.eval (.tmp 12) = .slice (some ⟨gx, 0, none⟩) M c → a'.eval (.tmp 13) = .int .i64 (a : Int) → ∀ w, (execOp a'.eval o).run Tryd.prog w = .ok (.value (.slice (some ⟨gx, a, none⟩) (M - a) (c - a))) w) := ⟨fun ho hx hy w => by
        have := cut_run ho hx hy Tryd.underlying32 sz_u8 aM w
        rw [this, if_neg acM.out]
        simp [addr_add]⟩
      obtain ⟨fn, tmps, assign, body, hy, hR⟩ := KY.out (chunks X i) C wr HJ (by rw [chunks_len]; exact hi)
      have NX : Kept (chunks X i ++ [C] = chunks X (i + 1)) := ⟨by rw [chunks_succ, hC]⟩
      have aL : Kept (leftOf M (.int .i64 (a2 : Int)) wr < leftOf M (.int .i64 (a : Int)) wr) := ⟨by simp [leftOf]; have := EM.out; omega⟩
      clear hC HJ ha ha2
      gi_wp2_with (first | ((with_reducible refine wi_val (fun _ => trivial) (d := 5) ?hd ?hg ?hn (.int .i64 (a2 : Int)) ?hr ?_); (case hd => rfl); (case hg => rfl); (case hn => rfl); (case hr => rw [E2.out]; exact run_addI 32 rfl (by kernel_rfl) a62 _); simp only [Act.put, List.setIfInBounds_toArray, List.set_cons_succ, List.set_cons_zero]) | ((with_reducible refine wi_val (fun _ => trivial) (d := 14) ?hd ?hg ?hn (.slice (some ⟨gx, a, none⟩) (M - a) (c - a)) ?hr ?_); (case hd => rfl); (case hg => rfl); (case hn => rfl); (case hr => exact CUT.out rfl (by kernel_rfl) (by kernel_rfl) _); simp only [Act.put, List.setIfInBounds_toArray, List.set_cons_succ, List.set_cons_zero]) | ((with_reducible refine wi_val (fun _ => trivial) (d := 15) ?hd ?hg ?hn (.pointer (some ⟨gx, a, none⟩)) ?hr ?_); (case hd => rfl); (case hg => rfl); (case hn => rfl); (case hr => exact run_arrAt (c := c - a) rfl (by kernel_rfl) Tryd.underlying22 L32 _); simp only [Act.put, List.setIfInBounds_toArray, List.set_cons_succ, List.set_cons_zero]) | ((with_reducible refine wi_val (fun _ => trivial) (d := 16) ?hd ?hg ?hn (.agg (ints .u8 C.1)) ?hr ?_); (case hd => rfl); (case hg => rfl); (case hn => rfl); (case hr => exact run_partA rfl (by kernel_rfl) Tryd.underlying22 LC.out hbr HC.out); simp only [Act.put, List.setIfInBounds_toArray, List.set_cons_succ, List.set_cons_zero]))
      refine hR.mono ?_
      rintro e W3 (⟨rfl, hJ3, hk3⟩ | ⟨rfl, hJx3⟩)
      · have HB3 := HB.trans hk3
        rw [NX.out] at hJ3
        gi_wp2_with (first | ((with_reducible refine wi_val (fun _ => trivial) (d := 10) ?hd ?hg ?hn (.int .i64 (a2 : Int)) ?hr ?_); (case hd => rfl); (case hg => rfl); (case hn => rfl); (case hr => rw [E2.out]; exact run_addI 32 rfl (by kernel_rfl) a62 _); simp only [Act.put, List.setIfInBounds_toArray, List.set_cons_succ, List.set_cons_zero]))
        go_roundw
        case rel => exact ⟨i + 1, a2, by omega, rfl, ⟨a2M.out, HB3, hJ3⟩⟩
        case measure => exact aL.out
      · gi_wp2
        refine bodyPost_ret (results_none rfl _ _ _) rfl ?_
        first | exact ⟨⟨_, rfl⟩, .inr ⟨_, trivial, hJx3⟩⟩ | exact ⟨⟨_, rfl⟩, .inr ⟨_, hJx3⟩⟩
    case neg =>
      have hle : ¬ (a2 : Int) ≤ (M : Int) := by have := EM.out; omega
      obtain rfl : i = N := by omega
      clear ha ha2
      gi_wp2_with (first | ((with_reducible refine wi_val (fun _ => trivial) (d := 5) ?hd ?hg ?hn (.int .i64 (a2 : Int)) ?hr ?_); (case hd => rfl); (case hg => rfl); (case hn => rfl); (case hr => rw [E2.out]; exact run_addI 32 rfl (by kernel_rfl) a62 _); simp only [Act.put, List.setIfInBounds_toArray, List.set_cons_succ, List.set_cons_zero]))
      go_end0
      first | exact ⟨⟨_, rfl⟩, .inl ⟨_, rfl, HJ⟩⟩ | exact ⟨⟨_, rfl⟩, .inl HJ⟩
theorem cut1_stops (n : Nat) (hn : 1 ≤ n) (Bn N gx c : Nat) (hN : N ≤ 1000) (X : List Nat) (cur : Array Value) (w : World)
    (hc : Blk w Bn 32 #[.slice (some ⟨gx, 0, none⟩) (32 * N) c]) (hcap : 32 * N ≤ c) (hX : X.length = 32 * N) (hb : Blk w gx 5 cur) (hcur : ∀ (i x : Nat), X[i]? = some x → cur[i]? = some (.int .u8 (x : Int))) :
    SeqStopsK Fence.wide n Tryd.prog 73 #[.pointer (some ⟨Bn, 0, none⟩)] (fun x : K32 => #[Value.agg (ints .u8 x.1)]) (Keep2 gx Bn) (fun ys => ys = chunks X N) (fun _ => True) N w := fun l J Jx W hW _ _ hY h0 =>
  cut1_in n hn l Bn N gx c hN X cur J Jx hY W (hc.under hW) hcap hX (hb.under hW) hcur h0
end Go.Proofs.YtjkdonjcngmjeaaDoor.sh
/-
  Keys of a key and bytes: mac.Keys.
-/
namespace Go.Proofs.YtjkdonjcngmjeaaDoor.sh
open Go Go.RowKit Go.Shelf
set_option linter.unusedVariables false
set_option linter.unusedSimpArgs false

def flatK (kl : List (List Nat)) : List Value := kl.flatMap fun k => (ints .u8 k).toList
/-- A slice of keys that the call owns. -/
def KRow (base : Nat) (kl : List (List Nat)) : Value → World → Prop := fun v w => w.ownsRow base 22 32 v kl.length (flatK kl)
theorem krow_blk {base : Nat} {kl : List (List Nat)} {v : Value} {w : World} (h : KRow base kl v w) : v.ownBlock = blkOf v := by
  rcases h.2 with ⟨rfl, _⟩ | ⟨g, cap, cur, rfl, _⟩ <;> rfl
theorem KRow.keeps {base : Nat} {kl : List (List Nat)} {v : Value} {w w' : World} {row : Option Nat} (h : KRow base kl v w) (hg : w.grownBy w' row) (hne : blkOf v = none ∨ blkOf v ≠ row) : KRow base kl v w' := World.ownsRow.kept h hg (by rw [krow_blk h]; exact hne)
theorem KRow.range {base : Nat} {kl : List (List Nat)} {v : Value} {w : World} (h : KRow base kl v w) : ∀ b, blkOf v = some b → base ≤ b ∧ b < w.heap.size := fun b hb => h.lt b (by rw [krow_blk h]; exact hb)
theorem KRow.alloc {base : Nat} {kl : List (List Nat)} {v : Value} {w : World} (h : KRow base kl v w) (o : Obj) : KRow base kl v (w.alloc o) := World.ownsRow.alloc h o
theorem KRow.under {base : Nat} {kl : List (List Nat)} {v : Value} {w w' : World} (h : KRow base kl v w) (hb : Below w.heap.size w w') : KRow base kl v w' := h.keeps (grown_under (row := none) hb) (ne_none v)
theorem KRow.mono {base b' : Nat} {kl : List (List Nat)} {v : Value} {w : World} (h : KRow base kl v w) (hb : b' ≤ base) : KRow b' kl v w := by
  obtain ⟨h1, h2⟩ := h
  refine ⟨h1, ?_⟩
  rcases h2 with h | ⟨g, cap, cur, a, b, c⟩
  · exact .inl h
  · exact .inr ⟨g, cap, cur, a, Nat.le_trans hb b, c⟩
theorem key_parts : (Tryd.prog.info? 22).map (fun i => (i.zero, i.size, i.bytes)) = some (some (.agg #[.int .u8 0, .int .u8 0, .int .u8 0, .int .u8 0, .int .u8 0, .int .u8 0, .int .u8 0, .int .u8 0, .int .u8 0, .int .u8 0, .int .u8 0, .int .u8 0, .int .u8 0, .int .u8 0, .int .u8 0, .int .u8 0, .int .u8 0, .int .u8 0, .int .u8 0, .int .u8 0, .int .u8 0, .int .u8 0, .int .u8 0, .int .u8 0, .int .u8 0, .int .u8 0, .int .u8 0, .int .u8 0, .int .u8 0, .int .u8 0, .int .u8 0, .int .u8 0]), 32, 32) := by kernel_rfl
theorem ag_keys (w : World) : (isAgg 117).run Tryd.prog w = .ok false w := by kernel_rfl
theorem sz_keys (w : World) : (sizeOf 117).run Tryd.prog w = .ok 1 w := by kernel_rfl
section
variable {ops : Array Oper} {rest : List Oper} {o : Oper} {a : Act} {w : World} {Q : Exit → Act → World → Prop}
/-- What makes memory, its run known. -/
theorem wv_run {d : Nat} (hd : o.dst = some d) (hw : Region.wanted o (yielded ops a.tmps) = true) (v : Value) (w' : World) (hrun : (execOp a.eval o).run Tryd.prog w = .ok (.value v) w') (h : wpList Tryd.prog ops Q rest (a.put o.dst v) w') : wpList Tryd.prog ops Q (o :: rest) a w :=
  BigFrame.wpList_want hw fun K hK => by
    unfold Oper.wp
    rw [hrun]
    exact hK _ _ h
/-- A slice is stored into a variable. -/
theorem wl_setS (hgd : o.guard = none) (t : TypeId) (sz : ∀ w, (sizeOf t).run Tryd.prog w = .ok 1 w) (x y : Operand) (ho : o.op = .store t x y) (g : Nat) (p : Option Addr) (l c : Nat) (hx : a.eval x = .pointer (some ⟨g, 0, none⟩)) (hy : a.eval y = .slice p l c) {t' : TypeId} (u : Value)
    (hg : Blk w g t' #[u]) (h : ∀ w', Blk w' g t' #[.slice p l c] → Put w w' g → wpList Tryd.prog ops Q rest (a.put o.dst undef) w') : wpList Tryd.prog ops Q (o :: rest) a w :=
  wpList_plain hgd fun K hK => by
    have hc : w.cell? ⟨g, 0, none⟩ = some u := cell_row hg rfl
    have hf : w.frozen? ⟨g, 0, none⟩ = false := frozen_of_row w g 0 #[u] _ hg
    have hrun : (execOp a.eval o).run Tryd.prog w = .ok .skip (w.setCell ⟨g, 0, none⟩ (.slice p l c)) := by
      unfold execOp
      simp only [ho, hx, hy, Instr.storeAt, Instr.sureAddr, Sem.run_bind, Sem.run_pure, Result.andThen_ok]
      simp [storeVar, storeCells, sz, go_sem, hc, hf, Value.cells]
      try rfl
    unfold Oper.wp
    rw [hrun]
    exact hK _ _ (h _ (heap_setCell_same _ _ _ _ _ _ hg) ⟨⟨rfl, rfl, rfl, by simp, fun j _ hj => heap_setCell_other w ⟨g, 0, none⟩ j _ (fun e => hj (by rw [e]))⟩, by simp⟩)
theorem wl_build1 (hg : o.guard = none) (t e : TypeId) (x : Operand) (ho : o.op = .buildSlice t 1 #[(0, x)]) (X : Array Value) (hx : a.eval x = .agg X) (hu : Tryd.prog.underlying t = some (.slice e)) (hsz : (Tryd.prog.info? e).map (·.size) = some X.size) (hz : ((Tryd.prog.info? e).bind (·.zero)).isSome = true) (hpos : 0 < X.size) (hle : X.size ≤ 1000)
    (h : wpList Tryd.prog ops Q rest (a.put o.dst (.slice (some ⟨w.heap.size, 0, none⟩) 1 1)) (w.alloc (.cells X e))) : wpList Tryd.prog ops Q (o :: rest) a w := by
  cases hie : Tryd.prog.info? e with
  | none => simp [hie] at hsz
  | some ie =>
    simp only [hie, Option.map_some, Option.some.injEq, Option.bind_some] at hsz hz
    obtain ⟨z, hzz⟩ := Option.isSome_iff_exists.1 hz
    have hf := Great.fill_whole (s := X.size) hpos [Value.agg X] ((Array.range (1 * X.size)).map (z.cells[· % z.cells.size]!)) (fun v hv => by simp at hv; subst hv; rfl) (by simp)
    refine wpList_buildSlice hg t e 1 #[(0, x)] ho _ ie z hu hie hzz (by rw [hsz]; omega) (by rw [hsz]; omega) ?_ h
    rw [hsz]
    simpa [hx, Value.cells] using hf
theorem wl_appK (hgd : o.guard = none) (s x : Operand) (ho : o.op = .call { callee := .builtin .append, args := #[s, x], argTypes := #[117, 117] }) (base : Nat) (kl : List (List Nat)) (k : List Nat) (hk : k.length = 32) (v : Value) (g : Nat) (hs : a.eval s = v) (hx : a.eval x = .slice (some ⟨g, 0, none⟩) 1 1) (hv : KRow base kl v w) (hg : Blk w g 22 (ints .u8 k)) (hn : kl.length < 1000000) (hbase : base ≤ w.heap.size)
    (hk' : ∀ p l c w', KRow base (kl ++ [k]) (.slice p l c) w' → w.grownBy w' (blkOf v) → (blkOf (.slice p l c) = blkOf v ∨ blkOf (.slice p l c) = some w.heap.size) → wpList Tryd.prog ops Q rest (a.put o.dst (.slice p l c)) w') : wpList Tryd.prog ops Q (o :: rest) a w := by
  obtain ⟨i0, hi, hz0, hz1, hz2⟩ := info_parts key_parts
  refine wpList_append_own_at w hgd s x 117 ho base 22 i0 _ 32 32 Tryd.underlying117 hi hz0 hz1 hz2 rfl (by decide) v kl.length (flatK kl) hs hv ⟨g, 0, none⟩ 1 1 (ints .u8 k).toList hx (by rw [ints_toList, hk]) (by
    intro j u hj
    rw [Array.getElem?_toList] at hj
    rw [addr_add, Nat.zero_add]
    exact hg.cell hj) (oneCell_ints _ _) (by unfold maxLen; omega) (by omega) hbase ?_
  intro v' w' h1 h2 _ h4
  have hrow : KRow base (kl ++ [k]) v' w' := by
    unfold KRow
    rw [List.length_append]
    have : flatK (kl ++ [k]) = flatK kl ++ (ints .u8 k).toList := by simp [flatK]
    rw [this]
    exact h1
  rw [krow_blk hv] at h2
  rw [krow_blk hrow, krow_blk hv] at h4
  obtain ⟨g', cap, rfl⟩ := ownsRow_succ h1
  exact hk' _ _ _ w' hrow h2 h4
end
theorem run_makeK (c : Nat) (hc : c < 1000000) (w : World) : ∃ MC : Array Value, MC.size = c * 32 ∧ (Instr.makeSlice 117 (.int .i64 0) (.int .i64 (c : Int))).run Tryd.prog w = .ok (.slice (some ⟨w.heap.size, 0, none⟩) 0 c) (w.alloc (.cells MC 22)) := by
  obtain ⟨i0, hi, hz0, hz1, hz2⟩ := info_parts key_parts
  have h := run_make (P := Tryd.prog) w 117 22 i0 _ Tryd.underlying117 hi hz0 .i64 .i64 0 (c : Int) (Int.le_refl _) (by omega) (by rw [hz2]; omega) (by omega)
  rw [hz1, Int.toNat_natCast] at h
  exact ⟨_, size_madeCells _ _, h⟩
theorem krow_made (w : World) (base c : Nat) (MC : Array Value) (hM : MC.size = c * 32) (hc : c < 1000000) (hb : base ≤ w.heap.size) : KRow base [] (.slice (some ⟨w.heap.size, 0, none⟩) 0 c) (w.alloc (.cells MC 22)) :=
  ⟨rfl, .inr ⟨w.heap.size, c, MC, rfl, hb, heap_new w _, Nat.zero_le _, Nat.le_of_lt (Nat.lt_of_lt_of_le hc (by decide)), hM, by simp [flatK]⟩⟩
/-- The keys of a key and bytes. -/
def keysL (key b : List Nat) (n : Nat) : List (List Nat) := (List.range n).map fun i => tL (macL key b) [] (i + 1)
theorem keysL_len (key b : List Nat) (n : Nat) : (keysL key b n).length = n := by simp [keysL]
theorem chunks_keys (key b : List Nat) (n : Nat) (hn : n ≤ 255) (X : List Nat) (hX : X = expL (macL key b) [] (32 * n)) : (chunks X n).map (·.1) = keysL key b n := by
  have hl : X.length = 32 * n := by rw [hX]; exact expL_len _ _ _ (by omega)
  unfold chunks keysL
  rw [List.map_map]
  refine List.map_congr_left fun i hi => ?_
  have hi' : i < n := by simpa using hi
  show (chunkK X i).1 = _
  have hX' : X = tsL (macL key b) [] n := by rw [hX, ← expL_of _ _ n (32 * n) hn (Nat.le_refl _), List.take_of_length_le (by rw [tsL_len]; exact Nat.le_refl _)]
  rw [chunkK_val hl hi', hX', tsL_cut _ _ n i hi']
theorem blk_own {β : Type} (B : Nat) (Bx : Nat) (t : TypeId) (C : Array Value) : OwnFrom B (fun (_ : β) W => Blk W Bx t C) := fun s W W' row hs hg hr => (hg.block Bx hs.lt (fun e => by
  obtain ⟨_, o, ho, hc⟩ := hr Bx e.symm
  rw [show W.heap[Bx]? = _ from hs] at ho
  cases ho
  cases hc)).trans hs

theorem flatK_at : ∀ (kl : List (List Nat)), (∀ k ∈ kl, k.length = 32) → ∀ (i : Nat) (k : List Nat), kl[i]? = some k → ∀ (j : Nat) (v : Value), (ints .u8 k)[j]? = some v → (flatK kl)[i * 32 + j]? = some v
  | [], _, i, b, h, _, _, _ => by simp at h
  | x :: r, hall, 0, b, h, j, v, hv => by
    simp at h
    subst h
    have hj : j < (ints .u8 x).toList.length := by have := (Array.getElem?_eq_some_iff.1 hv).1; simpa using this
    unfold flatK
    rw [List.flatMap_cons, Nat.zero_mul, Nat.zero_add, List.getElem?_append_left hj, Array.getElem?_toList]
    exact hv
  | x :: r, hall, i + 1, b, h, j, v, hv => by
    have hx : (ints .u8 x).toList.length = 32 := by rw [ints_toList]; exact hall x List.mem_cons_self
    unfold flatK
    rw [List.flatMap_cons, List.getElem?_append_right (by omega), hx, show (i + 1) * 32 + j - 32 = i * 32 + j from by omega]
    exact flatK_at r (fun b hb => hall b (List.mem_cons_of_mem _ hb)) i b (by simpa using h) j v hv
/-- Keys that a slice holds. -/
def KeysV (v : Value) (w : World) (kl : List (List Nat)) : Prop := ∃ p c, v = .slice p kl.length c ∧ kl.length ≤ c ∧ (kl ≠ [] → ∃ g cur, p = some ⟨g, 0, none⟩ ∧ Blk w g 22 cur ∧ ∀ (i : Nat) (k : List Nat), kl[i]? = some k → ∀ (j : Nat) (u : Value), (ints .u8 k)[j]? = some u → cur[i * 32 + j]? = some u)
theorem KRow.keys {base : Nat} {kl : List (List Nat)} {v : Value} {w : World} (h : KRow base kl v w) (hall : ∀ k ∈ kl, k.length = 32) : KeysV v w kl := by
  obtain ⟨h1, h2⟩ := h
  rcases h2 with ⟨rfl, h0⟩ | ⟨g, cap, cur, rfl, hb, hg, hc, hm, hs, ht⟩
  · have : kl = [] := List.eq_nil_of_length_eq_zero h0
    subst this
    exact ⟨none, 0, rfl, Nat.le_refl _, fun hne => absurd rfl hne⟩
  · refine ⟨_, cap, rfl, hc, fun _ => ⟨g, cur, rfl, hg, fun i b hi j v hv => ?_⟩⟩
    have h3 := flatK_at kl hall i b hi j v hv
    rw [← ht, List.getElem?_take] at h3
    split at h3
    · rwa [Array.getElem?_toList] at h3
    · cases h3
theorem KeysV.under {v : Value} {w w' : World} {kl : List (List Nat)} (h : KeysV v w kl) (hb : Below w.heap.size w w') : KeysV v w' kl := by
  obtain ⟨p, c, rfl, h2, h3⟩ := h
  refine ⟨p, c, rfl, h2, fun hne => ?_⟩
  obtain ⟨g, cur, rfl, e2, e3⟩ := h3 hne
  exact ⟨g, cur, rfl, e2.under hb, e3⟩
theorem KeysV.take {p : Option Addr} {l c m : Nat} {w : World} {kl : List (List Nat)} (h : KeysV (.slice p l c) w kl) (hm : m ≤ kl.length) : KeysV (.slice p m c) w (kl.take m) := by
  obtain ⟨p', c', e, h2, h3⟩ := h
  cases e
  refine ⟨p, c, by rw [List.length_take, Nat.min_eq_left hm], by rw [List.length_take]; omega, fun hne => ?_⟩
  have hne' : kl ≠ [] := fun e => hne (by rw [e]; simp)
  obtain ⟨g, cur, rfl, e2, e3⟩ := h3 hne'
  refine ⟨g, cur, rfl, e2, fun i k hi => e3 i k ?_⟩
  rw [List.getElem?_take] at hi
  split at hi
  · exact hi
  · cases hi
theorem sz_key (w : World) : (sizeOf 22).run Tryd.prog w = .ok 32 w := by kernel_rfl
theorem run_idxK {o : Oper} {a : Act} {x y : Operand} {i l c g : Nat} (ho : o.op = .indexAddr 117 x y) (hx : a.eval x = .slice (some ⟨g, 0, none⟩) l c) (hy : a.eval y = .int .i64 (i : Int)) (hi : i < l) (w : World) : (execOp a.eval o).run Tryd.prog w = .ok (.value (.pointer (some ⟨g, i * 32, none⟩))) w := by
  have h1 : ((i : Int) < (l : Int)) := by omega
  unfold execOp
  simp only [ho, hx, hy, Instr.indexAt]
  simp [asIntOf, run_underlying Tryd.underlying117, h1, sz_key, go_sem, Addr.add]
  rw [if_pos hi]
  by_cases h0 : i = 0
  · simp [h0]
  · have : ¬ i * 32 = 0 := by omega
    simp [h0, this]
section
variable {P : Program} {h : List Oper} {A0 A : Act} {W0 : World} {S : Nat → Option (Value → World → Prop)} {sp O : List Nat} {E : List (Nat × Nat)} {i : Nat} {o : Oper}
end
theorem keysL_32 (key b : List Nat) (n : Nat) : ∀ k ∈ keysL key b n, k.length = 32 := fun k hk => by
  simp only [keysL, List.mem_map] at hk
  obtain ⟨i, _, rfl⟩ := hk
  exact tL_len _ _ i
end Go.Proofs.YtjkdonjcngmjeaaDoor.sh
