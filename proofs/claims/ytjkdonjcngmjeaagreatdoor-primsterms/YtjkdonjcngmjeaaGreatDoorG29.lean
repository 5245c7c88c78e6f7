/-
  General pieces, joined: DH DI DJ DK DL XV DM DN MA.
-/
import Derived.Test.YtjkdonjcngmjeaaGreatDoorG28
import Derived.Handy
/-
  (*Table).All, (*Table).Dh.
-/
namespace Go.Proofs.YtjkdonjcngmjeaaGreatDoor.sh
open Go Go.RowKit Go.Maps
set_option linter.unusedVariables false
set_option linter.unusedSimpArgs false

theorem dhL_part (ts : List TermL) (a b : List Nat) : dhL ts a b = (match partX ts b with
    | some (2, [y]) => ((putL ts (3, sort2 a y)).1, (putL ts (3, sort2 a y)).2, decide ((putL ts (3, sort2 a y)).2 ≠ []))
    | _ => (ts, [], false)) := by
  unfold dhL partX
  by_cases h : findN ts.length b = 0
  · rw [if_pos h]
    split
    · rw [if_pos h]
    · rfl
  · rw [if_neg h]
    generalize ts[findN ts.length b - 1]? = q
    split
    · rw [if_neg h]; rfl
    · next hq =>
      split
      · next y => exact absurd rfl (hq y)
      · rfl
theorem dhL_none {ts : List TermL} {a b : List Nat} (h : partX ts b = none) : dhL ts a b = (ts, [], false) := by rw [dhL_part, h]
theorem dhL_kind {ts : List TermL} {a b : List Nat} {t : TermL} (h : partX ts b = some t) (hk : t.1 ≠ 2) : dhL ts a b = (ts, [], false) := by
  rw [dhL_part, h]
  obtain ⟨k, p⟩ := t
  have hk' : k ≠ 2 := hk
  split
  · next y e => cases e; exact absurd rfl hk'
  · rfl
theorem dhL_two {ts : List TermL} {a b y : List Nat} (h : partX ts b = some (2, [y])) : dhL ts a b = ((putL ts (3, sort2 a y)).1, (putL ts (3, sort2 a y)).2, decide ((putL ts (3, sort2 a y)).2 ≠ [])) := (dhL_part ts a b).trans (by rw [h]; rfl)
theorem partX_mem {ts : List TermL} {b : List Nat} {t : TermL} (h : partX ts b = some t) : t ∈ ts := by
  unfold partX at h
  split at h
  · cases h
  · exact List.mem_of_getElem? h
theorem putL_bytes (ts : List TermL) (t : TermL) : Bytes (putL ts t).2 := by
  by_cases hF : Fits t.2
  · by_cases hm : t ∈ ts
    · rw [putL_old hF hm]; exact termN_bytes _
    · rw [putL_new hF hm]; exact termN_bytes _
  · rw [putL_not hF]; exact nil_bytes
theorem putL_len32 (ts : List TermL) (t : TermL) : (putL ts t).2.length ≤ 32 := by
  by_cases hF : Fits t.2
  · by_cases hm : t ∈ ts
    · rw [putL_old hF hm]; exact Nat.le_of_eq (termN_len _)
    · rw [putL_new hF hm]; exact Nat.le_of_eq (termN_len _)
  · rw [putL_not hF]; exact Nat.zero_le _
theorem run_sleq {l m : List Nat} (hl : Bytes l) (hm : Bytes m) (w : World) : (Op.stringOp .leq (strOf l) (strOf m)).run Tryz.prog w = .ok (.bool (lessL l m || decide (l = m))) w := by
  rw [← sa_less hl hm, ← sa_beq hl hm]
  simp [Op.stringOp]
theorem run_sgeq {l m : List Nat} (hl : Bytes l) (hm : Bytes m) (w : World) : (Op.stringOp .geq (strOf l) (strOf m)).run Tryz.prog w = .ok (.bool (!lessL l m)) w := by
  rw [← sa_less hl hm]
  simp [Op.stringOp]
theorem run_smin {o : Oper} {a : Act} {x y : Operand} {l m z : List Nat} {ts : Array TypeId} (ho : o.op = .call { callee := .builtin .min, args := #[x, y], argTypes := ts }) (hx : a.eval x = .string (strOf l)) (hy : a.eval y = .string (strOf m)) (hl : Bytes l) (hm : Bytes m) (hz : z = if lessL m l = true then m else l) (w : World) : (execOp a.eval o).run Tryz.prog w = .ok (.value (.string (strOf z))) w := by
  have h : (Builtin.min_ ts o.type #[.string (strOf l), .string (strOf m)]).run Tryz.prog w = .ok (.string (strOf z)) w := by
    have e := run_sleq hl hm w
    rw [hz]
    by_cases h1 : lessL m l = true
    · have h2 := lessL_asym _ _ h1
      have h3 : l ≠ m := fun h => by rw [h, lessL_irrefl] at h1; cases h1
      simp [Builtin.min_, Builtin.min2, e, asBool, h1, h2, h3]
    · have h1' : lessL m l = false := by simpa using h1
      by_cases h2 : lessL l m = true
      · have h3 : l ≠ m := fun h => by rw [h, lessL_irrefl] at h2; cases h2
        simp [Builtin.min_, Builtin.min2, e, asBool, h1', h2, h3]
      · have h2' : lessL l m = false := by simpa using h2
        have h3 := lessL_tri l m h2' h1'
        subst h3
        simp [Builtin.min_, Builtin.min2, e, asBool, h1']
  unfold execOp
  simp only [ho, resolve, invoke, builtin, Sem.run_bind, Sem.run_pure, Result.andThen_ok, List.map_toArray, List.map_cons, List.map_nil, hx, hy, h]
theorem run_smax {o : Oper} {a : Act} {x y : Operand} {l m z : List Nat} {ts : Array TypeId} (ho : o.op = .call { callee := .builtin .max, args := #[x, y], argTypes := ts }) (hx : a.eval x = .string (strOf l)) (hy : a.eval y = .string (strOf m)) (hl : Bytes l) (hm : Bytes m) (hz : z = if lessL l m = true then m else l) (w : World) : (execOp a.eval o).run Tryz.prog w = .ok (.value (.string (strOf z))) w := by
  have h : (Builtin.max_ ts o.type #[.string (strOf l), .string (strOf m)]).run Tryz.prog w = .ok (.string (strOf z)) w := by
    have e := run_sgeq hl hm w
    rw [hz]
    by_cases h1 : lessL m l = true
    · have h2 := lessL_asym _ _ h1
      have h3 : l ≠ m := fun h => by rw [h, lessL_irrefl] at h1; cases h1
      simp [Builtin.max_, Builtin.max2, e, asBool, h1, h2, h3]
    · have h1' : lessL m l = false := by simpa using h1
      by_cases h2 : lessL l m = true
      · have h3 : l ≠ m := fun h => by rw [h, lessL_irrefl] at h2; cases h2
        simp [Builtin.max_, Builtin.max2, e, asBool, h1', h2, h3]
      · have h2' : lessL l m = false := by simpa using h2
        have h3 := lessL_tri l m h2' h1'
        subst h3
        simp [Builtin.max_, Builtin.max2, e, asBool, h1']
  unfold execOp
  simp only [ho, resolve, invoke, builtin, Sem.run_bind, Sem.run_pure, Result.andThen_ok, List.map_toArray, List.map_cons, List.map_nil, hx, hy, h]
theorem sort2_min (a y : List Nat) : sort2 a y = [if lessL y a = true then y else a, if lessL a y = true then y else a] := by
  unfold sort2
  by_cases h1 : lessL y a = true
  · rw [if_pos h1, if_pos h1, if_neg (by rw [lessL_asym _ _ h1]; decide)]
  · by_cases h2 : lessL a y = true
    · rw [if_neg h1, if_neg h1, if_pos h2]
    · rw [if_neg h1, if_neg h1, if_neg h2, lessL_tri a y (by simpa using h2) (by simpa using h1)]
/-- A public key has one part, of bytes, short enough. -/
theorem pub_form {ts : List TermL} (h : Terms ts) {t : TermL} (ht : t ∈ ts) (hk : t.1 = 2) : ∃ y, t = (2, [y]) ∧ Bytes y ∧ y.length ≤ 4000 := by
  obtain ⟨k, ps⟩ := t
  have hk' : k = 2 := hk
  subst hk'
  have hf := h.2 _ ht
  have hF := h.1.2 _ ht
  rcases hf.2 with ⟨e, _⟩ | ⟨_, y, e⟩ | ⟨e, _⟩ | e | e
  · cases e
  · have e' : ps = [y] := e
    subst e'
    exact ⟨y, rfl, hf.1 y (by simp), hF.2.1 y (by simp)⟩
  · cases e
  · cases e
  · cases e
set_option maxRecDepth 100000 in
set_option maxHeartbeats 4000000 in
theorem DhD {tb B : Nat} {ts : List TermL} {M : Nat → Prop} {a b : List Nat} {w : World} (hT : Tab tb B ts M w) (ha : Bytes a) (hb : Bytes b) (hal : a.length ≤ maxLen) (hbl : b.length ≤ maxLen) (hn : ts.length < 1000000) :
    Calls Tryz.prog 20 #[.pointer (some ⟨tb, 0, none⟩), .string (strOf a), .string (strOf b)] w fun e w' => e = .returned (.tuple #[.string (strOf (dhL ts a b).2.1), .bool (dhL ts a b).2.2]) ∧ Puts tb B ts M w (dhL ts a b).1 w' := by
  have CP := PartsD hT hb hbl hn
  obtain ⟨x, hx⟩ : ∃ x, x = partX ts b := ⟨_, rfl⟩
  rw [← hx] at CP
  have stay : ∀ w', dhL ts a b = (ts, [], false) → Below w.heap.size w w' → Ending.returned (.tuple #[.string .empty, .bool false]) = .returned (.tuple #[.string (strOf (dhL ts a b).2.1), .bool (dhL ts a b).2.2]) ∧ Puts tb B ts M w (dhL ts a b).1 w' := fun w' e q => by
    rw [e]
    exact ⟨rfl, M, hT.under q, Turn.of_below q⟩
  have KS : Kept _ := ⟨stay⟩
  have KT : Kept _ := ⟨hT⟩
  clear stay
  cases x with
  | none =>
    have KD : Kept _ := ⟨dhL_none (a := a) hx.symm⟩
    have KC : Kept _ := ⟨CP⟩
    clear hx CP hT hn
    go_enter Tryz.func20, Tryz.ntmps20
    go_wp2_with fail
    refine KC.out.mono ?_
    rintro e w1 ⟨rfl, q1⟩
    go_wp2_with fail
    refine bodyPost_ret (v := .tuple #[.string ⟨#[]⟩, .bool false]) (by simp [results, Tryz.results20, go_sem]) rfl ?_
    exact KS.out w1 KD.out q1
  | some t =>
    have hmem := partX_mem hx.symm
    by_cases hk : t.1 = 2
    case neg =>
      have KD : Kept _ := ⟨dhL_kind (a := a) hx.symm hk⟩
      obtain ⟨k, ps⟩ := t
      have hk' : ¬ k = 2 := hk
      have B1 : Kept (true = !decide (k = 2)) := ⟨by rw [decide_eq_false hk']; rfl⟩
      have KC : Kept _ := ⟨CP⟩
      clear hx CP hk hk' hmem hT hn
      go_enter Tryz.func20, Tryz.ntmps20
      go_wp2_with fail
      refine KC.out.mono ?_
      rintro e w1 ⟨⟨V, rfl, hV⟩, q1⟩
      obtain ⟨p, c, rfl, _⟩ := vals_form (vrow_vals hV) (strs_len ps)
      clear hV
      go_wp2_with (first | ((with_reducible refine wv_val (d := 24) ?hd ?hw (.bool true) ?hr ?_); (case hd => rfl); (case hw => kernel_rfl); (case hr => intro w; exact run_neU (n := 2) rfl (by kernel_rfl) rfl B1.out w); simp only [Act.put, List.setIfInBounds_toArray, List.set_cons_succ, List.set_cons_zero]))
      refine bodyPost_ret (v := .tuple #[.string ⟨#[]⟩, .bool false]) (by simp [results, Tryz.results20, go_sem]) rfl ?_
      exact KS.out w1 KD.out q1
    case pos =>
      obtain ⟨y, rfl, hy, hyl⟩ := pub_form hT.terms hmem hk
      have hD := dhL_two (a := a) hx.symm
      have hs2 := sort2_min a y
      have hsb := sort2_bytes ha hy
      have NB := putL_bytes ts (3, sort2 a y)
      obtain ⟨P, hP⟩ : ∃ P, P = (putL ts (3, sort2 a y)).2 := ⟨_, rfl⟩
      rw [hD, ← hP]
      rw [← hP] at NB
      have hf3 : Formed (3, sort2 a y) := ⟨hsb, .inr (.inr (.inl ⟨rfl, sort2_two a y⟩))⟩
      have CN := fun w1 V (q : Below w.heap.size w w1) (hV : ValsV V w1 (strs (sort2 a y))) => nameD (k := 3) (hT.under q) hf3 hV (fun l h => by
        rw [hs2] at h
        simp at h
        rcases h with rfl | rfl <;> split <;> first | exact hal | (unfold maxLen; omega)) hn
      rw [← hP] at CN
      obtain ⟨z1, hz1⟩ : ∃ z, z = if lessL y a = true then y else a := ⟨_, rfl⟩
      obtain ⟨z2, hz2⟩ : ∃ z, z = if lessL a y = true then y else a := ⟨_, rfl⟩
      rw [← hz1, ← hz2] at hs2
      obtain ⟨F, hF⟩ : ∃ F, F = decide (P ≠ []) := ⟨_, rfl⟩
      have BF : Kept (F = !decide (P = [])) := ⟨by rw [hF]; exact decide_not⟩
      rw [← hF]
      have KN : Kept _ := ⟨CN⟩
      have Ks : Kept _ := ⟨hs2⟩
      have KC : Kept _ := ⟨CP⟩
      have KNB : Kept _ := ⟨NB⟩
      have K1 : Kept _ := ⟨hz1⟩
      have K2 : Kept _ := ⟨hz2⟩
      have Ka : Kept _ := ⟨ha⟩
      have Ky : Kept _ := ⟨hy⟩
      clear hx CP hk hmem hD hs2 hsb NB hP hf3 CN hz1 hz2 hF hT hn ha hy hb KS
      go_enter Tryz.func20, Tryz.ntmps20
      go_wp2_with fail
      refine KC.out.mono ?_
      rintro e w1 ⟨⟨V, rfl, hV⟩, q1⟩
      have hV1 := vrow_vals hV
      obtain ⟨p, c, rfl, _⟩ := vals_form hV1 (strs_len [y])
      obtain ⟨A, rfl, hAb, hcell⟩ := vals_at hV1 (show (strs [y])[0]? = some (.string (strOf y)) from rfl)
      have KCe : Kept _ := ⟨hcell⟩
      have B1 : Kept (false = !decide (2 = 2)) := ⟨rfl⟩
      have hlt : 0 < 1 := by decide
      clear hV hV1 hcell
      go_wp2_with (first | ((with_reducible refine wv_val (d := 24) ?hd ?hw (.bool false) ?hr ?_); (case hd => rfl); (case hw => kernel_rfl); (case hr => intro w; exact run_neU (m := 2) (n := 2) rfl (by kernel_rfl) rfl B1.out w); simp only [Act.put, List.setIfInBounds_toArray, List.set_cons_succ, List.set_cons_zero]) | ((with_reducible refine wv_val (d := 27) ?hd ?hw (.pointer (some (A.add 0))) ?hr ?_); (case hd => rfl); (case hw => kernel_rfl); (case hr => intro w; exact run_idxS (i := 0) (l := 1) rfl (by kernel_rfl) rfl Tryz.underlying43 hlt Tryz.sizeOf9 w); simp only [Act.put, List.setIfInBounds_toArray, List.set_cons_succ, List.set_cons_zero]) | ((with_reducible refine wv_elem (d := 28) ?hd ?hw 9 ag_str (.tmp 27) ?ho (A.add 0) ?hx (.string (strOf y)) ?hc ?_); (case hd => rfl); (case hw => kernel_rfl); (case ho => rfl); (case hx => kernel_rfl); (case hc => exact KCe.out); simp only [Act.put, List.setIfInBounds_toArray, List.set_cons_succ, List.set_cons_zero]) | ((with_reducible refine wv_val (d := 32) ?hd ?hw (.string (strOf z1)) ?hr ?_); (case hd => rfl); (case hw => kernel_rfl); (case hr => intro w; exact run_smin rfl (by kernel_rfl) (by kernel_rfl) Ka.out Ky.out K1.out w); simp only [Act.put, List.setIfInBounds_toArray, List.set_cons_succ, List.set_cons_zero]) | ((with_reducible refine wv_val (d := 35) ?hd ?hw (.string (strOf z2)) ?hr ?_); (case hd => rfl); (case hw => kernel_rfl); (case hr => intro w; exact run_smax rfl (by kernel_rfl) (by kernel_rfl) Ka.out Ky.out K2.out w); simp only [Act.put, List.setIfInBounds_toArray, List.set_cons_succ, List.set_cons_zero]) | (refine wl_bs2 (by kernel_rfl) (.tmp 32) (.tmp 35) rfl (z1) (z2) (by kernel_rfl) (by kernel_rfl) ?_; simp only [Act.put, List.setIfInBounds_toArray, List.set_cons_succ, List.set_cons_zero]))
      have q2 := q1.trans (((Below.refl w1.heap.size w1).alloc (Nat.le_refl _) (.cells #[.string (strOf z1), .string (strOf z2)] 9)).mono q1.size)
      refine (KN.out _ _ q2 (by rw [Ks.out]; exact new2 z1 z2 w1)).mono ?_
      rintro e w3 ⟨rfl, hPu⟩
      have KPu : Kept _ := ⟨hPu⟩
      clear hPu
      go_wp2_with (first | ((with_reducible refine wv_val (d := 40) ?hd ?hw (.bool F) ?hr ?_); (case hd => rfl); (case hw => kernel_rfl); (case hr => intro w; exact run_sneq (m := []) rfl (by kernel_rfl) rfl KNB.out nil_bytes BF.out w); simp only [Act.put, List.setIfInBounds_toArray, List.set_cons_succ, List.set_cons_zero]))
      refine bodyPost_ret (v := .tuple #[.string (strOf P), .bool F]) (by simp [results, Tryz.results20, go_sem]) rfl ?_
      exact ⟨rfl, KPu.out.from q2⟩
end Go.Proofs.YtjkdonjcngmjeaaGreatDoor.sh
/-
  Acts among the arguments; heavy; the reference's Name.
-/
namespace Go.Proofs.YtjkdonjcngmjeaaGreatDoor.sh
open Go Go.ChangeShapes Go.WideShapes Go.ChangeAt Go.RowKit
set_option linter.unusedVariables false
set_option linter.unusedSimpArgs false

/-- An act's cells. -/
def actA (x : ActL) : Array Value := #[.int .u8 (x.kind : Int), .int .u8 (x.a : Int), .int .u8 (x.b : Int), .int .u64 (x.n : Int), .string (strOf x.s), .bool x.raw]
/-- Acts that a slice holds. -/
def ActsV (v : Value) (w : World) (l : List ActL) : Prop := ∃ p c, v = .slice p l.length c ∧ l.length ≤ c ∧ (l ≠ [] → ∃ A, p = some A ∧ A.block < w.heap.size ∧ ∀ (j : Nat) (x : ActL), l[j]? = some x → ∀ (f : Nat) (u : Value), (actA x)[f]? = some u → w.cell? (A.add (j * 6 + f)) = some u)
theorem ActsV.under {v : Value} {w w' : World} {l : List ActL} (h : ActsV v w l) (hb : Below w.heap.size w w') : ActsV v w' l := by
  obtain ⟨p, c, rfl, hlc, hp⟩ := h
  refine ⟨p, c, rfl, hlc, fun hne => ?_⟩
  obtain ⟨A, rfl, hA, hc⟩ := hp hne
  exact ⟨A, rfl, Nat.lt_of_lt_of_le hA hb.size, fun j x hx f u hu => (hb.cell (by rw [add_block]; exact hA)).trans (hc j x hx f u hu)⟩
section
variable {ops : Array Oper} {rest : List Oper} {o : Oper} {a : Act} {w : World} {Q : Exit → Act → World → Prop} {d : Nat}
end
end Go.Proofs.YtjkdonjcngmjeaaGreatDoor.sh
/-
  What the document fixes of tables: alive of law 9.
-/
namespace Go.Proofs.YtjkdonjcngmjeaaGreatDoor.sh
open Go Go.RowKit
set_option linter.unusedVariables false
set_option linter.unusedSimpArgs false

theorem PubE {tb B : Nat} {ts us : List TermL} {N s : List Nat} {M : Nat → Prop} {S : ByteArray} {w : World} (hT : Tab tb B ts M w) (hs : Bytes s) (hl : s.length ≤ maxLen) (hn : ts.length < 1000000) (hp : putL ts (2, [s]) = (us, N)) (hS : S = strOf s) :
    Calls Tryz.prog 21 #[.pointer (some ⟨tb, 0, none⟩), .string S] w fun e w' => e = .returned (.string (strOf N)) ∧ Puts tb B ts M w us w' := by
  have h := PubD hT hs hl hn
  rw [hp] at h
  rw [hS]
  exact h

theorem DhE {tb B : Nat} {ts us : List TermL} {N a b : List Nat} {F : Bool} {M : Nat → Prop} {w : World} (hT : Tab tb B ts M w) (ha : Bytes a) (hb : Bytes b) (hal : a.length ≤ maxLen) (hbl : b.length ≤ maxLen) (hn : ts.length < 1000000) (hd : dhL ts a b = (us, N, F)) :
    Calls Tryz.prog 20 #[.pointer (some ⟨tb, 0, none⟩), .string (strOf a), .string (strOf b)] w fun e w' => e = .returned (.tuple #[.string (strOf N), .bool F]) ∧ Puts tb B ts M w us w' := by
  have h := DhD hT ha hb hal hbl hn
  rw [hd] at h
  exact h
theorem PartsE {tb B : Nat} {ts : List TermL} {k : Nat} {ll : List (List Nat)} {s : List Nat} {M : Nat → Prop} {w : World} (hT : Tab tb B ts M w) (hs : Bytes s) (hl : s.length ≤ maxLen) (hn : ts.length < 1000000) (hx : partX ts s = some (k, ll)) :
    Calls Tryz.prog 24 #[.pointer (some ⟨tb, 0, none⟩), .string (strOf s)] w fun e w' => (∃ V, e = .returned (.tuple #[.int .u8 (k : Int), V, .bool true]) ∧ VRow w.heap.size 9 (strs ll) V w') ∧ Below w.heap.size w w' := by
  have h := PartsD hT hs hl hn
  rw [hx] at h
  exact h
def T1 : List TermL := [(1, [[97]])]
def T2 : List TermL := [(1, [[97]]), (1, [[98]])]
def T3 : List TermL := [(1, [[97]]), (1, [[98]]), (2, [termN 1])]
def T4 : List TermL := [(1, [[97]]), (1, [[98]]), (2, [termN 1]), (3, [termN 1, termN 2])]
end Go.Proofs.YtjkdonjcngmjeaaGreatDoor.sh
/-
  TermNobody.
-/
namespace Go.Proofs.YtjkdonjcngmjeaaGreatDoor.sh
open Go Go.RowKit
set_option linter.unusedVariables false
set_option linter.unusedSimpArgs false

end Go.Proofs.YtjkdonjcngmjeaaGreatDoor.sh
/-
  What an act picks: made$1; calls of a closure.
-/
namespace Go.Proofs.YtjkdonjcngmjeaaGreatDoor.sh
open Go Go.RowKit
set_option linter.unusedVariables false
set_option linter.unusedSimpArgs false

section
variable {P : Program} {ops : Array Oper} {Q : Exit → Act → World → Prop} {a : Act} {w : World} {rest : List Oper} {o : Oper}
end
section
variable {P : Program} {h : List Oper} {A0 A : Act} {W0 : World} {S : Nat → Option (Value → World → Prop)} {sp O : List Nat} {E : List (Nat × Nat)} {i : Nat} {o : Oper}
end
end Go.Proofs.YtjkdonjcngmjeaaGreatDoor.sh
/-
  Regions that draw their order, whose last operations come in more than one order too: behind the head they are walked order by order.
-/
namespace Go.Proofs.YtjkdonjcngmjeaaGreatDoor
open Go Go.RowKit
set_option linter.unusedVariables false
set_option linter.unusedSimpArgs false
section
variable {P : Program} {Q : Exit → Act → World → Prop} {h t : List Oper}
end
end Go.Proofs.YtjkdonjcngmjeaaGreatDoor
namespace Go.Proofs.YtjkdonjcngmjeaaGreatDoor.sh
open Go Go.RowKit
set_option linter.unusedVariables false
set_option linter.unusedSimpArgs false
end Go.Proofs.YtjkdonjcngmjeaaGreatDoor.sh
/-
  What an act makes of a table.
-/
namespace Go.Proofs.YtjkdonjcngmjeaaGreatDoor.sh
open Go Go.RowKit
set_option linter.unusedVariables false
set_option linter.unusedSimpArgs false

section
variable {h : List Oper} {A0 A : Act} {W0 : World} {S : Nat → Option (Value → World → Prop)} {sp O : List Nat} {E : List (Nat × Nat)} {i : Nat} {o : Oper}
/-- Three texts in a slice of their own, in a region that draws its order. -/
theorem ow_bs3 (hA : Full h A0 A S sp) (hw : Wants h A0 A S O E W0.heap.size i o) (d x0 x1 x2 : Nat) (s0 s1 s2 : List Nat) (hd : o.dst = some d) (ho : o.op = .buildSlice 43 3 #[(0, .tmp x0), (1, .tmp x1), (2, .tmp x2)]) (hw0 : waitsFor h o x0 = true) (hw1 : waitsFor h o x1 = true) (hw2 : waitsFor h o x2 = true)
    (h0 : A.tmps[x0]? = some (.string (strOf s0))) (h1 : A.tmps[x1]? = some (.string (strOf s1))) (h2 : A.tmps[x2]? = some (.string (strOf s2))) (c0 : sp.contains x0 = false) (c1 : sp.contains x1 = false) (c2 : sp.contains x2 = false)
    (E0 : (E.all fun q => q.2 != x0 || q.1 == i) = true) (E1 : (E.all fun q => q.2 != x1 || q.1 == i) = true) (E2 : (E.all fun q => q.2 != x2 || q.1 == i) = true) (hO : O.contains d = false) (hp : S d = some (fun v w => ValsV v w (strs [s0, s1, s2]))) : OwnOk Tryz.prog h A0 W0 (relR A S) O E i o :=
  ow_run hw d hd fun a w hF hB hgot => by
    have e0 := gotE_det hA hgot hw0 c0 E0 h0
    have e1 := gotE_det hA hgot hw1 c1 E1 h1
    have e2 := gotE_det hA hgot hw2 c2 E2 h2
    refine ⟨_, _, none, ?_, rel_spec _ hp (new3 s0 s1 s2 w), grown_none ((Below.refl _ _).alloc (Nat.le_refl _) _), fun b hb => (by cases hb), fun h3 => by rw [hO] at h3; cases h3⟩
    unfold execOp
    simp only [ho]
    simp [e0, e1, e2, run_bs3]
end
theorem HashE {tb B : Nat} {ts us : List TermL} {N : List Nat} {M : Nat → Prop} {ll : List (List Nat)} {V : Value} {w : World} (hT : Tab tb B ts M w) (hy : ∀ l ∈ ll, Bytes l) (hV : ValsV V w (strs ll)) (hl : ∀ l ∈ ll, l.length ≤ maxLen) (hn : ts.length < 1000000) (hp : putL ts (4, ll) = (us, N)) :
    Calls Tryz.prog 22 #[.pointer (some ⟨tb, 0, none⟩), V] w fun e w' => e = .returned (.string (strOf N)) ∧ Puts tb B ts M w us w' := by
  have h := HashD hT hy hV hl hn
  rw [hp] at h
  exact h
theorem SealE {tb B n : Nat} {ts us : List TermL} {N : List Nat} {M : Nat → Prop} {k a t : List Nat} {w : World} (hT : Tab tb B ts M w) (hn64 : n < 18446744073709551616) (hk : Bytes k) (ha : Bytes a) (ht : Bytes t) (hkl : k.length ≤ maxLen) (hal : a.length ≤ maxLen) (htl : t.length ≤ maxLen) (hn : ts.length < 1000000) (hp : putL ts (5, [k, numL n, a, t]) = (us, N)) :
    Calls Tryz.prog 23 #[.pointer (some ⟨tb, 0, none⟩), .string (strOf k), .int .u64 (n : Int), .string (strOf a), .string (strOf t)] w fun e w' => e = .returned (.string (strOf N)) ∧ Puts tb B ts M w us w' := by
  have h := SealD hT hn64 hk ha ht hkl hal htl hn
  rw [hp] at h
  exact h
end Go.Proofs.YtjkdonjcngmjeaaGreatDoor.sh
/-
  The reference's Find; slices of terms made; TermRefused.
-/
namespace Go.Proofs.YtjkdonjcngmjeaaGreatDoor.sh
open Go Go.RowKit
set_option linter.unusedVariables false
set_option linter.unusedSimpArgs false

end Go.Proofs.YtjkdonjcngmjeaaGreatDoor.sh
/-
  Regions that draw their order, of which several operations change an object that was there, one behind the other: each keeps what the others hold. Calls through an interface.
-/
namespace Go.Proofs.YtjkdonjcngmjeaaGreatDoor.sh
open Go Go.RowKit
set_option linter.unusedVariables false
set_option linter.unusedSimpArgs false

section
variable {G : Type}
/-- What is asked of an operation that changes the object: from the one class of worlds to the next one. -/
def PhaseOk (P : Program) (h : List Oper) (A0 : Act) (R : G → Nat → Value → World → Prop) (C C2 : G → World → Prop) (i : Nat) (o : Oper) : Prop := ∃ d, o.dst = some d ∧ ∀ g a w, Fr h A0 a → C g w → GotE h [] (R g) [] 0 i a w o →
  Region.wanted o (yielded h.toArray a.tmps) = true ∧ o.wp P a w (fun a' w' => ∃ v g', a' = a.put (some d) v ∧ R g' d v w' ∧ C2 g' w' ∧ ∀ d' v', d' ≠ d → R g d' v' w → R g' d' v' w') (fun _ _ _ => False)
def PhaseAll (P : Program) (h : List Oper) (A0 : Act) (R : G → Nat → Value → World → Prop) (C : Nat → G → World → Prop) (ch : List Nat) : Nat → List Oper → Prop
  | _, [] => True
  | i, o :: r => ((ch.contains i = false ∧ ∀ k g W1, C k g W1 → OwnOk P h A0 W1 (R g) [] [] i o) ∨ ∃ k, ch[k]? = some i ∧ PhaseOk P h A0 R (C k) (C (k + 1)) i o) ∧ PhaseAll P h A0 R C ch (i + 1) r
theorem phaseAll_get {P : Program} {h : List Oper} {A0 : Act} {R : G → Nat → Value → World → Prop} {C : Nat → G → World → Prop} {ch : List Nat} : ∀ (r : List Oper) (k : Nat), PhaseAll P h A0 R C ch k r → ∀ i o, r[i]? = some o → (ch.contains (k + i) = false ∧ ∀ j g W1, C j g W1 → OwnOk P h A0 W1 (R g) [] [] (k + i) o) ∨ ∃ j, ch[j]? = some (k + i) ∧ PhaseOk P h A0 R (C j) (C (j + 1)) (k + i) o
  | [], _, _, i, o, ho => by simp at ho
  | x :: r, k, hr, 0, o, ho => by simp at ho; subst ho; exact hr.1
  | x :: r, k, hr, i + 1, o, ho => by
    have := phaseAll_get r (k + 1) hr.2 i o (by simpa using ho)
    rwa [show k + 1 + i = k + (i + 1) from by omega] at this
/-- Operation t waits for s, through whatever lies between. -/
def reachB (h : List Oper) (s : Nat) : Nat → Nat → Bool
  | 0, _ => false
  | f + 1, t => match h[t]? with
    | some o => o.after.any fun e => Region.binds .any e && (e.on == s || (decide (s < e.on) && reachB h s f e.on))
    | none => false
def ClosedL (h : List Oper) (listed : Array Bool) : Prop := ∀ (i : Nat) (o : Oper), h[i]? = some o → listed.getD i false = true → ∀ x ∈ o.after, Region.binds .any x = true → listed.getD x.on false = true
theorem reach_listed {h : List Oper} {s : Nat} {listed : Array Bool} (hc : ClosedL h listed) : ∀ (f t : Nat) (o : Oper), h[t]? = some o → (∀ x ∈ o.after, Region.binds .any x = true → listed.getD x.on false = true) → reachB h s f t = true → listed.getD s false = true
  | 0, _, _, _, _, hr => by simp [reachB] at hr
  | f + 1, t, o, ho, hall, hr => by
    simp only [reachB, ho] at hr
    obtain ⟨x, hx, h1⟩ := Array.any_eq_true'.1 hr
    simp only [Bool.and_eq_true, Bool.or_eq_true, beq_iff_eq] at h1
    have h2 := hall x hx h1.1
    rcases h1.2 with h3 | ⟨_, h3⟩
    · rw [← h3]; exact h2
    · cases ho' : h[x.on]? with
      | none =>
        cases f with
        | zero => simp [reachB] at h3
        | succ f => simp [reachB, ho'] at h3
      | some o' => exact reach_listed hc f x.on o' ho' (hc x.on o' ho' h2) h3
/-- Each of the changing operations waits for the one ahead of it. -/
def chainB (h : List Oper) : List Nat → Bool
  | s :: t :: r => reachB h s 60 t && chainB h (t :: r)
  | _ => true
def nodupB : List Nat → Bool
  | [] => true
  | x :: r => !r.contains x && nodupB r
theorem nodupB_inj : ∀ {l : List Nat}, nodupB l = true → ∀ {i j x : Nat}, l[i]? = some x → l[j]? = some x → i = j
  | [], _, i, _, _, h, _ => by simp at h
  | y :: r, hn, i, j, x, hi, hj => by
    simp only [nodupB, Bool.and_eq_true, Bool.not_eq_true'] at hn
    have hnot : ∀ k, r[k]? = some y → False := fun k hk => by
      have := List.contains_iff_mem.2 (List.mem_of_getElem? hk)
      rw [hn.1] at this
      cases this
    cases i with
    | zero =>
      cases j with
      | zero => rfl
      | succ j => simp at hi hj; subst hi; exact (hnot j hj).elim
    | succ i =>
      cases j with
      | zero => simp at hi hj; subst hj; exact (hnot i hi).elim
      | succ j => simp at hi hj; rw [nodupB_inj hn.2 hi hj]
theorem chainB_at {h : List Oper} : ∀ {l : List Nat}, chainB h l = true → ∀ {k t : Nat}, l[k + 1]? = some t → ∃ s, l[k]? = some s ∧ reachB h s 60 t = true
  | [], _, k, t, ht => by simp at ht
  | [_], _, k, t, ht => by simp at ht
  | s :: t :: r, hc, k, u, hu => by
    simp only [chainB, Bool.and_eq_true] at hc
    cases k with
    | zero =>
      simp at hu
      subst hu
      exact ⟨s, rfl, hc.1⟩
    | succ k =>
      obtain ⟨s', h1, h2⟩ := chainB_at (l := t :: r) hc.2 (k := k) (by simpa using hu)
      exact ⟨s', by simpa using h1, h2⟩

theorem region_phase {P : Program} {Q : Exit → Act → World → Prop} {id : Nat} {a : Act} {w : World} (n : Nat) (ch : List Nat) {l : List Oper} (R : G → Nat → Value → World → Prop) (C : Nat → G → World → Prop) (ds : List Nat) (hm : P.follows .mixedOrders = true)
    (hE : edgesIn (l.take n) = true) (hG : guardsIn (l.take n) = true) (hI : dstsIn (l.take n) a.tmps.size = true) (hT : tailUnder (l.take n) (l.drop n) = true)
    (hS : Region.seqB .any l.toArray (l.drop n).length (l.take n).length (Array.replicate (l.take n).length true ++ Array.replicate (l.drop n).length false) = true)
    (hds : dstsOf (l.take n) = ds) (hcn : nodupB ch = true) (hcc : chainB (l.take n) ch = true) (hci : (ch.all fun s => decide (s < (l.take n).length)) = true)
    (hst : ∀ g d v w w', R g d v w → Below w.heap.size w w' → R g d v w') (hCb : ∀ k g w w', C k g w → Below w.heap.size w w' → C k g w') (g0 : G) (hC : C 0 g0 w)
    (hok : PhaseAll P (l.take n) a R C ch 0 (l.take n))
    (hfin : ∀ (f : Nat → Value) g w', (∀ d ∈ ds, R g d (f d) w') → C ch.length g w' → wpList P l.toArray Q (l.drop n) (putR a (ds.map fun d => (d, f d))) w') : (Code.region id l.toArray true).wp P Q a w := by
  have e : l.take n ++ l.drop n = l := List.take_append_drop n l
  refine wp_region_any hm ?_
  generalize hh : l.take n = h at *
  have main := wpAny_inv (P := P) (l := h) (Q := headPost P (h ++ l.drop n).toArray Q (l.drop n))
    (fun listed a' w' => Fr h a a' ∧ ClosedL h listed ∧ ∃ k g, k ≤ ch.length ∧ (∀ j s, ch[j]? = some s → listed.getD s false = decide (j < k)) ∧ C k g w' ∧ ∀ d, (∃ (i : Nat) (o : Oper), h[i]? = some o ∧ listed.getD i false = true ∧ o.dst = some d) → ∃ v, a'.tmps[d]? = some v ∧ R g d v w') hE
    (by
      intro listed a' w' i o hls hI' ho hun hall
      obtain ⟨hF, hcl, k, g, hkm, hph, hCw, hV⟩ := hI'
      have hil : i < listed.size := by rw [hls]; exact (List.getElem?_eq_some_iff.1 ho).1
      have hson : ∀ k, (listed.setIfInBounds i true).getD k false = if k = i then true else listed.getD k false := fun k => by
        by_cases hk : k = i
        · subst hk; simp [hil]
        · rw [if_neg hk, getD_set_ne false (Ne.symm hk)]
      have hgot : ∀ B, GotE h [] (R g) [] B i a' w' o := fun B d hs hq => by
        obtain ⟨x, hx, h1⟩ := Array.any_eq_true'.1 hs
        simp only [Bool.and_eq_true] at h1
        cases ho' : h[x.on]? with
        | none => simp [ho'] at h1
        | some o' =>
          obtain ⟨v, e1, e2⟩ := hV d ⟨x.on, o', ho', hall x hx h1.1, by simpa [ho'] using h1.2⟩
          exact ⟨v, e1, e2, fun hc => by simp at hc⟩
      have hun' : listed.getD i false = false := by simpa [hil] using hun
      have stab : ∃ d, o.dst = some d ∧ Region.wanted o (yielded h.toArray a'.tmps) = true ∧ o.wp P a' w' (fun a2 w2 => ∃ v k' g', a2 = a'.put (some d) v ∧ k' ≤ ch.length ∧ (∀ j s, ch[j]? = some s → (listed.setIfInBounds i true).getD s false = decide (j < k')) ∧ R g' d v w2 ∧ C k' g' w2 ∧ ∀ d' v', d' ≠ d → R g d' v' w' → R g' d' v' w2) (fun _ _ _ => False) := by
        rcases (by have := phaseAll_get h 0 hok i o ho; rwa [Nat.zero_add] at this : (ch.contains i = false ∧ ∀ j g W1, C j g W1 → OwnOk P h a W1 (R g) [] [] i o) ∨ ∃ j, ch[j]? = some i ∧ PhaseOk P h a R (C j) (C (j + 1)) i o) with ⟨his, h1⟩ | ⟨j, hj, h1⟩
        · obtain ⟨d, hd, hrun⟩ := h1 k g w' hCw
          obtain ⟨hwant, hwp⟩ := hrun a' w' hF (Below.refl _ _) (fun s hs hq => by
            obtain ⟨v, e1, e2, _⟩ := hgot 0 s hs hq
            exact ⟨v, e1, e2, fun hc => by simp at hc⟩)
          refine ⟨d, hd, hwant, wp_false ?_ hwp⟩
          rintro a3 w3 ⟨v, row, rfl, hR, hg, hrow, _⟩
          have hb := grown_empty hg (fun b hb => by obtain ⟨s', hs', _⟩ := hrow b hb; cases hs')
          refine ⟨v, k, g, rfl, hkm, fun j s hjs => ?_, hR, hCb _ _ _ _ hCw hb, fun d' v' _ h' => hst _ _ _ _ _ h' hb⟩
          have hsi : s ≠ i := fun hsi => by
            subst hsi
            have := List.contains_iff_mem.2 (List.mem_of_getElem? hjs)
            rw [his] at this
            cases this
          rw [hson s, if_neg hsi]
          exact hph j s hjs
        · have hnj : ¬ j < k := fun hjk => by
            have := hph j i hj
            rw [hun', decide_eq_true hjk] at this
            cases this
          have hjk : j = k := by
            cases j with
            | zero => omega
            | succ j =>
              obtain ⟨s, h2, h3⟩ := chainB_at hcc hj
              have h7 := reach_listed hcl 60 i o ho hall h3
              rw [hph j s h2] at h7
              have := of_decide_eq_true h7
              omega
          subst hjk
          obtain ⟨d, hd, hrun⟩ := h1
          obtain ⟨hwant, hwp⟩ := hrun g a' w' hF hCw (hgot 0)
          refine ⟨d, hd, hwant, wp_false ?_ hwp⟩
          rintro a3 w3 ⟨v, g', rfl, hR, hC2, hk⟩
          refine ⟨v, j + 1, g', rfl, (List.getElem?_eq_some_iff.1 hj).1, fun j' s hjs => ?_, hR, hC2, hk⟩
          rw [hson s]
          by_cases hsi : s = i
          · subst hsi
            rw [if_pos rfl, nodupB_inj hcn hjs hj]
            simp
          · rw [if_neg hsi, hph j' s hjs]
            have : j' ≠ j := fun e => hsi (by subst e; rw [hj] at hjs; exact (Option.some.inj hjs).symm)
            by_cases h8 : j' < j
            · rw [decide_eq_true h8, decide_eq_true (by omega)]
            · rw [decide_eq_false h8, decide_eq_false (by omega)]
      obtain ⟨d, hd, hwant, hwp⟩ := stab
      refine ⟨hwant, wp_false ?_ hwp⟩
      rintro a2 w2 ⟨v, k', g', rfl, hkm', hph', hR, hC2, hkeep⟩
      have hdl : d < a'.tmps.size := by
        have := List.all_eq_true.1 hI o (List.mem_of_getElem? ho)
        rw [hd] at this
        rw [hF.size]
        simpa using this
      have hother : ∀ d', d' ≠ d → (a'.put (some d) v).tmps[d']? = a'.tmps[d']? := fun d' hne => by simp [Act.put, Array.getElem?_setIfInBounds_ne (Ne.symm hne)]
      have hself : (a'.put (some d) v).tmps[d]? = some v := by simp [Act.put, hdl]
      refine ⟨⟨by rw [size_put]; exact hF.size, hF.defers, fun d' h' => ?_⟩, fun j o' ho' hl' x hx hb => ?_, k', g', hkm', hph', hC2, fun d' hL => ?_⟩
      · rw [hother d' (fun e2 => h' i o ho (by rw [hd, e2]))]
        exact hF.out d' h'
      · have h9 : listed.getD x.on false = true := by
          rw [hson j] at hl'
          split at hl'
          · next hji => subst hji; rw [ho] at ho'; cases ho'; exact hall x hx hb
          · exact hcl j o' ho' hl' x hx hb
        rw [hson x.on]
        split
        · rfl
        · exact h9
      · by_cases hdd : d' = d
        · subst hdd
          exact ⟨v, hself, hR⟩
        · obtain ⟨j, o', h1, h2, h3⟩ := hL
          rw [hother d' hdd]
          obtain ⟨u, e1, e2⟩ := hV d' ⟨j, o', h1, by
            rw [hson j] at h2
            split at h2
            · next hji => subst hji; rw [ho] at h1; cases h1; rw [hd] at h3; exact absurd (Option.some.inj h3).symm hdd
            · exact h2, h3⟩
          exact ⟨u, e1, hkeep _ _ hdd e2⟩)
    (by
      intro a' w' hI'
      obtain ⟨hF, _, k, g, hkm, hph, hCw, hV⟩ := hI'
      have hkl : k = ch.length := by
        by_cases hlt : k < ch.length
        · obtain ⟨s, hs⟩ : ∃ s, ch[k]? = some s := ⟨_, List.getElem?_eq_getElem hlt⟩
          have h1 := hph k s hs
          have h2 : s < h.length := of_decide_eq_true (List.all_eq_true.1 hci s (List.mem_of_getElem? hs))
          rw [decide_eq_false (Nat.lt_irrefl k)] at h1
          simp [h2] at h1
        · omega
      subst hkl
      have hsome : ∀ d ∈ ds, ∃ v, a'.tmps[d]? = some v ∧ R g d v w' := fun d hd => by
        rw [← hds] at hd
        obtain ⟨o, ho, hd'⟩ := List.mem_filterMap.1 hd
        obtain ⟨i, hi, he⟩ := List.getElem_of_mem ho
        exact hV d ⟨i, o, by rw [List.getElem?_eq_getElem hi, he], by simp [hi], hd'⟩
      have hfr := hfin (fun d => (a'.tmps[d]?).getD undef) g w' (fun d hd => by obtain ⟨v, h1, h2⟩ := hsome d hd; simp only [h1, Option.getD_some]; exact h2) hCw
      have ea : a' = putR a (ds.map fun d => (d, (a'.tmps[d]?).getD undef)) := by
        refine act_eq (Array.ext_getElem? fun d => ?_) (by rw [putR_defers]; exact hF.defers)
        by_cases hdl : d < a.tmps.size
        · rw [putR_get (fun d => (a'.tmps[d]?).getD undef) d ds a hdl]
          by_cases hd : d ∈ ds
          · rw [if_pos hd]
            obtain ⟨v, h1, _⟩ := hsome d hd
            simp [h1]
          · rw [if_neg hd]
            refine hF.out d fun i o ho hd' => hd ?_
            rw [← hds]
            exact List.mem_filterMap.2 ⟨o, List.mem_of_getElem? ho, hd'⟩
        · rw [Array.getElem?_eq_none (by rw [hF.size]; omega), Array.getElem?_eq_none (by rw [putR_size]; omega)]
      rw [← ea] at hfr
      show wpList P (h ++ l.drop n).toArray Q (l.drop n) a' w'
      rw [e]
      exact hfr)
    h.length (Array.replicate h.length false) a { w with drawn := w.drawn + 1 } (by simp) (by simp [open_])
    ⟨⟨rfl, rfl, fun _ _ => rfl⟩, fun i o _ hl => by
      exfalso
      rw [Array.getD_eq_getD_getElem?, Array.getElem?_replicate] at hl
      split at hl <;> simp at hl, 0, g0, Nat.zero_le _, fun j s _ => by
      rw [decide_eq_false (Nat.not_lt_zero j), Array.getD_eq_getD_getElem?, Array.getElem?_replicate]
      split <;> simp, hCb _ _ _ _ hC (Below.refl _ _).drew, fun d hL => by
      exfalso
      obtain ⟨i, o, _, hon, _⟩ := hL
      rw [Array.getD_eq_getD_getElem?, Array.getElem?_replicate] at hon
      split at hon <;> simp at hon⟩
  have h3 := lift_under (Q := Q) hE hG hT (by rw [e]; exact hS) h.length (Array.replicate h.length false) a _ (by simp) (by simp [open_]) (closed_none _) main
  rw [e] at h3
  have e1 : l.toArray.size = h.length + (l.drop n).length := by rw [← List.length_append, e]; simp
  rw [e1, show Array.replicate (h.length + (l.drop n).length) false = Array.replicate h.length false ++ Array.replicate (l.drop n).length false by simp]
  exact h3

def atG (L : List (Nat × (G → Value → World → Prop))) (g : G) : List (Nat × (Value → World → Prop)) := L.map fun p => (p.1, p.2 g)
theorem atG_fst (L : List (Nat × (G → Value → World → Prop))) (g : G) : (atG L g).map (·.1) = L.map (·.1) := by simp [atG]
theorem region_phaseL {P : Program} {Q : Exit → Act → World → Prop} {id : Nat} {a : Act} {w : World} (n : Nat) (ch : List Nat) {l : List Oper} (vals : List (Nat × Value)) (L : List (Nat × (G → Value → World → Prop))) (C : Nat → G → World → Prop) (hm : P.follows .mixedOrders = true)
    (hE : edgesIn (l.take n) = true) (hG : guardsIn (l.take n) = true) (hI : dstsIn (l.take n) a.tmps.size = true) (hT : tailUnder (l.take n) (l.drop n) = true)
    (hS : Region.seqB .any l.toArray (l.drop n).length (l.take n).length (Array.replicate (l.take n).length true ++ Array.replicate (l.drop n).length false) = true)
    (hv : (vals.all fun p => (dstsOf (l.take n)).contains p.1) = true) (hsp : ((L.map (·.1)).all fun d => (dstsOf (l.take n)).contains d) = true)
    (hcn : nodupB ch = true) (hcc : chainB (l.take n) ch = true) (hci : (ch.all fun s => decide (s < (l.take n).length)) = true)
    (hst : ∀ q ∈ L, ∀ g (v : Value) (w w' : World), q.2 g v w → Below w.heap.size w w' → q.2 g v w') (hCb : ∀ k g w w', C k g w → Below w.heap.size w w' → C k g w') (g0 : G) (hC : C 0 g0 w)
    (hok : (∀ g, Full (l.take n) a (putR a vals) (specOf (atG L g)) (L.map (·.1))) → PhaseAll P (l.take n) a (fun g => relR (putR a vals) (specOf (atG L g))) C ch 0 (l.take n))
    (hfin : ∀ (f : Nat → Value) g w', (∀ d p, specOf (atG L g) d = some p → p (f d) w') → C ch.length g w' → wpList P l.toArray Q (l.drop n) (putR (putR a vals) ((L.map (·.1)).map fun d => (d, f d))) w') : (Code.region id l.toArray true).wp P Q a w := by
  have hfull : ∀ g, Full (l.take n) a (putR a vals) (specOf (atG L g)) (L.map (·.1)) := fun g => by
    have h1 : Full (l.take n) a (putR a vals) (specOf (atG L g)) ((atG L g).map (·.1)) := full_put vals hv (specOf_none (atG L g))
    rwa [atG_fst] at h1
  have hin : ∀ d, d ∈ L.map (·.1) → d ∈ dstsOf (l.take n) := fun d hd => List.contains_iff_mem.1 (List.all_eq_true.1 hsp d hd)
  refine region_phase n ch (fun g => relR (putR a vals) (specOf (atG L g))) C _ hm hE hG hI hT hS rfl hcn hcc hci ?_ hCb g0 hC (hok hfull) ?_
  · intro g d v w w' h1 h2
    unfold relR at *
    cases hs : specOf (atG L g) d with
    | none => rw [hs] at h1; exact h1
    | some p =>
      rw [hs] at h1
      obtain ⟨q, hq, hq1, hq2⟩ := specOf_mem' (atG L g) d p hs
      obtain ⟨q', hq', rfl⟩ := List.mem_map.1 hq
      subst hq2
      exact hst q' hq' g v w w' h1 h2
  · intro f g w' hf hC2
    have e : putR a ((dstsOf (l.take n)).map fun d => (d, f d)) = putR (putR a vals) ((L.map (·.1)).map fun d => (d, f d)) := by
      refine act_eq (Array.ext_getElem? fun d => ?_) (by rw [putR_defers, putR_defers, putR_defers])
      rw [putR_get', putR_get', putR_size]
      by_cases hd : d < a.tmps.size
      · rw [if_pos hd, if_pos hd]
        by_cases h1 : d ∈ dstsOf (l.take n)
        · rw [if_pos h1]
          by_cases h2 : d ∈ L.map (·.1)
          · rw [if_pos h2]
          · rw [if_neg h2]
            have := hf d h1
            unfold relR at this
            rw [(hfull g).spec d h2] at this
            exact this.symm
        · rw [if_neg h1, if_neg (fun h2 => h1 (hin d h2))]
          refine ((hfull g).out d fun i o ho hdo => h1 ?_).symm
          exact List.mem_filterMap.2 ⟨o, List.mem_of_getElem? ho, hdo⟩
      · rw [if_neg hd, if_neg hd]
    rw [e]
    refine hfin f g w' (fun d p hp => ?_) hC2
    by_cases hd : d ∈ L.map (·.1)
    · have := hf d (hin d hd)
      unfold relR at this
      rw [hp] at this
      exact this
    · rw [specOf_none (atG L g) d (by rw [atG_fst]; exact hd)] at hp
      cases hp
end

section
variable {P : Program} {h : List Oper} {A0 A : Act} {W0 : World} {S : Nat → Option (Value → World → Prop)} {sp O : List Nat} {E : List (Nat × Nat)} {B i : Nat} {o : Oper}
/-- A call through an interface, of which the dynamic type is known. -/
theorem run_invoke {a : Act} (recv : Operand) (name : String) (args : List Operand) (ts : Array TypeId) (t : TypeId) (v : Value) (f : Nat) (rv : Value) (fn : Func) (c : Code) (ho : o.op = .call { callee := .invoke recv name, args := args.toArray, argTypes := ts }) (hr : a.eval recv = .iface t v)
    (hmet : ∀ w, (method (P.types.size + Made.depth) t v name).run P w = .ok (f, rv) w) (hf : P.funcs[f]? = some fn) (hname : (fn.name == "runtime.NumGoroutine") = false) (hb : fn.body = some c) (w : World) : (execOp a.eval o).run P w = .ok (.enter f (rv :: args.map a.eval).toArray) w := by
  have h1 : fn.name ≠ "runtime.NumGoroutine" := by simpa using hname
  unfold execOp
  simp only [ho, resolve, hr]
  simp [invoke, callMethod, callFunc, hf, h1, hb, hmet]
  exact List.take_of_length_le (by simp)
theorem ow_invoke (hA : Full h A0 A S sp) (hw : Wants h A0 A S O E W0.heap.size i o) (d : Nat) (v : Value) (hdet : detE h sp E i o = true) (hsel : notSel o = true) (hd : o.dst = some d) (hds : sp.contains d = false) (hO : O.contains d = false) (hv : A.tmps[d]? = some v) (recv : Operand) (name : String) (args : List Operand) (ts : Array TypeId) (t : TypeId) (x : Value) (f : Nat) (rv : Value) (fn : Func) (c : Code) (vs : List Value) (ho : o.op = .call { callee := .invoke recv name, args := args.toArray, argTypes := ts })
    (hr : A.eval recv = .iface t x) (hargs : args.map A.eval = vs) (hmet : ∀ w, (method (P.types.size + Made.depth) t x name).run P w = .ok (f, rv) w) (hf : P.funcs[f]? = some fn) (hname : (fn.name == "runtime.NumGoroutine") = false) (hb : fn.body = some c)
    (hc : ∀ w, Below W0.heap.size W0 w → Calls P f (rv :: vs).toArray w fun e w' => e = .returned v ∧ Below w.heap.size w w') : OwnOk P h A0 W0 (relR A S) O E i o :=
  ow_q hA hdet hsel hw d v hd hds hO hv fun w hw => by
    have hrun := run_invoke (P := P) recv name args ts t x f rv fn c ho hr hmet hf hname hb w
    rw [hargs] at hrun
    unfold Oper.quietAt
    rw [hrun]
    exact ⟨rfl, hc w hw⟩
/-- .. whatever it answers. -/
theorem ow_invokeS (hA : Full h A0 A S sp) (hw : Wants h A0 A S O E W0.heap.size i o) (d : Nat) (hdet : detE h sp E i o = true) (hd : o.dst = some d) (recv : Operand) (name : String) (args : List Operand) (ts : Array TypeId) (t : TypeId) (x : Value) (f : Nat) (rv : Value) (fn : Func) (c : Code) (vs : List Value) (ho : o.op = .call { callee := .invoke recv name, args := args.toArray, argTypes := ts })
    (hrO : recv ∈ o.op.operands) (haO : ∀ y ∈ args, y ∈ o.op.operands) (hr : A.eval recv = .iface t x) (hargs : args.map A.eval = vs) (hmet : ∀ w, (method (P.types.size + Made.depth) t x name).run P w = .ok (f, rv) w) (hf : P.funcs[f]? = some fn) (hname : (fn.name == "runtime.NumGoroutine") = false) (hb : fn.body = some c)
    (hc : ∀ w, Below W0.heap.size W0 w → Calls P f (rv :: vs).toArray w fun e w' => ∃ v, e = .returned v ∧ relR A S d v w' ∧ Below w.heap.size w w' ∧ (O.contains d = true → ∀ b, blkOf v = some b → w.heap.size ≤ b ∧ b < w'.heap.size)) : OwnOk P h A0 W0 (relR A S) O E i o := by
  refine ⟨d, hd, fun a w hF hB hgot => ⟨hw a w hF hgot, ?_⟩⟩
  have hev := detE_eval hA hdet hF hgot
  have hrun := run_invoke (P := P) (a := a) recv name args ts t x f rv fn c ho ((hev recv hrO).trans hr) hmet hf hname hb w
  rw [List.map_congr_left (fun y hy => hev y (haO y hy)), hargs] at hrun
  unfold Oper.wp
  rw [hrun]
  simp only [Oper.upon]
  refine (hc w hB).mono fun e w' hh => ?_
  obtain ⟨v, rfl, hR, hb', hO⟩ := hh
  rw [hd]
  exact ⟨v, none, rfl, hR, grown_none hb', fun b hb => (by cases hb), fun h1 b hb => .inl (hO h1 b hb)⟩
end

end Go.Proofs.YtjkdonjcngmjeaaGreatDoor.sh
