/-
  made: a table of acts, and the document's list of its terms.
-/
import Derived.Test.YtniogaimhkcedaaDoorLG
namespace Go.Proofs.YtniogaimhkcedaaDoor.sh
open Go Go.RowKit
set_option linter.unusedVariables false
set_option linter.unusedSimpArgs false

section
variable {ts : List TermL} {x : ActK} (h3 : ¬ 300 < x.s.length) (h0 : ¬ ts.length = 0)
include h3 h0
theorem actK_atom (hk : x.kind % 5 = 0) : actK ts x = (putL ts (1, [x.s])).1 := by unfold actK; rw [if_neg h3, if_neg h0, if_pos hk]
theorem actK_pub (hk : x.kind % 5 = 1) : actK ts x = (putL ts (2, [nameK ts x.a])).1 := by unfold actK; rw [if_neg h3, if_neg h0, if_neg (by omega), if_pos hk]
theorem actK_dh (hk : x.kind % 5 = 2) : actK ts x = (dhL ts (nameK ts x.a) (nameK ts x.b)).1 := by unfold actK; rw [if_neg h3, if_neg h0, if_neg (by omega), if_neg (by omega), if_pos hk]
theorem actK_hash (hk : x.kind % 5 = 3) : actK ts x = (putL ts (4, [x.s, nameK ts x.a, textK ts x])).1 := by unfold actK; rw [if_neg h3, if_neg h0, if_neg (by omega), if_neg (by omega), if_neg (by omega), if_pos hk]
theorem actK_seal (hk : x.kind % 5 = 4) : actK ts x = (putL ts (5, [nameK ts x.a, numL x.s.length, x.s, textK ts x])).1 := by unfold actK; rw [if_neg h3, if_neg h0, if_neg (by omega), if_neg (by omega), if_neg (by omega), if_neg (by omega)]
end
theorem joinS_max (k : Nat) (ll : List (List Nat)) : (joinS k ll).length ≤ maxLen := by
  by_cases hF : Fits ll
  · rw [joinS_fits hF, joinL_len]
    have := hF.2.2
    unfold maxLen
    omega
  · unfold joinS
    rw [if_neg hF]
    exact Nat.zero_le _
/-- Terms in a slice that the call owns, each with parts in a row of its own, apart from it. -/
def MRow (base : Nat) (ts : List TermL) (v : Value) (w : World) : Prop := ∃ Vs : List Value, Vs.length = ts.length ∧ w.ownsRow base 41 2 v ts.length (tcells ts Vs) ∧ ∀ (j : Nat) (t : TermL) (V : Value), ts[j]? = some t → Vs[j]? = some V → VRow 0 9 (strs t.2) V w ∧ ∀ b, blkOf V = some b → blkOf v ≠ some b
theorem mrow_nil (w : World) (base : Nat) : MRow base [] (.slice none 0 0) w := ⟨[], rfl, World.ownsRow_nil w base 41 2, fun j t V h => by simp at h⟩
theorem MRow.ts {base : Nat} {ts : List TermL} {v : Value} {w : World} (h : MRow base ts v w) : TsV (fun _ => True) v w ts := by
  obtain ⟨Vs, h1, h2, h3⟩ := h
  exact ts_row h1 h2 (fun j t V ht hV => ⟨vrow_vals (h3 j t V ht hV).1, fun _ _ => trivial⟩) (fun _ _ _ => trivial)
theorem MRow.under {base : Nat} {ts : List TermL} {v : Value} {w w' : World} (h : MRow base ts v w) (hb : Below w.heap.size w w') : MRow base ts v w' := by
  obtain ⟨Vs, h1, h2, h3⟩ := h
  exact ⟨Vs, h1, row_under h2 hb, fun j t V ht hV => ⟨(h3 j t V ht hV).1.under hb, (h3 j t V ht hV).2⟩⟩
theorem MRow.range {base : Nat} {ts : List TermL} {v : Value} {w : World} (h : MRow base ts v w) : ∀ b, blkOf v = some b → base ≤ b ∧ b < w.heap.size := by
  obtain ⟨Vs, h1, h2, h3⟩ := h
  exact row_range h2
/-- 'append' of a term to such a slice. -/
theorem wl_appM {ops : Array Oper} {rest : List Oper} {o : Oper} {a : Act} {w : World} {Q : Exit → Act → World → Prop} (hgd : o.guard = none) (s x : Operand) (ho : o.op = .call { callee := .builtin .append, args := #[s, x], argTypes := #[26, 26] }) (base k : Nat) (ts : List TermL) (ll : List (List Nat)) (v V : Value) (A : Addr) (hs : a.eval s = v) (hxv : a.eval x = .slice (some A) 1 1)
    (hm : MRow base ts v w) (hx : ∀ (j : Nat) (x : Value), ([.int .u8 (k : Int), V] : List Value)[j]? = some x → w.cell? (A.add j) = some x) (hV : VRow 0 9 (strs ll) V w) (hne : ∀ b, blkOf V = some b → blkOf v ≠ some b) (h1 : V.oneCell' = true) (hn : ts.length + 1 ≤ 1000001) (hbase : base ≤ w.heap.size)
    (hk : ∀ v' w', MRow base (ts ++ [(k, ll)]) v' w' → w.grownBy w' (blkOf v) → wpList Tryd.prog ops Q rest (a.put o.dst v') w') : wpList Tryd.prog ops Q (o :: rest) a w := by
  obtain ⟨Vs, g1, g2, g3⟩ := hm
  have key : ∀ (v' : Value) (w' : World), w.grownBy w' (blkOf v) → (blkOf v' = blkOf v ∨ blkOf v' = some w.heap.size) → ∀ (U : Value) (ms : List (List Nat)), VRow 0 9 (strs ms) U w → (∀ b, blkOf U = some b → blkOf v ≠ some b) → VRow 0 9 (strs ms) U w' ∧ ∀ b, blkOf U = some b → blkOf v' ≠ some b := fun v' w' hg hs U ms hU hUn => by
    refine ⟨hU.keeps hg ?_, fun b hb e => ?_⟩
    · cases hb : blkOf U with
      | none => exact .inl rfl
      | some b => exact .inr fun e => hUn b hb e.symm
    · rcases hs with hs | hs
      · exact hUn b hb (by rw [← hs]; exact e)
      · rw [hs] at e
        cases e
        have := (hU.range _ hb).2
        omega
  refine wl_appT hgd s x ho base ts.length 1 1 (tcells ts Vs) [.int .u8 (k : Int), V] v (some A) hs hxv g2 rfl (fun _ => ⟨A, rfl, hx⟩) (fun y hy => by
    simp at hy
    rcases hy with rfl | rfl
    · rfl
    · exact h1) hn hbase (fun v' w' hr hg hbs => hk v' w' ⟨Vs ++ [V], by simp [g1], ?_, fun j t U ht hU => ?_⟩ hg)
  · rw [tcells_append (k, ll) V g1, List.length_append]
    exact hr
  · by_cases hj : j < ts.length
    · rw [List.getElem?_append_left hj] at ht
      rw [List.getElem?_append_left (by omega)] at hU
      exact key v' w' hg hbs U t.2 (g3 j t U ht hU).1 (g3 j t U ht hU).2
    · have hj2 := (List.getElem?_eq_some_iff.1 ht).1
      rw [List.length_append, List.length_singleton] at hj2
      obtain rfl : j = ts.length := by omega
      rw [List.getElem?_append_right (Nat.le_refl _), Nat.sub_self] at ht
      rw [← g1, List.getElem?_append_right (Nat.le_refl _), Nat.sub_self] at hU
      simp at ht hU
      subst ht hU
      exact key v' w' hg hbs _ ll hV hne
/-- What made answers. -/
def MadeE (ts : List TermL) (w : World) (e : Ending) (w' : World) : Prop := ∃ (tb : Nat) (M : Nat → Prop) (V : Value), e = .returned (.tuple #[.pointer (some ⟨tb, 0, none⟩), V]) ∧ Tab tb w.heap.size ts M w' ∧ TsV (fun _ => True) V w' ts
set_option maxRecDepth 100000 in
set_option maxHeartbeats 16000000 in
theorem madeK {v : Value} {l : List ActK} {w : World} (hv : ActV v w l) (hok : ∀ x ∈ l, ActKOk x) :
    Calls Tryd.prog 10 #[v] w fun e w' => MadeE (actsK [] (l.take 30)) w e w' ∧ Below w.heap.size w w' := by
  obtain ⟨n, hn⟩ : ∃ n, n = l.length := ⟨_, rfl⟩
  obtain ⟨p, c, rfl, _⟩ := actV_form hv hn.symm
  have KV : Kept _ := ⟨hv⟩
  have KO : Kept (∀ x ∈ l, ActKOk x) := ⟨hok⟩
  have Kn : Kept _ := ⟨hn⟩
  obtain ⟨Hs, hH⟩ : ∃ H, H = w.heap.size := ⟨_, rfl⟩
  have KH : Kept _ := ⟨hH⟩
  obtain ⟨K, hK⟩ : ∃ K, K = min n 30 := ⟨_, rfl⟩
  have KK : Kept _ := ⟨hK⟩
  obtain ⟨tf, htf⟩ : ∃ t, t = actsK [] (l.take 30) := ⟨_, rfl⟩
  have Ktf : Kept (actsK [] (l.take K) = tf) := ⟨by
    rw [htf, hK]
    by_cases h30 : 30 ≤ n
    · rw [Nat.min_eq_right h30]
    · rw [Nat.min_eq_left (by omega), List.take_of_length_le (by omega), List.take_of_length_le (by omega)]⟩
  rw [← htf]
  clear hv hok hn hH hK htf
  go_enter Tryd.func10, Tryd.ntmps10
  go_wp2_with fail
  refine NewD.mono ?_
  rintro e w1 ⟨⟨tb, M0, rfl, hT0⟩, q1⟩
  have KT0 : Kept _ := ⟨hT0⟩
  have Kq1 : Kept _ := ⟨q1⟩
  clear hT0 q1
  go_wp2_with fail
  go_loopg [5] K (fun g s5 wr => ∃ (i : Nat) (M : Nat → Prop), i + g = K ∧ s5 = .int .i64 (i : Int) ∧ Tab tb w.heap.size (actsK [] (l.take i)) M wr ∧ Below w.heap.size w wr)
  case atStart => exact ⟨0, M0, by omega, rfl, KT0.out, Kq1.out⟩
  case round =>
    rename World => wz
    obtain ⟨i, M, hik, rfl, hT, hq⟩ := hrel
    clear KT0 Kq1
    by_cases hk0 : gk = 0
    case neg =>
      have hin : i < n := by have := KK.out; omega
      have hin' : (i : Int) < (n : Int) := by omega
      have h30' : (i : Int) < 30 := by have := KK.out; omega
      have hi1 : (i : Int) + 1 ≤ 9223372036854775807 := by omega
      obtain ⟨x, hx⟩ : ∃ x, l[i]? = some x := ⟨_, List.getElem?_eq_getElem (by rw [← Kn.out]; exact hin)⟩
      obtain ⟨A, rfl, hA, hcell⟩ := actV_at (KV.out.under hq) hx
      have KOk : Kept _ := ⟨KO.out x (List.mem_of_getElem? hx)⟩
      have Kst : Kept (actsK ([] : List TermL) (l.take (i + 1)) = actK (actsK [] (l.take i)) x) := ⟨by rw [List.take_add_one, hx, Option.toList_some, actsK_snoc]⟩
      have hlen := actsK_len (l.take i) []
      rw [List.length_take] at hlen
      generalize actsK ([] : List TermL) (l.take i) = ts at *
      obtain ⟨N, hN⟩ : ∃ N, N = ts.length := ⟨_, rfl⟩
      have hN30 : N ≤ 30 := by have h0 : ([] : List TermL).length = 0 := rfl; omega
      have KN : Kept _ := ⟨hN⟩
      have htsM : Kept (ts.length < 1000000) := ⟨by omega⟩
      obtain ⟨ns, hns⟩ : ∃ ns, ns = x.s.length := ⟨_, rfl⟩
      have Kns : Kept _ := ⟨hns⟩
      have hns62 : ns < 4611686018427387904 := by have := KOk.out.len; unfold reachBytes at this; omega
      have KSl : Kept (x.s.length ≤ maxLen) := ⟨by have := KOk.out.len; unfold reachBytes at this; unfold maxLen; omega⟩
      obtain ⟨AA, hAA⟩ : ∃ AA, AA = actC x := ⟨_, rfl⟩
      have KAA : Kept _ := ⟨hAA⟩
      have KA1 : Kept (AA.all (·.oneCell') = true) := ⟨by rw [hAA]; exact actC_one x⟩
      have KA5 : Kept (AA.size = 5) := ⟨by rw [hAA]; rfl⟩
      have K0 : Kept (AA[0]? = some (.int .u8 (x.kind : Int))) := ⟨by rw [hAA]; rfl⟩
      have K1 : Kept (AA[1]? = some (.int .u8 (x.a : Int))) := ⟨by rw [hAA]; rfl⟩
      have K2 : Kept (AA[2]? = some (.int .u8 (x.b : Int))) := ⟨by rw [hAA]; rfl⟩
      have K3 : Kept (AA[3]? = some (.string (strOf x.s))) := ⟨by rw [hAA]; rfl⟩
      have K4 : Kept (AA[4]? = some (.bool x.both)) := ⟨by rw [hAA]; rfl⟩
      have KC : Kept _ := ⟨hcell⟩
      have KT : Kept _ := ⟨hT⟩
      have Kq : Kept _ := ⟨hq⟩
      have hBw : w.heap.size ≤ wz.heap.size := hq.size
      clear hx hcell hT hq hlen hN hns hAA
      have START : True := trivial
      by_cases h3 : 300 < ns
      case pos =>
        have h3' : (300 : Int) < (ns : Int) := by omega
        have Kus : Kept (actK ts x = ts) := ⟨by unfold actK; rw [if_pos (by rw [← Kns.out]; exact h3)]⟩
        go_wp2_with (first | ((with_reducible refine wv_val (d := 32) ?hd ?hw (.pointer (some (A.add (i * 5)))) ?hr ?_); (case hd => rfl); (case hw => kernel_rfl); (case hr => intro w; exact run_idx5 rfl (by kernel_rfl) (by kernel_rfl) hin w); simp only [Act.put, List.setIfInBounds_toArray, List.set_cons_succ, List.set_cons_zero]) | (((with_reducible refine wv_actK (d := 33) ?hd ?hw (.tmp 32) ?ho (A.add (i * 5)) ?hx (x) ?hc ?_); (case hd => rfl); (case hw => kernel_rfl); (case ho => rfl); (case hx => kernel_rfl); (case hc => exact KC.out); simp only [Act.put, List.setIfInBounds_toArray, List.set_cons_succ, List.set_cons_zero]); rw [← KAA.out]) | ((refine wl_store rfl 56 (.tmp 6) (.tmp 33) rfl wz.heap.size AA (by kernel_rfl) (by kernel_rfl) _ (blk_new wz 56 _) (by rw [KA5.out]; exact info_actK) (by rw [KA5.out]; rfl) KA1.out ?_); intro w2 hb2 hp2; have q2 : Below wz.heap.size wz w2 := ((Below.refl _ _).alloc (Nat.le_refl _) _).trans (hp2.below (Nat.le_refl _)); have KX2 : Kept _ := ⟨hb2⟩; have Kq2 : Kept _ := ⟨q2⟩; clear hb2 hp2 q2; simp only [Act.put, List.setIfInBounds_toArray, List.set_cons_succ, List.set_cons_zero]) | ((with_reducible refine wv_elem (d := 35) ?hd ?hw 9 ag_str (.tmp 34) ?ho (⟨wz.heap.size, 3, none⟩) ?hx (.string (strOf x.s)) ?hc ?_); (case hd => rfl); (case hw => kernel_rfl); (case ho => rfl); (case hx => kernel_rfl); (case hc => exact (KX2.out.cell K3.out)); simp only [Act.put, List.setIfInBounds_toArray, List.set_cons_succ, List.set_cons_zero]) | ((with_reducible refine wv_val (d := 36) ?hd ?hw (.int .i64 (ns : Int)) ?hr ?_); (case hd => rfl); (case hw => kernel_rfl); (case hr => intro w; exact run_slen rfl (by kernel_rfl) Kns.out w); simp only [Act.put, List.setIfInBounds_toArray, List.set_cons_succ, List.set_cons_zero]))
        go_roundg (gk - 1)
        case measure => omega
        case rel => exact ⟨i + 1, M, by omega, by simp, by rw [Kst.out, Kus.out]; exact KT.out.under Kq2.out, Kq.out.trans (Kq2.out.mono Kq.out.size)⟩
      case neg =>
        have h3' : ¬ (300 : Int) < (ns : Int) := by omega
        have h3n : ¬ 300 < x.s.length := by rw [← Kns.out]; exact h3
        have KAl : Kept (∀ w2, Below wz.heap.size wz w2 → _) := ⟨fun w2 q => AllD (KT.out.under q) htsM.out⟩
        go_wp2_with (first | ((with_reducible refine wv_val (d := 32) ?hd ?hw (.pointer (some (A.add (i * 5)))) ?hr ?_); (case hd => rfl); (case hw => kernel_rfl); (case hr => intro w; exact run_idx5 rfl (by kernel_rfl) (by kernel_rfl) hin w); simp only [Act.put, List.setIfInBounds_toArray, List.set_cons_succ, List.set_cons_zero]) | (((with_reducible refine wv_actK (d := 33) ?hd ?hw (.tmp 32) ?ho (A.add (i * 5)) ?hx (x) ?hc ?_); (case hd => rfl); (case hw => kernel_rfl); (case ho => rfl); (case hx => kernel_rfl); (case hc => exact KC.out); simp only [Act.put, List.setIfInBounds_toArray, List.set_cons_succ, List.set_cons_zero]); rw [← KAA.out]) | ((refine wl_store rfl 56 (.tmp 6) (.tmp 33) rfl wz.heap.size AA (by kernel_rfl) (by kernel_rfl) _ (blk_new wz 56 _) (by rw [KA5.out]; exact info_actK) (by rw [KA5.out]; rfl) KA1.out ?_); intro w2 hb2 hp2; have q2 : Below wz.heap.size wz w2 := ((Below.refl _ _).alloc (Nat.le_refl _) _).trans (hp2.below (Nat.le_refl _)); have KX2 : Kept _ := ⟨hb2⟩; have Kq2 : Kept _ := ⟨q2⟩; clear hb2 hp2 q2; simp only [Act.put, List.setIfInBounds_toArray, List.set_cons_succ, List.set_cons_zero]) | ((with_reducible refine wv_elem (d := 35) ?hd ?hw 9 ag_str (.tmp 34) ?ho (⟨wz.heap.size, 3, none⟩) ?hx (.string (strOf x.s)) ?hc ?_); (case hd => rfl); (case hw => kernel_rfl); (case ho => rfl); (case hx => kernel_rfl); (case hc => exact (KX2.out.cell K3.out)); simp only [Act.put, List.setIfInBounds_toArray, List.set_cons_succ, List.set_cons_zero]) | ((with_reducible refine wv_val (d := 36) ?hd ?hw (.int .i64 (ns : Int)) ?hr ?_); (case hd => rfl); (case hw => kernel_rfl); (case hr => intro w; exact run_slen rfl (by kernel_rfl) Kns.out w); simp only [Act.put, List.setIfInBounds_toArray, List.set_cons_succ, List.set_cons_zero]))
        refine (KAl.out _ Kq2.out).mono ?_
        rintro e w3 ⟨⟨Va, rfl, hVa⟩, q3⟩
        obtain ⟨p1, c1, rfl, _⟩ := vals_form (vrow_vals hVa) (show (strs (namesL ts.length)).length = N by rw [strs_len, namesL_len, KN.out])
        have KVa : Kept _ := ⟨vrow_vals hVa⟩
        have KX3 : Kept _ := ⟨KX2.out.under q3⟩
        have Kq3 : Kept _ := ⟨Kq2.out.trans (q3.mono Kq2.out.size)⟩
        have KT3 : Kept _ := ⟨KT.out.under Kq3.out⟩
        clear hVa q3 KX2 Kq2 KAl
        by_cases h0 : N = 0
        case pos =>
          have hus : actK ts x = (putL ts (1, [x.s])).1 := by unfold actK; rw [if_neg h3n, if_pos (by rw [← KN.out]; exact h0)]
          obtain ⟨us, Nn, hp⟩ : ∃ us Nn, putL ts (1, [x.s]) = (us, Nn) := ⟨_, _, rfl⟩
          have Kp : Kept _ := ⟨hp⟩
          have Kus : Kept (actK ts x = us) := ⟨by rw [hus, hp]⟩
          clear hus hp
          go_wp2_with (first | ((with_reducible refine wv_elem (d := 45) ?hd ?hw 9 ag_str (.tmp 44) ?ho (⟨wz.heap.size, 3, none⟩) ?hx (.string (strOf x.s)) ?hc ?_); (case hd => rfl); (case hw => kernel_rfl); (case ho => rfl); (case hx => kernel_rfl); (case hc => exact (KX3.out.cell K3.out)); simp only [Act.put, List.setIfInBounds_toArray, List.set_cons_succ, List.set_cons_zero]))
          refine (AtomE KT3.out KOk.out.s KSl.out htsM.out Kp.out rfl).mono ?_
          rintro e w9 ⟨rfl, hPu⟩
          obtain ⟨M2, hT2, tu⟩ := hPu
          have q5 := (Kq.out.trans (Kq3.out.mono Kq.out.size)).trans ((KT.out.under Kq3.out).below tu)
          go_wp2_with fail
          go_roundg (gk - 1)
          case measure => omega
          case rel => exact ⟨i + 1, M2, by omega, by simp, by rw [Kst.out, Kus.out]; exact hT2, q5⟩
        case neg =>
          have h0n : ¬ ts.length = 0 := by rw [← KN.out]; exact h0
          have hN1 : 0 < N := by omega
          obtain ⟨ja, hja⟩ : ∃ j, j = x.a % N := ⟨_, rfl⟩
          have hjaN : ja < N := by rw [hja]; exact Nat.mod_lt _ hN1
          obtain ⟨jb, hjb⟩ : ∃ j, j = x.b % N := ⟨_, rfl⟩
          have hjbN : jb < N := by rw [hjb]; exact Nat.mod_lt _ hN1
          obtain ⟨P, hP⟩ : ∃ P, P = nameK ts x.a := ⟨_, rfl⟩
          obtain ⟨Q, hQ⟩ : ∃ Q, Q = nameK ts x.b := ⟨_, rfl⟩
          have eP : P = termN (ja + 1) := by rw [hP, hja, KN.out]; rfl
          have eQ : Q = termN (jb + 1) := by rw [hQ, hjb, KN.out]; rfl
          obtain ⟨A1, rfl, hA1, hcP⟩ := vals_at KVa.out (strs_get (namesL_get (by rw [← KN.out]; exact hjaN)))
          have hcQ := vals_cell KVa.out (strs_get (namesL_get (i := jb) (by rw [← KN.out]; exact hjbN)))
          rw [← eP] at hcP
          rw [← eQ] at hcQ
          have KcP : Kept (∀ w', Below w3.heap.size w3 w' → w'.cell? (A1.add ja) = some (.string (strOf P))) := ⟨fun w' hb => (hb.cell (by rw [add_block]; exact hA1)).trans hcP⟩
          have KcQ : Kept (∀ w', Below w3.heap.size w3 w' → w'.cell? (A1.add jb) = some (.string (strOf Q))) := ⟨fun w' hb => (hb.cell (by rw [add_block]; exact hA1)).trans hcQ⟩
          have Kja : Kept _ := ⟨hja⟩
          have Kjb : Kept _ := ⟨hjb⟩
          have KPn : Kept _ := ⟨hP⟩
          have KQn : Kept _ := ⟨hQ⟩
          have KPb : Kept (Bytes P ∧ P.length ≤ maxLen) := ⟨by rw [eP]; exact ⟨termN_bytes _, termN_max _⟩⟩
          have KQb : Kept (Bytes Q ∧ Q.length ≤ maxLen) := ⟨by rw [eQ]; exact ⟨termN_bytes _, termN_max _⟩⟩
          have ha8 : x.a < 256 := KOk.out.a
          have hb8 : x.b < 256 := KOk.out.b
          have haI : x.a < 4611686018427387904 := by omega
          have hbI : x.b < 4611686018427387904 := by omega
          have B0 : Kept (false = decide ((N : Int) = 0)) := ⟨(decide_eq_false (by omega)).symm⟩
          clear hja hjb hP hQ eP eQ hcP hcQ
          go_wp2_with (first | ((with_reducible refine wv_val (d := 42) ?hd ?hw (.bool false) ?hr ?_); (case hd => rfl); (case hw => kernel_rfl); (case hr => intro w; exact run_eqII (n := 0) rfl (by kernel_rfl) rfl B0.out w); simp only [Act.put, List.setIfInBounds_toArray, List.set_cons_succ, List.set_cons_zero]))
          refine region_ownL w3 20 [(47, .slice (some A1) N c1), (48, .pointer (some ⟨wz.heap.size, 1, none⟩)), (49, .int .u8 (x.a : Int)), (50, .int .i64 (x.a : Int)), (51, .slice (some A1) N c1), (52, .int .i64 (N : Int)), (53, .int .i64 (ja : Int)), (54, .pointer (some (A1.add ja))), (55, .string (strOf P)), (56, .slice (some A1) N c1), (57, .pointer (some ⟨wz.heap.size, 2, none⟩)), (58, .int .u8 (x.b : Int)), (59, .int .i64 (x.b : Int)), (60, .slice (some A1) N c1), (61, .int .i64 (N : Int)), (62, .int .i64 (jb : Int)), (63, .pointer (some (A1.add jb))), (64, .string (strOf Q)), (8, .string (strOf P)), (9, .string (strOf Q))] [] [] [] rfl (by kernel_rfl) (by kernel_rfl) (by kernel_rfl) (by kernel_rfl) (by kernel_rfl) (by kernel_rfl) (by kernel_rfl) (by kernel_rfl) (by kernel_rfl) (by kernel_rfl) (by kernel_rfl) ?hst1 ?hst2 (Below.refl _ _) (fun hA => ⟨ow_val hA (wants_none rfl) 47 (.slice (some A1) N c1) (by kernel_rfl) rfl rfl rfl rfl (by kernel_rfl) (fun w => by kernel_rfl), ow_val hA (wants_none rfl) 48 (.pointer (some ⟨wz.heap.size, 1, none⟩)) (by kernel_rfl) rfl rfl rfl rfl (by kernel_rfl) (fun w => by kernel_rfl), ow_elem hA (wants_none rfl) 49 (.int .u8 (x.a : Int)) (by kernel_rfl) rfl rfl rfl rfl (by kernel_rfl) 5 Tryd.isAgg5 (.tmp 48) rfl (⟨wz.heap.size, 1, none⟩) (by kernel_rfl) (fun w1 hb => ((KX3.out.under hb).cell K1.out)), ow_val hA (wants_none rfl) 50 (.int .i64 (x.a : Int)) (by kernel_rfl) rfl rfl rfl rfl (by kernel_rfl) (fun w => run_conv83 rfl (by kernel_rfl) ha8 w), ow_val hA (wants_none rfl) 51 (.slice (some A1) N c1) (by kernel_rfl) rfl rfl rfl rfl (by kernel_rfl) (fun w => by kernel_rfl), ow_val hA (wants_none rfl) 52 (.int .i64 (N : Int)) (by kernel_rfl) rfl rfl rfl rfl (by kernel_rfl) (fun w => by kernel_rfl), ow_val hA (wants_none rfl) 53 (.int .i64 (ja : Int)) (by kernel_rfl) rfl rfl rfl rfl (by kernel_rfl) (fun w => run_remV rfl (by kernel_rfl) (by kernel_rfl) hN1 Kja.out haI w), ow_val hA (wants_none rfl) 54 (.pointer (some (A1.add ja))) (by kernel_rfl) rfl rfl rfl rfl (by kernel_rfl) (fun w => run_idxS (c := c1) rfl (by kernel_rfl) (by kernel_rfl) Tryd.underlying29 hjaN Tryd.sizeOf9 w), ow_elem hA (wants_none rfl) 55 (.string (strOf P)) (by kernel_rfl) rfl rfl rfl rfl (by kernel_rfl) 9 ag_str (.tmp 54) rfl (A1.add ja) (by kernel_rfl) (fun w1 hb => KcP.out w1 hb), ow_val hA (wants_none rfl) 56 (.slice (some A1) N c1) (by kernel_rfl) rfl rfl rfl rfl (by kernel_rfl) (fun w => by kernel_rfl), ow_val hA (wants_none rfl) 57 (.pointer (some ⟨wz.heap.size, 2, none⟩)) (by kernel_rfl) rfl rfl rfl rfl (by kernel_rfl) (fun w => by kernel_rfl), ow_elem hA (wants_none rfl) 58 (.int .u8 (x.b : Int)) (by kernel_rfl) rfl rfl rfl rfl (by kernel_rfl) 5 Tryd.isAgg5 (.tmp 57) rfl (⟨wz.heap.size, 2, none⟩) (by kernel_rfl) (fun w1 hb => ((KX3.out.under hb).cell K2.out)), ow_val hA (wants_none rfl) 59 (.int .i64 (x.b : Int)) (by kernel_rfl) rfl rfl rfl rfl (by kernel_rfl) (fun w => run_conv83 rfl (by kernel_rfl) hb8 w), ow_val hA (wants_none rfl) 60 (.slice (some A1) N c1) (by kernel_rfl) rfl rfl rfl rfl (by kernel_rfl) (fun w => by kernel_rfl), ow_val hA (wants_none rfl) 61 (.int .i64 (N : Int)) (by kernel_rfl) rfl rfl rfl rfl (by kernel_rfl) (fun w => by kernel_rfl), ow_val hA (wants_none rfl) 62 (.int .i64 (jb : Int)) (by kernel_rfl) rfl rfl rfl rfl (by kernel_rfl) (fun w => run_remV rfl (by kernel_rfl) (by kernel_rfl) hN1 Kjb.out hbI w), ow_val hA (wants_none rfl) 63 (.pointer (some (A1.add jb))) (by kernel_rfl) rfl rfl rfl rfl (by kernel_rfl) (fun w => run_idxS (c := c1) rfl (by kernel_rfl) (by kernel_rfl) Tryd.underlying29 hjbN Tryd.sizeOf9 w), ow_elem hA (wants_none rfl) 64 (.string (strOf Q)) (by kernel_rfl) rfl rfl rfl rfl (by kernel_rfl) 9 ag_str (.tmp 63) rfl (A1.add jb) (by kernel_rfl) (fun w1 hb => KcQ.out w1 hb), ow_val hA (wants_none rfl) 8 (.string (strOf P)) (by kernel_rfl) rfl rfl rfl rfl (by kernel_rfl) (fun w => by kernel_rfl), ow_val hA (wants_none rfl) 9 (.string (strOf Q)) (by kernel_rfl) rfl rfl rfl rfl (by kernel_rfl) (fun w => by kernel_rfl), trivial⟩) ?_
          case hst1 => intro q hq; cases hq
          case hst2 => intro q hq; cases hq
          intro fv w4 hf hD hb4
          simp only [putR, List.foldl_cons, List.foldl_nil, List.map_cons, List.map_nil, Act.put, List.setIfInBounds_toArray, List.set_cons_succ, List.set_cons_zero]
          refine wpList_nil ?_
          have KX4 : Kept _ := ⟨KX3.out.under hb4⟩
          have Kq4 : Kept _ := ⟨Kq3.out.trans (hb4.mono Kq3.out.size)⟩
          have KT4 : Kept _ := ⟨KT.out.under Kq4.out⟩
          clear hf hD hb4 KX3 Kq3 KT3
          obtain ⟨bo, hbo⟩ : ∃ b, b = x.both := ⟨_, rfl⟩
          rw [← hbo] at K4
          have h5 : Kept (x.kind % 5 = 0 ∨ x.kind % 5 = 1 ∨ x.kind % 5 = 2 ∨ x.kind % 5 = 3 ∨ x.kind % 5 = 4) := ⟨by omega⟩
          cases bo with
          | false =>
            have KTx : Kept (Bytes Q ∧ textK ts x = Q) := ⟨KQb.out.1, by unfold textK; rw [if_neg (by rw [← hbo]; decide), KQn.out]⟩
            have KTl : Kept (Q.length ≤ maxLen) := ⟨KQb.out.2⟩
            clear hbo
            rcases h5.out with hk5 | hk5 | hk5 | hk5 | hk5
            · have hus : actK ts x = (putL ts (1, [x.s])).1 := by rw [actK_atom h3n h0n hk5]
              have KR : Kept (0 = x.kind % 5) := ⟨hk5.symm⟩
              obtain ⟨us, Nn, hp⟩ : ∃ us Nn, putL ts (1, [x.s]) = (us, Nn) := ⟨_, _, rfl⟩
              have Kp : Kept _ := ⟨hp⟩
              have Kus : Kept (actK ts x = us) := ⟨by rw [hus, hp]⟩
              clear hus hp hk5
              go_wp2_with (first | ((with_reducible refine wv_elem (d := 67) ?hd ?hw 4 Tryd.isAgg4 (.tmp 66) ?ho (⟨wz.heap.size, 4, none⟩) ?hx (.bool false) ?hc ?_); (case hd => rfl); (case hw => kernel_rfl); (case ho => rfl); (case hx => kernel_rfl); (case hc => exact (KX4.out.cell K4.out)); simp only [Act.put, List.setIfInBounds_toArray, List.set_cons_succ, List.set_cons_zero]) | ((with_reducible refine wv_elem (d := 78) ?hd ?hw 5 Tryd.isAgg5 (.tmp 77) ?ho (⟨wz.heap.size, 0, none⟩) ?hx (.int .u8 (x.kind : Int)) ?hc ?_); (case hd => rfl); (case hw => kernel_rfl); (case ho => rfl); (case hx => kernel_rfl); (case hc => exact (KX4.out.cell K0.out)); simp only [Act.put, List.setIfInBounds_toArray, List.set_cons_succ, List.set_cons_zero]) | ((with_reducible refine wv_val (d := 79) ?hd ?hw (.int .u8 ((0 : Nat) : Int)) ?hr ?_); (case hd => rfl); (case hw => kernel_rfl); (case hr => intro w; exact run_remU5 rfl (by kernel_rfl) KR.out w); simp only [Act.put, List.setIfInBounds_toArray, List.set_cons_succ, List.set_cons_zero]) | ((with_reducible refine wv_elem (d := 94) ?hd ?hw 9 ag_str (.tmp 93) ?ho (⟨wz.heap.size, 3, none⟩) ?hx (.string (strOf x.s)) ?hc ?_); (case hd => rfl); (case hw => kernel_rfl); (case ho => rfl); (case hx => kernel_rfl); (case hc => exact (KX4.out.cell K3.out)); simp only [Act.put, List.setIfInBounds_toArray, List.set_cons_succ, List.set_cons_zero]))
              refine (AtomE KT4.out KOk.out.s KSl.out htsM.out Kp.out rfl).mono ?_
              rintro e w9 ⟨rfl, hPu⟩
              obtain ⟨M2, hT2, tu⟩ := hPu
              have q5 := (Kq.out.trans (Kq4.out.mono Kq.out.size)).trans ((KT.out.under Kq4.out).below tu)
              go_wp2_with fail
              go_roundg (gk - 1)
              case measure => omega
              case rel => exact ⟨i + 1, M2, by omega, by simp, by rw [Kst.out, Kus.out]; exact hT2, q5⟩
            · have hus : actK ts x = (putL ts (2, [P])).1 := by rw [actK_pub h3n h0n hk5, ← KPn.out]
              have KR : Kept (1 = x.kind % 5) := ⟨hk5.symm⟩
              obtain ⟨us, Nn, hp⟩ : ∃ us Nn, putL ts (2, [P]) = (us, Nn) := ⟨_, _, rfl⟩
              have Kp : Kept _ := ⟨hp⟩
              have Kus : Kept (actK ts x = us) := ⟨by rw [hus, hp]⟩
              clear hus hp hk5
              go_wp2_with (first | ((with_reducible refine wv_elem (d := 67) ?hd ?hw 4 Tryd.isAgg4 (.tmp 66) ?ho (⟨wz.heap.size, 4, none⟩) ?hx (.bool false) ?hc ?_); (case hd => rfl); (case hw => kernel_rfl); (case ho => rfl); (case hx => kernel_rfl); (case hc => exact (KX4.out.cell K4.out)); simp only [Act.put, List.setIfInBounds_toArray, List.set_cons_succ, List.set_cons_zero]) | ((with_reducible refine wv_elem (d := 78) ?hd ?hw 5 Tryd.isAgg5 (.tmp 77) ?ho (⟨wz.heap.size, 0, none⟩) ?hx (.int .u8 (x.kind : Int)) ?hc ?_); (case hd => rfl); (case hw => kernel_rfl); (case ho => rfl); (case hx => kernel_rfl); (case hc => exact (KX4.out.cell K0.out)); simp only [Act.put, List.setIfInBounds_toArray, List.set_cons_succ, List.set_cons_zero]) | ((with_reducible refine wv_val (d := 79) ?hd ?hw (.int .u8 ((1 : Nat) : Int)) ?hr ?_); (case hd => rfl); (case hw => kernel_rfl); (case hr => intro w; exact run_remU5 rfl (by kernel_rfl) KR.out w); simp only [Act.put, List.setIfInBounds_toArray, List.set_cons_succ, List.set_cons_zero]))
              refine (PubE KT4.out KPb.out.1 KPb.out.2 htsM.out Kp.out rfl).mono ?_
              rintro e w9 ⟨rfl, hPu⟩
              obtain ⟨M2, hT2, tu⟩ := hPu
              have q5 := (Kq.out.trans (Kq4.out.mono Kq.out.size)).trans ((KT.out.under Kq4.out).below tu)
              go_wp2_with fail
              go_roundg (gk - 1)
              case measure => omega
              case rel => exact ⟨i + 1, M2, by omega, by simp, by rw [Kst.out, Kus.out]; exact hT2, q5⟩
            · have hus : actK ts x = (dhL ts P Q).1 := by rw [actK_dh h3n h0n hk5, ← KPn.out, ← KQn.out]
              have KR : Kept (2 = x.kind % 5) := ⟨hk5.symm⟩
              obtain ⟨us, Nn, Fl, hp⟩ : ∃ us Nn Fl, dhL ts P Q = (us, Nn, Fl) := ⟨_, _, _, rfl⟩
              have Kp : Kept _ := ⟨hp⟩
              have Kus : Kept (actK ts x = us) := ⟨by rw [hus, hp]⟩
              clear hus hp hk5
              go_wp2_with (first | ((with_reducible refine wv_elem (d := 67) ?hd ?hw 4 Tryd.isAgg4 (.tmp 66) ?ho (⟨wz.heap.size, 4, none⟩) ?hx (.bool false) ?hc ?_); (case hd => rfl); (case hw => kernel_rfl); (case ho => rfl); (case hx => kernel_rfl); (case hc => exact (KX4.out.cell K4.out)); simp only [Act.put, List.setIfInBounds_toArray, List.set_cons_succ, List.set_cons_zero]) | ((with_reducible refine wv_elem (d := 78) ?hd ?hw 5 Tryd.isAgg5 (.tmp 77) ?ho (⟨wz.heap.size, 0, none⟩) ?hx (.int .u8 (x.kind : Int)) ?hc ?_); (case hd => rfl); (case hw => kernel_rfl); (case ho => rfl); (case hx => kernel_rfl); (case hc => exact (KX4.out.cell K0.out)); simp only [Act.put, List.setIfInBounds_toArray, List.set_cons_succ, List.set_cons_zero]) | ((with_reducible refine wv_val (d := 79) ?hd ?hw (.int .u8 ((2 : Nat) : Int)) ?hr ?_); (case hd => rfl); (case hw => kernel_rfl); (case hr => intro w; exact run_remU5 rfl (by kernel_rfl) KR.out w); simp only [Act.put, List.setIfInBounds_toArray, List.set_cons_succ, List.set_cons_zero]))
              refine (DhE KT4.out KPb.out.1 KQb.out.1 KPb.out.2 KQb.out.2 htsM.out Kp.out).mono ?_
              rintro e w9 ⟨rfl, hPu⟩
              obtain ⟨M2, hT2, tu⟩ := hPu
              have q5 := (Kq.out.trans (Kq4.out.mono Kq.out.size)).trans ((KT.out.under Kq4.out).below tu)
              go_wp2_with fail
              go_roundg (gk - 1)
              case measure => omega
              case rel => exact ⟨i + 1, M2, by omega, by simp, by rw [Kst.out, Kus.out]; exact hT2, q5⟩
            · have hus : actK ts x = (putL ts (4, [x.s, P, Q])).1 := by rw [actK_hash h3n h0n hk5, ← KPn.out, KTx.out.2]
              have KR : Kept (3 = x.kind % 5) := ⟨hk5.symm⟩
              obtain ⟨us, Nn, hp⟩ : ∃ us Nn, putL ts (4, [x.s, P, Q]) = (us, Nn) := ⟨_, _, rfl⟩
              have Kp : Kept _ := ⟨hp⟩
              have Kus : Kept (actK ts x = us) := ⟨by rw [hus, hp]⟩
              clear hus hp hk5
              have b6 := (Below.refl w4.heap.size w4).alloc (Nat.le_refl _) (.cells #[.string (strOf x.s), .string (strOf P), .string (strOf Q)] 9)
              have Kqe : Kept _ := ⟨Kq4.out.trans (b6.mono Kq4.out.size)⟩
              have KVn : Kept _ := ⟨new3 x.s P Q w4⟩
              clear b6
              go_wp2_with (first | ((with_reducible refine wv_elem (d := 67) ?hd ?hw 4 Tryd.isAgg4 (.tmp 66) ?ho (⟨wz.heap.size, 4, none⟩) ?hx (.bool false) ?hc ?_); (case hd => rfl); (case hw => kernel_rfl); (case ho => rfl); (case hx => kernel_rfl); (case hc => exact (KX4.out.cell K4.out)); simp only [Act.put, List.setIfInBounds_toArray, List.set_cons_succ, List.set_cons_zero]) | ((with_reducible refine wv_elem (d := 78) ?hd ?hw 5 Tryd.isAgg5 (.tmp 77) ?ho (⟨wz.heap.size, 0, none⟩) ?hx (.int .u8 (x.kind : Int)) ?hc ?_); (case hd => rfl); (case hw => kernel_rfl); (case ho => rfl); (case hx => kernel_rfl); (case hc => exact (KX4.out.cell K0.out)); simp only [Act.put, List.setIfInBounds_toArray, List.set_cons_succ, List.set_cons_zero]) | ((with_reducible refine wv_val (d := 79) ?hd ?hw (.int .u8 ((3 : Nat) : Int)) ?hr ?_); (case hd => rfl); (case hw => kernel_rfl); (case hr => intro w; exact run_remU5 rfl (by kernel_rfl) KR.out w); simp only [Act.put, List.setIfInBounds_toArray, List.set_cons_succ, List.set_cons_zero]) | ((with_reducible refine wv_elem (d := 111) ?hd ?hw 9 ag_str (.tmp 110) ?ho (⟨wz.heap.size, 3, none⟩) ?hx (.string (strOf x.s)) ?hc ?_); (case hd => rfl); (case hw => kernel_rfl); (case ho => rfl); (case hx => kernel_rfl); (case hc => exact (KX4.out.cell K3.out)); simp only [Act.put, List.setIfInBounds_toArray, List.set_cons_succ, List.set_cons_zero]) | (refine wl_bs3 (by kernel_rfl) (.tmp 111) (.tmp 112) (.tmp 113) rfl (x.s) (P) (Q) (by kernel_rfl) (by kernel_rfl) (by kernel_rfl) ?_; simp only [Act.put, List.setIfInBounds_toArray, List.set_cons_succ, List.set_cons_zero]))
              refine (HashE (KT.out.under Kqe.out) (fun l h => by simp at h; rcases h with rfl | rfl | rfl <;> first | exact KOk.out.s | exact KPb.out.1 | exact KTx.out.1) KVn.out (fun l h => by simp at h; rcases h with rfl | rfl | rfl <;> first | exact KSl.out | exact KPb.out.2 | exact KTl.out) htsM.out Kp.out).mono ?_
              rintro e w9 ⟨rfl, hPu⟩
              obtain ⟨M2, hT2, tu⟩ := hPu
              have q5 := (Kq.out.trans (Kqe.out.mono Kq.out.size)).trans ((KT.out.under Kqe.out).below tu)
              go_wp2_with fail
              go_roundg (gk - 1)
              case measure => omega
              case rel => exact ⟨i + 1, M2, by omega, by simp, by rw [Kst.out, Kus.out]; exact hT2, q5⟩
            · have hus : actK ts x = (putL ts (5, [P, numL ns, x.s, Q])).1 := by rw [actK_seal h3n h0n hk5, ← Kns.out, ← KPn.out, KTx.out.2]
              have KR : Kept (4 = x.kind % 5) := ⟨hk5.symm⟩
              obtain ⟨us, Nn, hp⟩ : ∃ us Nn, putL ts (5, [P, numL ns, x.s, Q]) = (us, Nn) := ⟨_, _, rfl⟩
              have Kp : Kept _ := ⟨hp⟩
              have Kus : Kept (actK ts x = us) := ⟨by rw [hus, hp]⟩
              clear hus hp hk5
              go_wp2_with (first | ((with_reducible refine wv_elem (d := 67) ?hd ?hw 4 Tryd.isAgg4 (.tmp 66) ?ho (⟨wz.heap.size, 4, none⟩) ?hx (.bool false) ?hc ?_); (case hd => rfl); (case hw => kernel_rfl); (case ho => rfl); (case hx => kernel_rfl); (case hc => exact (KX4.out.cell K4.out)); simp only [Act.put, List.setIfInBounds_toArray, List.set_cons_succ, List.set_cons_zero]) | ((with_reducible refine wv_elem (d := 78) ?hd ?hw 5 Tryd.isAgg5 (.tmp 77) ?ho (⟨wz.heap.size, 0, none⟩) ?hx (.int .u8 (x.kind : Int)) ?hc ?_); (case hd => rfl); (case hw => kernel_rfl); (case ho => rfl); (case hx => kernel_rfl); (case hc => exact (KX4.out.cell K0.out)); simp only [Act.put, List.setIfInBounds_toArray, List.set_cons_succ, List.set_cons_zero]) | ((with_reducible refine wv_val (d := 79) ?hd ?hw (.int .u8 ((4 : Nat) : Int)) ?hr ?_); (case hd => rfl); (case hw => kernel_rfl); (case hr => intro w; exact run_remU5 rfl (by kernel_rfl) KR.out w); simp only [Act.put, List.setIfInBounds_toArray, List.set_cons_succ, List.set_cons_zero]) | ((with_reducible refine wv_elem (d := 83) ?hd ?hw 9 ag_str (.tmp 82) ?ho (⟨wz.heap.size, 3, none⟩) ?hx (.string (strOf x.s)) ?hc ?_); (case hd => rfl); (case hw => kernel_rfl); (case ho => rfl); (case hx => kernel_rfl); (case hc => exact (KX4.out.cell K3.out)); simp only [Act.put, List.setIfInBounds_toArray, List.set_cons_succ, List.set_cons_zero]) | ((with_reducible refine wv_val (d := 84) ?hd ?hw (.int .i64 (ns : Int)) ?hr ?_); (case hd => rfl); (case hw => kernel_rfl); (case hr => intro w; exact run_slen rfl (by kernel_rfl) Kns.out w); simp only [Act.put, List.setIfInBounds_toArray, List.set_cons_succ, List.set_cons_zero]) | ((with_reducible refine wv_val (d := 85) ?hd ?hw (.int .u64 (ns : Int)) ?hr ?_); (case hd => rfl); (case hw => kernel_rfl); (case hr => intro w; exact run_c364 rfl (by kernel_rfl) hns62 w); simp only [Act.put, List.setIfInBounds_toArray, List.set_cons_succ, List.set_cons_zero]) | ((with_reducible refine wv_elem (d := 87) ?hd ?hw 9 ag_str (.tmp 86) ?ho (⟨wz.heap.size, 3, none⟩) ?hx (.string (strOf x.s)) ?hc ?_); (case hd => rfl); (case hw => kernel_rfl); (case ho => rfl); (case hx => kernel_rfl); (case hc => exact (KX4.out.cell K3.out)); simp only [Act.put, List.setIfInBounds_toArray, List.set_cons_succ, List.set_cons_zero]))
              refine (SealE KT4.out (by omega) KPb.out.1 KOk.out.s KTx.out.1 KPb.out.2 KSl.out KTl.out htsM.out Kp.out).mono ?_
              rintro e w9 ⟨rfl, hPu⟩
              obtain ⟨M2, hT2, tu⟩ := hPu
              have q5 := (Kq.out.trans (Kq4.out.mono Kq.out.size)).trans ((KT.out.under Kq4.out).below tu)
              go_wp2_with fail
              go_roundg (gk - 1)
              case measure => omega
              case rel => exact ⟨i + 1, M2, by omega, by simp, by rw [Kst.out, Kus.out]; exact hT2, q5⟩
          | true =>
            obtain ⟨T, hTt⟩ : ∃ T, T = joinS 9 [P, Q, x.s] := ⟨_, rfl⟩
            have KTx : Kept (Bytes T ∧ textK ts x = T) := ⟨by
              have e : textK ts x = T := by unfold textK; rw [if_pos hbo.symm, hTt, KPn.out, KQn.out]
              refine ⟨?_, e⟩
              rw [← e]
              exact textK_bytes KOk.out.s (by omega)⟩
            have KTl : Kept (T.length ≤ maxLen) := ⟨by rw [hTt]; exact joinS_max _ _⟩
            have b5 := (Below.refl w4.heap.size w4).alloc (Nat.le_refl _) (.cells #[.string (strOf P), .string (strOf Q), .string (strOf x.s)] 9)
            have CJ := JoinD (k := 9) (by decide) (new3 P Q x.s w4) (fun l h => by
              simp at h
              rcases h with rfl | rfl | rfl
              · exact KPb.out
              · exact KQb.out
              · exact ⟨KOk.out.s, KSl.out⟩)
            rw [← hTt] at CJ
            have KCJ : Kept _ := ⟨CJ⟩
            have Kb5 : Kept _ := ⟨b5⟩
            clear hbo hTt CJ b5
            go_wp2_with (first | ((with_reducible refine wv_elem (d := 67) ?hd ?hw 4 Tryd.isAgg4 (.tmp 66) ?ho (⟨wz.heap.size, 4, none⟩) ?hx (.bool true) ?hc ?_); (case hd => rfl); (case hw => kernel_rfl); (case ho => rfl); (case hx => kernel_rfl); (case hc => exact (KX4.out.cell K4.out)); simp only [Act.put, List.setIfInBounds_toArray, List.set_cons_succ, List.set_cons_zero]) | ((with_reducible refine wv_elem (d := 72) ?hd ?hw 9 ag_str (.tmp 71) ?ho (⟨wz.heap.size, 3, none⟩) ?hx (.string (strOf x.s)) ?hc ?_); (case hd => rfl); (case hw => kernel_rfl); (case ho => rfl); (case hx => kernel_rfl); (case hc => exact (KX4.out.cell K3.out)); simp only [Act.put, List.setIfInBounds_toArray, List.set_cons_succ, List.set_cons_zero]) | (refine wl_bs3 (by kernel_rfl) (.tmp 69) (.tmp 70) (.tmp 72) rfl (P) (Q) (x.s) (by kernel_rfl) (by kernel_rfl) (by kernel_rfl) ?_; simp only [Act.put, List.setIfInBounds_toArray, List.set_cons_succ, List.set_cons_zero]))
            refine KCJ.out.mono ?_
            rintro e w5 ⟨rfl, q5⟩
            have q45 := Kb5.out.trans (q5.mono Kb5.out.size)
            have KX5 : Kept _ := ⟨KX4.out.under q45⟩
            have Kq5 : Kept _ := ⟨Kq4.out.trans (q45.mono Kq4.out.size)⟩
            have KT5 : Kept _ := ⟨KT.out.under Kq5.out⟩
            clear q5 q45 KX4 Kq4 KT4 KCJ
            rcases h5.out with hk5 | hk5 | hk5 | hk5 | hk5
            · have hus : actK ts x = (putL ts (1, [x.s])).1 := by rw [actK_atom h3n h0n hk5]
              have KR : Kept (0 = x.kind % 5) := ⟨hk5.symm⟩
              obtain ⟨us, Nn, hp⟩ : ∃ us Nn, putL ts (1, [x.s]) = (us, Nn) := ⟨_, _, rfl⟩
              have Kp : Kept _ := ⟨hp⟩
              have Kus : Kept (actK ts x = us) := ⟨by rw [hus, hp]⟩
              clear hus hp hk5
              go_wp2_with (first | ((with_reducible refine wv_elem (d := 78) ?hd ?hw 5 Tryd.isAgg5 (.tmp 77) ?ho (⟨wz.heap.size, 0, none⟩) ?hx (.int .u8 (x.kind : Int)) ?hc ?_); (case hd => rfl); (case hw => kernel_rfl); (case ho => rfl); (case hx => kernel_rfl); (case hc => exact (KX5.out.cell K0.out)); simp only [Act.put, List.setIfInBounds_toArray, List.set_cons_succ, List.set_cons_zero]) | ((with_reducible refine wv_val (d := 79) ?hd ?hw (.int .u8 ((0 : Nat) : Int)) ?hr ?_); (case hd => rfl); (case hw => kernel_rfl); (case hr => intro w; exact run_remU5 rfl (by kernel_rfl) KR.out w); simp only [Act.put, List.setIfInBounds_toArray, List.set_cons_succ, List.set_cons_zero]) | ((with_reducible refine wv_elem (d := 94) ?hd ?hw 9 ag_str (.tmp 93) ?ho (⟨wz.heap.size, 3, none⟩) ?hx (.string (strOf x.s)) ?hc ?_); (case hd => rfl); (case hw => kernel_rfl); (case ho => rfl); (case hx => kernel_rfl); (case hc => exact (KX5.out.cell K3.out)); simp only [Act.put, List.setIfInBounds_toArray, List.set_cons_succ, List.set_cons_zero]))
              refine (AtomE KT5.out KOk.out.s KSl.out htsM.out Kp.out rfl).mono ?_
              rintro e w9 ⟨rfl, hPu⟩
              obtain ⟨M2, hT2, tu⟩ := hPu
              have q5 := (Kq.out.trans (Kq5.out.mono Kq.out.size)).trans ((KT.out.under Kq5.out).below tu)
              go_wp2_with fail
              go_roundg (gk - 1)
              case measure => omega
              case rel => exact ⟨i + 1, M2, by omega, by simp, by rw [Kst.out, Kus.out]; exact hT2, q5⟩
            · have hus : actK ts x = (putL ts (2, [P])).1 := by rw [actK_pub h3n h0n hk5, ← KPn.out]
              have KR : Kept (1 = x.kind % 5) := ⟨hk5.symm⟩
              obtain ⟨us, Nn, hp⟩ : ∃ us Nn, putL ts (2, [P]) = (us, Nn) := ⟨_, _, rfl⟩
              have Kp : Kept _ := ⟨hp⟩
              have Kus : Kept (actK ts x = us) := ⟨by rw [hus, hp]⟩
              clear hus hp hk5
              go_wp2_with (first | ((with_reducible refine wv_elem (d := 78) ?hd ?hw 5 Tryd.isAgg5 (.tmp 77) ?ho (⟨wz.heap.size, 0, none⟩) ?hx (.int .u8 (x.kind : Int)) ?hc ?_); (case hd => rfl); (case hw => kernel_rfl); (case ho => rfl); (case hx => kernel_rfl); (case hc => exact (KX5.out.cell K0.out)); simp only [Act.put, List.setIfInBounds_toArray, List.set_cons_succ, List.set_cons_zero]) | ((with_reducible refine wv_val (d := 79) ?hd ?hw (.int .u8 ((1 : Nat) : Int)) ?hr ?_); (case hd => rfl); (case hw => kernel_rfl); (case hr => intro w; exact run_remU5 rfl (by kernel_rfl) KR.out w); simp only [Act.put, List.setIfInBounds_toArray, List.set_cons_succ, List.set_cons_zero]))
              refine (PubE KT5.out KPb.out.1 KPb.out.2 htsM.out Kp.out rfl).mono ?_
              rintro e w9 ⟨rfl, hPu⟩
              obtain ⟨M2, hT2, tu⟩ := hPu
              have q5 := (Kq.out.trans (Kq5.out.mono Kq.out.size)).trans ((KT.out.under Kq5.out).below tu)
              go_wp2_with fail
              go_roundg (gk - 1)
              case measure => omega
              case rel => exact ⟨i + 1, M2, by omega, by simp, by rw [Kst.out, Kus.out]; exact hT2, q5⟩
            · have hus : actK ts x = (dhL ts P Q).1 := by rw [actK_dh h3n h0n hk5, ← KPn.out, ← KQn.out]
              have KR : Kept (2 = x.kind % 5) := ⟨hk5.symm⟩
              obtain ⟨us, Nn, Fl, hp⟩ : ∃ us Nn Fl, dhL ts P Q = (us, Nn, Fl) := ⟨_, _, _, rfl⟩
              have Kp : Kept _ := ⟨hp⟩
              have Kus : Kept (actK ts x = us) := ⟨by rw [hus, hp]⟩
              clear hus hp hk5
              go_wp2_with (first | ((with_reducible refine wv_elem (d := 78) ?hd ?hw 5 Tryd.isAgg5 (.tmp 77) ?ho (⟨wz.heap.size, 0, none⟩) ?hx (.int .u8 (x.kind : Int)) ?hc ?_); (case hd => rfl); (case hw => kernel_rfl); (case ho => rfl); (case hx => kernel_rfl); (case hc => exact (KX5.out.cell K0.out)); simp only [Act.put, List.setIfInBounds_toArray, List.set_cons_succ, List.set_cons_zero]) | ((with_reducible refine wv_val (d := 79) ?hd ?hw (.int .u8 ((2 : Nat) : Int)) ?hr ?_); (case hd => rfl); (case hw => kernel_rfl); (case hr => intro w; exact run_remU5 rfl (by kernel_rfl) KR.out w); simp only [Act.put, List.setIfInBounds_toArray, List.set_cons_succ, List.set_cons_zero]))
              refine (DhE KT5.out KPb.out.1 KQb.out.1 KPb.out.2 KQb.out.2 htsM.out Kp.out).mono ?_
              rintro e w9 ⟨rfl, hPu⟩
              obtain ⟨M2, hT2, tu⟩ := hPu
              have q5 := (Kq.out.trans (Kq5.out.mono Kq.out.size)).trans ((KT.out.under Kq5.out).below tu)
              go_wp2_with fail
              go_roundg (gk - 1)
              case measure => omega
              case rel => exact ⟨i + 1, M2, by omega, by simp, by rw [Kst.out, Kus.out]; exact hT2, q5⟩
            · have hus : actK ts x = (putL ts (4, [x.s, P, T])).1 := by rw [actK_hash h3n h0n hk5, ← KPn.out, KTx.out.2]
              have KR : Kept (3 = x.kind % 5) := ⟨hk5.symm⟩
              obtain ⟨us, Nn, hp⟩ : ∃ us Nn, putL ts (4, [x.s, P, T]) = (us, Nn) := ⟨_, _, rfl⟩
              have Kp : Kept _ := ⟨hp⟩
              have Kus : Kept (actK ts x = us) := ⟨by rw [hus, hp]⟩
              clear hus hp hk5
              have b6 := (Below.refl w5.heap.size w5).alloc (Nat.le_refl _) (.cells #[.string (strOf x.s), .string (strOf P), .string (strOf T)] 9)
              have Kqe : Kept _ := ⟨Kq5.out.trans (b6.mono Kq5.out.size)⟩
              have KVn : Kept _ := ⟨new3 x.s P T w5⟩
              clear b6
              go_wp2_with (first | ((with_reducible refine wv_elem (d := 78) ?hd ?hw 5 Tryd.isAgg5 (.tmp 77) ?ho (⟨wz.heap.size, 0, none⟩) ?hx (.int .u8 (x.kind : Int)) ?hc ?_); (case hd => rfl); (case hw => kernel_rfl); (case ho => rfl); (case hx => kernel_rfl); (case hc => exact (KX5.out.cell K0.out)); simp only [Act.put, List.setIfInBounds_toArray, List.set_cons_succ, List.set_cons_zero]) | ((with_reducible refine wv_val (d := 79) ?hd ?hw (.int .u8 ((3 : Nat) : Int)) ?hr ?_); (case hd => rfl); (case hw => kernel_rfl); (case hr => intro w; exact run_remU5 rfl (by kernel_rfl) KR.out w); simp only [Act.put, List.setIfInBounds_toArray, List.set_cons_succ, List.set_cons_zero]) | ((with_reducible refine wv_elem (d := 111) ?hd ?hw 9 ag_str (.tmp 110) ?ho (⟨wz.heap.size, 3, none⟩) ?hx (.string (strOf x.s)) ?hc ?_); (case hd => rfl); (case hw => kernel_rfl); (case ho => rfl); (case hx => kernel_rfl); (case hc => exact (KX5.out.cell K3.out)); simp only [Act.put, List.setIfInBounds_toArray, List.set_cons_succ, List.set_cons_zero]) | (refine wl_bs3 (by kernel_rfl) (.tmp 111) (.tmp 112) (.tmp 113) rfl (x.s) (P) (T) (by kernel_rfl) (by kernel_rfl) (by kernel_rfl) ?_; simp only [Act.put, List.setIfInBounds_toArray, List.set_cons_succ, List.set_cons_zero]))
              refine (HashE (KT.out.under Kqe.out) (fun l h => by simp at h; rcases h with rfl | rfl | rfl <;> first | exact KOk.out.s | exact KPb.out.1 | exact KTx.out.1) KVn.out (fun l h => by simp at h; rcases h with rfl | rfl | rfl <;> first | exact KSl.out | exact KPb.out.2 | exact KTl.out) htsM.out Kp.out).mono ?_
              rintro e w9 ⟨rfl, hPu⟩
              obtain ⟨M2, hT2, tu⟩ := hPu
              have q5 := (Kq.out.trans (Kqe.out.mono Kq.out.size)).trans ((KT.out.under Kqe.out).below tu)
              go_wp2_with fail
              go_roundg (gk - 1)
              case measure => omega
              case rel => exact ⟨i + 1, M2, by omega, by simp, by rw [Kst.out, Kus.out]; exact hT2, q5⟩
            · have hus : actK ts x = (putL ts (5, [P, numL ns, x.s, T])).1 := by rw [actK_seal h3n h0n hk5, ← Kns.out, ← KPn.out, KTx.out.2]
              have KR : Kept (4 = x.kind % 5) := ⟨hk5.symm⟩
              obtain ⟨us, Nn, hp⟩ : ∃ us Nn, putL ts (5, [P, numL ns, x.s, T]) = (us, Nn) := ⟨_, _, rfl⟩
              have Kp : Kept _ := ⟨hp⟩
              have Kus : Kept (actK ts x = us) := ⟨by rw [hus, hp]⟩
              clear hus hp hk5
              go_wp2_with (first | ((with_reducible refine wv_elem (d := 78) ?hd ?hw 5 Tryd.isAgg5 (.tmp 77) ?ho (⟨wz.heap.size, 0, none⟩) ?hx (.int .u8 (x.kind : Int)) ?hc ?_); (case hd => rfl); (case hw => kernel_rfl); (case ho => rfl); (case hx => kernel_rfl); (case hc => exact (KX5.out.cell K0.out)); simp only [Act.put, List.setIfInBounds_toArray, List.set_cons_succ, List.set_cons_zero]) | ((with_reducible refine wv_val (d := 79) ?hd ?hw (.int .u8 ((4 : Nat) : Int)) ?hr ?_); (case hd => rfl); (case hw => kernel_rfl); (case hr => intro w; exact run_remU5 rfl (by kernel_rfl) KR.out w); simp only [Act.put, List.setIfInBounds_toArray, List.set_cons_succ, List.set_cons_zero]) | ((with_reducible refine wv_elem (d := 83) ?hd ?hw 9 ag_str (.tmp 82) ?ho (⟨wz.heap.size, 3, none⟩) ?hx (.string (strOf x.s)) ?hc ?_); (case hd => rfl); (case hw => kernel_rfl); (case ho => rfl); (case hx => kernel_rfl); (case hc => exact (KX5.out.cell K3.out)); simp only [Act.put, List.setIfInBounds_toArray, List.set_cons_succ, List.set_cons_zero]) | ((with_reducible refine wv_val (d := 84) ?hd ?hw (.int .i64 (ns : Int)) ?hr ?_); (case hd => rfl); (case hw => kernel_rfl); (case hr => intro w; exact run_slen rfl (by kernel_rfl) Kns.out w); simp only [Act.put, List.setIfInBounds_toArray, List.set_cons_succ, List.set_cons_zero]) | ((with_reducible refine wv_val (d := 85) ?hd ?hw (.int .u64 (ns : Int)) ?hr ?_); (case hd => rfl); (case hw => kernel_rfl); (case hr => intro w; exact run_c364 rfl (by kernel_rfl) hns62 w); simp only [Act.put, List.setIfInBounds_toArray, List.set_cons_succ, List.set_cons_zero]) | ((with_reducible refine wv_elem (d := 87) ?hd ?hw 9 ag_str (.tmp 86) ?ho (⟨wz.heap.size, 3, none⟩) ?hx (.string (strOf x.s)) ?hc ?_); (case hd => rfl); (case hw => kernel_rfl); (case ho => rfl); (case hx => kernel_rfl); (case hc => exact (KX5.out.cell K3.out)); simp only [Act.put, List.setIfInBounds_toArray, List.set_cons_succ, List.set_cons_zero]))
              refine (SealE KT5.out (by omega) KPb.out.1 KOk.out.s KTx.out.1 KPb.out.2 KSl.out KTl.out htsM.out Kp.out).mono ?_
              rintro e w9 ⟨rfl, hPu⟩
              obtain ⟨M2, hT2, tu⟩ := hPu
              have q5 := (Kq.out.trans (Kq5.out.mono Kq.out.size)).trans ((KT.out.under Kq5.out).below tu)
              go_wp2_with fail
              go_roundg (gk - 1)
              case measure => omega
              case rel => exact ⟨i + 1, M2, by omega, by simp, by rw [Kst.out, Kus.out]; exact hT2, q5⟩
    case pos =>
      obtain rfl : K = i := by omega
      rw [Ktf.out] at hT
      have KK2 : Kept (TermsK tf ∧ tf.length ≤ 30) := ⟨by
        refine ⟨by rw [← Ktf.out]; exact termsK_nil.acts (fun x hx => (KO.out x (List.mem_of_mem_take hx)).s), ?_⟩
        rw [← Ktf.out]
        have := actsK_len (l.take K) []
        rw [List.length_take] at this
        have h0 : ([] : List TermL).length = 0 := rfl
        have := KK.out
        omega⟩
      have h1M : tf.length < 1000000 := by have := KK2.out.2; omega
      have KL := AllD hT h1M
      obtain ⟨N, hN⟩ : ∃ N, N = tf.length := ⟨_, rfl⟩
      rw [← hN] at KL
      have KN : Kept _ := ⟨hN⟩
      have hN30 : N ≤ 30 := by rw [hN]; exact KK2.out.2
      have K1M : Kept _ := ⟨h1M⟩
      have KLK : Kept _ := ⟨KL⟩
      have KT : Kept _ := ⟨hT⟩
      have Kq : Kept _ := ⟨hq⟩
      clear hN h1M hT hq KL hik
      by_cases hKn : K < n
      case pos =>
        have hKn' : (K : Int) < (n : Int) := by omega
        have hK30' : ¬ (K : Int) < 30 := by have := KK.out; omega
        go_wp2_with fail
        refine KLK.out.mono ?_
        rintro e w5 ⟨⟨Va, rfl, hVa⟩, b5⟩
        obtain ⟨p3, c3, rfl, _⟩ := vals_form (vrow_vals hVa) (show (strs (namesL N)).length = N by rw [strs_len, namesL_len])
        have KT5 : Kept _ := ⟨KT.out.under b5⟩
        have KV5 : Kept _ := ⟨vrow_vals hVa⟩
        have Kq5 : Kept _ := ⟨Kq.out.trans (b5.mono Kq.out.size)⟩
        clear b5 hVa KT Kq KLK
        go_wp2_with fail
        go_loopg [11, 119] N (fun g s11 s119 wr => ∃ j : Nat, j + g = N ∧ s119 = .int .i64 (j : Int) ∧ MRow w5.heap.size (tf.take j) s11 wr ∧ Below w5.heap.size w5 wr)
        case atStart => exact ⟨0, by omega, rfl, mrow_nil _ _, Below.refl _ _⟩
        case round =>
          rename World => wy

          obtain ⟨j, hjk, rfl, hm, hb⟩ := hrel
          by_cases hk0 : gk = 0
          case pos =>
            obtain rfl : N = j := by omega
            have et : tf.take N = tf := List.take_of_length_le (by rw [KN.out]; exact Nat.le_refl _)
            rw [et] at hm
            have KM : Kept _ := ⟨hm.ts⟩
            clear hm et
            go_wp2_with fail
            go_ret2
            exact ⟨⟨tb, M, _, rfl, KT5.out.under hb, KM.out⟩, Kq5.out.trans (hb.mono Kq5.out.size)⟩
          case neg =>
            have hjN : j < N := by omega
            have hjN' : (j : Int) < (N : Int) := by omega
            have hjj : (j : Int) + 1 ≤ 9223372036854775807 := by omega
            obtain ⟨t, ht⟩ : ∃ t, tf[j]? = some t := ⟨_, List.getElem?_eq_getElem (by rw [← KN.out]; exact hjN)⟩
            have hx : (strs (namesL N))[j]? = some (.string (strOf (termN (j + 1)))) := strs_get (namesL_get hjN)
            obtain ⟨A, rfl, hAb, hcell⟩ := vals_at (KV5.out.under hb) hx
            have hPx := partX_name (ts := tf) (i := j) (by rw [← KN.out]; exact hjN) K1M.out
            rw [ht] at hPx
            obtain ⟨k, ll⟩ := t
            have CP := PartsE (k := k) (ll := ll) (KT5.out.under hb) (termN_bytes _) (termN_max _) K1M.out hPx
            obtain ⟨a, hA⟩ : ∃ a, a = termN (j + 1) := ⟨_, rfl⟩
            rw [← hA] at CP hcell
            have KC : Kept _ := ⟨hcell⟩
            have KCP : Kept _ := ⟨CP⟩
            have Kst : Kept (tf.take (j + 1) = tf.take j ++ [(k, ll)]) := ⟨by rw [List.take_add_one, ht]; rfl⟩
            have Km : Kept _ := ⟨hm⟩
            have Kb : Kept _ := ⟨hb⟩
            obtain ⟨m2, hm2⟩ : ∃ m, m = ll.length := ⟨_, rfl⟩
            have Km2 : Kept _ := ⟨hm2⟩
            have Ktl : Kept ((tf.take j).length + 1 ≤ 1000001) := ⟨by rw [List.length_take]; omega⟩
            clear hx hcell hPx CP hA ht hm hb hm2
            go_wp2_with (first | ((with_reducible refine wv_val (d := 121) ?hd ?hw (.pointer (some (A.add j))) ?hr ?_); (case hd => rfl); (case hw => kernel_rfl); (case hr => intro w; exact run_idxS (c := c3) rfl (by kernel_rfl) (by kernel_rfl) Tryd.underlying29 hjN Tryd.sizeOf9 w); simp only [Act.put, List.setIfInBounds_toArray, List.set_cons_succ, List.set_cons_zero]) | ((with_reducible refine wv_elem (d := 122) ?hd ?hw 9 ag_str (.tmp 121) ?ho (A.add j) ?hx (.string (strOf a)) ?hc ?_); (case hd => rfl); (case hw => kernel_rfl); (case ho => rfl); (case hx => kernel_rfl); (case hc => exact KC.out); simp only [Act.put, List.setIfInBounds_toArray, List.set_cons_succ, List.set_cons_zero]))
            refine KCP.out.mono ?_
            rintro e w6 ⟨⟨V2, rfl, hV2⟩, b6⟩
            obtain ⟨p4, c4, rfl, _⟩ := vals_form (vrow_vals hV2) (show (strs ll).length = m2 by rw [strs_len, Km2.out])
            have b7 := (Below.refl w6.heap.size w6).alloc (Nat.le_refl _) (.cells #[.int .u8 (k : Int), .slice p4 m2 c4] 41)
            have Km7 : Kept _ := ⟨(Km.out.under b6).under b7⟩
            have KV7 : Kept (VRow 0 9 (strs ll) (.slice p4 m2 c4) (w6.alloc (.cells #[.int .u8 (k : Int), .slice p4 m2 c4] 41))) := ⟨(hV2.mono (Nat.zero_le _)).under b7⟩
            have Kne : Kept (∀ b, blkOf (Value.slice p4 m2 c4) = some b → blkOf u11 ≠ some b) := ⟨fun b hb e => by
              have h1 := (hV2.range b hb).1
              have h2 := (Km.out.range b e).2
              omega⟩
            have Kc7 : Kept (∀ (j : Nat) (x : Value), ([.int .u8 (k : Int), .slice p4 m2 c4] : List Value)[j]? = some x → (w6.alloc (.cells #[.int .u8 (k : Int), .slice p4 m2 c4] 41)).cell? ((⟨w6.heap.size, 0, none⟩ : Addr).add j) = some x) := ⟨fun j x hx => by
              rw [addr_add, Nat.zero_add]
              refine (blk_new w6 41 #[.int .u8 (k : Int), .slice p4 m2 c4]).cell ?_
              rw [← Array.getElem?_toList]; exact hx⟩
            have h56 : w5.heap.size ≤ w6.heap.size := Nat.le_trans Kb.out.size b6.size
            have Kq7 : Kept _ := ⟨(Kb.out.trans (b6.mono Kb.out.size)).trans (b7.mono h56)⟩
            have Kh7 : Kept (w5.heap.size ≤ (w6.alloc (.cells #[.int .u8 (k : Int), .slice p4 m2 c4] 41)).heap.size) := ⟨Nat.le_trans h56 b7.size⟩
            clear b6 b7 hV2 h56 KCP
            go_wp2_with (first | ((with_reducible refine wv_val (d := 133) ?hd ?hw (.agg #[.int .u8 (k : Int), .slice p4 m2 c4]) ?hr ?_); (case hd => rfl); (case hw => kernel_rfl); (case hr => intro w; exact run_buildT rfl (by kernel_rfl) (by kernel_rfl) w); simp only [Act.put, List.setIfInBounds_toArray, List.set_cons_succ, List.set_cons_zero]) | (refine wl_bsT rfl (.tmp 133) rfl k p4 m2 c4 (by kernel_rfl) ?_; simp only [Act.put, List.setIfInBounds_toArray, List.set_cons_succ, List.set_cons_zero]) | ((refine wl_appM rfl (.tmp 130) (.tmp 134) rfl w5.heap.size k _ ll _ (.slice p4 m2 c4) ⟨w6.heap.size, 0, none⟩ (by kernel_rfl) (by kernel_rfl) Km7.out Kc7.out KV7.out Kne.out rfl Ktl.out Kh7.out ?_); intro v8 w8 hm8 hg8; simp only [Act.put, List.setIfInBounds_toArray, List.set_cons_succ, List.set_cons_zero]))
            go_roundg (gk - 1)
            case measure => omega
            case rel =>
              refine ⟨j + 1, by omega, by simp, by rw [Kst.out]; exact hm8, Kq7.out.trans (grown_mono hg8 Kh7.out (fun b hb => (Km7.out.range b hb).1))⟩
      case neg =>
        have hKn' : ¬ (K : Int) < (n : Int) := by omega
        go_wp2_with fail
        refine KLK.out.mono ?_
        rintro e w5 ⟨⟨Va, rfl, hVa⟩, b5⟩
        obtain ⟨p3, c3, rfl, _⟩ := vals_form (vrow_vals hVa) (show (strs (namesL N)).length = N by rw [strs_len, namesL_len])
        have KT5 : Kept _ := ⟨KT.out.under b5⟩
        have KV5 : Kept _ := ⟨vrow_vals hVa⟩
        have Kq5 : Kept _ := ⟨Kq.out.trans (b5.mono Kq.out.size)⟩
        clear b5 hVa KT Kq KLK
        go_wp2_with fail
        go_loopg [11, 119] N (fun g s11 s119 wr => ∃ j : Nat, j + g = N ∧ s119 = .int .i64 (j : Int) ∧ MRow w5.heap.size (tf.take j) s11 wr ∧ Below w5.heap.size w5 wr)
        case atStart => exact ⟨0, by omega, rfl, mrow_nil _ _, Below.refl _ _⟩
        case round =>
          rename World => wy

          obtain ⟨j, hjk, rfl, hm, hb⟩ := hrel
          by_cases hk0 : gk = 0
          case pos =>
            obtain rfl : N = j := by omega
            have et : tf.take N = tf := List.take_of_length_le (by rw [KN.out]; exact Nat.le_refl _)
            rw [et] at hm
            have KM : Kept _ := ⟨hm.ts⟩
            clear hm et
            go_wp2_with fail
            go_ret2
            exact ⟨⟨tb, M, _, rfl, KT5.out.under hb, KM.out⟩, Kq5.out.trans (hb.mono Kq5.out.size)⟩
          case neg =>
            have hjN : j < N := by omega
            have hjN' : (j : Int) < (N : Int) := by omega
            have hjj : (j : Int) + 1 ≤ 9223372036854775807 := by omega
            obtain ⟨t, ht⟩ : ∃ t, tf[j]? = some t := ⟨_, List.getElem?_eq_getElem (by rw [← KN.out]; exact hjN)⟩
            have hx : (strs (namesL N))[j]? = some (.string (strOf (termN (j + 1)))) := strs_get (namesL_get hjN)
            obtain ⟨A, rfl, hAb, hcell⟩ := vals_at (KV5.out.under hb) hx
            have hPx := partX_name (ts := tf) (i := j) (by rw [← KN.out]; exact hjN) K1M.out
            rw [ht] at hPx
            obtain ⟨k, ll⟩ := t
            have CP := PartsE (k := k) (ll := ll) (KT5.out.under hb) (termN_bytes _) (termN_max _) K1M.out hPx
            obtain ⟨a, hA⟩ : ∃ a, a = termN (j + 1) := ⟨_, rfl⟩
            rw [← hA] at CP hcell
            have KC : Kept _ := ⟨hcell⟩
            have KCP : Kept _ := ⟨CP⟩
            have Kst : Kept (tf.take (j + 1) = tf.take j ++ [(k, ll)]) := ⟨by rw [List.take_add_one, ht]; rfl⟩
            have Km : Kept _ := ⟨hm⟩
            have Kb : Kept _ := ⟨hb⟩
            obtain ⟨m2, hm2⟩ : ∃ m, m = ll.length := ⟨_, rfl⟩
            have Km2 : Kept _ := ⟨hm2⟩
            have Ktl : Kept ((tf.take j).length + 1 ≤ 1000001) := ⟨by rw [List.length_take]; omega⟩
            clear hx hcell hPx CP hA ht hm hb hm2
            go_wp2_with (first | ((with_reducible refine wv_val (d := 121) ?hd ?hw (.pointer (some (A.add j))) ?hr ?_); (case hd => rfl); (case hw => kernel_rfl); (case hr => intro w; exact run_idxS (c := c3) rfl (by kernel_rfl) (by kernel_rfl) Tryd.underlying29 hjN Tryd.sizeOf9 w); simp only [Act.put, List.setIfInBounds_toArray, List.set_cons_succ, List.set_cons_zero]) | ((with_reducible refine wv_elem (d := 122) ?hd ?hw 9 ag_str (.tmp 121) ?ho (A.add j) ?hx (.string (strOf a)) ?hc ?_); (case hd => rfl); (case hw => kernel_rfl); (case ho => rfl); (case hx => kernel_rfl); (case hc => exact KC.out); simp only [Act.put, List.setIfInBounds_toArray, List.set_cons_succ, List.set_cons_zero]))
            refine KCP.out.mono ?_
            rintro e w6 ⟨⟨V2, rfl, hV2⟩, b6⟩
            obtain ⟨p4, c4, rfl, _⟩ := vals_form (vrow_vals hV2) (show (strs ll).length = m2 by rw [strs_len, Km2.out])
            have b7 := (Below.refl w6.heap.size w6).alloc (Nat.le_refl _) (.cells #[.int .u8 (k : Int), .slice p4 m2 c4] 41)
            have Km7 : Kept _ := ⟨(Km.out.under b6).under b7⟩
            have KV7 : Kept (VRow 0 9 (strs ll) (.slice p4 m2 c4) (w6.alloc (.cells #[.int .u8 (k : Int), .slice p4 m2 c4] 41))) := ⟨(hV2.mono (Nat.zero_le _)).under b7⟩
            have Kne : Kept (∀ b, blkOf (Value.slice p4 m2 c4) = some b → blkOf u11 ≠ some b) := ⟨fun b hb e => by
              have h1 := (hV2.range b hb).1
              have h2 := (Km.out.range b e).2
              omega⟩
            have Kc7 : Kept (∀ (j : Nat) (x : Value), ([.int .u8 (k : Int), .slice p4 m2 c4] : List Value)[j]? = some x → (w6.alloc (.cells #[.int .u8 (k : Int), .slice p4 m2 c4] 41)).cell? ((⟨w6.heap.size, 0, none⟩ : Addr).add j) = some x) := ⟨fun j x hx => by
              rw [addr_add, Nat.zero_add]
              refine (blk_new w6 41 #[.int .u8 (k : Int), .slice p4 m2 c4]).cell ?_
              rw [← Array.getElem?_toList]; exact hx⟩
            have h56 : w5.heap.size ≤ w6.heap.size := Nat.le_trans Kb.out.size b6.size
            have Kq7 : Kept _ := ⟨(Kb.out.trans (b6.mono Kb.out.size)).trans (b7.mono h56)⟩
            have Kh7 : Kept (w5.heap.size ≤ (w6.alloc (.cells #[.int .u8 (k : Int), .slice p4 m2 c4] 41)).heap.size) := ⟨Nat.le_trans h56 b7.size⟩
            clear b6 b7 hV2 h56 KCP
            go_wp2_with (first | ((with_reducible refine wv_val (d := 133) ?hd ?hw (.agg #[.int .u8 (k : Int), .slice p4 m2 c4]) ?hr ?_); (case hd => rfl); (case hw => kernel_rfl); (case hr => intro w; exact run_buildT rfl (by kernel_rfl) (by kernel_rfl) w); simp only [Act.put, List.setIfInBounds_toArray, List.set_cons_succ, List.set_cons_zero]) | (refine wl_bsT rfl (.tmp 133) rfl k p4 m2 c4 (by kernel_rfl) ?_; simp only [Act.put, List.setIfInBounds_toArray, List.set_cons_succ, List.set_cons_zero]) | ((refine wl_appM rfl (.tmp 130) (.tmp 134) rfl w5.heap.size k _ ll _ (.slice p4 m2 c4) ⟨w6.heap.size, 0, none⟩ (by kernel_rfl) (by kernel_rfl) Km7.out Kc7.out KV7.out Kne.out rfl Ktl.out Kh7.out ?_); intro v8 w8 hm8 hg8; simp only [Act.put, List.setIfInBounds_toArray, List.set_cons_succ, List.set_cons_zero]))
            go_roundg (gk - 1)
            case measure => omega
            case rel =>
              refine ⟨j + 1, by omega, by simp, by rw [Kst.out]; exact hm8, Kq7.out.trans (grown_mono hg8 Kh7.out (fun b hb => (Km7.out.range b hb).1))⟩
end Go.Proofs.YtniogaimhkcedaaDoor.sh
