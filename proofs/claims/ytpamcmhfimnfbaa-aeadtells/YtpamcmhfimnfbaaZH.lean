/-
  The reference of layer 7: Seal and Open.
-/
import Derived.Test.YtpamcmhfimnfbaaZG
namespace Go.Proofs.Ytpamcmhfimnfbaa.sh
open Go Go.RowKit
set_option linter.unusedVariables false
set_option linter.unusedSimpArgs false

def RowS (B : Nat) (U : List Nat) : Value → World → Prop := Row B 5 .u8 U
def PairR (B : Nat) (U : List Nat) : Value → World → Prop := fun v w => ∃ u, v = .tuple #[u, .int .i64 0] ∧ Row B 5 .u8 U u w
theorem PairR.under {B : Nat} {U : List Nat} {v : Value} {w w' : World} (h : PairR B U v w) (hb : Below w.heap.size w w') : PairR B U v w' := by
  obtain ⟨u, h1, h2⟩ := h
  exact ⟨u, h1, h2.under hb⟩
theorem mv_pairR {B : Nat} {U : List Nat} {o : Oper} {a : Act} {s : Nat} {w : World} (ho : o.op = .move (.tmp s)) (h : PairR B U (a.eval (.tmp s)) w) : ∃ v, (execOp a.eval o).run Try.prog w = .ok (.value v) w ∧ PairR B U v w := by
  refine ⟨_, ?_, h⟩
  unfold execOp
  simp only [ho]
  simp [go_sem]
theorem ex_fstR {B : Nat} {U : List Nat} {o : Oper} {a : Act} {s : Nat} {w : World} (ho : o.op = .extract (.tmp s) 0) (h : PairR B U (a.eval (.tmp s)) w) : ∃ v, (execOp a.eval o).run Try.prog w = .ok (.value v) w ∧ RowS B U v w := by
  obtain ⟨u, h1, h2⟩ := h
  refine ⟨u, ?_, h2⟩
  unfold execOp
  simp only [ho, h1]
  simp [go_sem]
theorem ex_sndR {B : Nat} {U : List Nat} {o : Oper} {a : Act} {s : Nat} {w : World} (ho : o.op = .extract (.tmp s) 1) (h : PairR B U (a.eval (.tmp s)) w) : (execOp a.eval o).run Try.prog w = .ok (.value (.int .i64 0)) w := by
  obtain ⟨u, h1, h2⟩ := h
  unfold execOp
  simp only [ho, h1]
  simp [go_sem]
theorem as_row {B : Nat} {U : List Nat} {o : Oper} {a : Act} {s : Nat} {w : World} (ho : o.op = .assign (.tmp s)) (h : RowS B U (a.eval (.tmp s)) w) : ∃ v, (execOp a.eval o).run Try.prog w = .ok (.value v) w ∧ RowS B U v w := by
  refine ⟨_, ?_, h⟩
  unfold execOp
  simp only [ho]
  simp [go_sem]
theorem fold_push : ∀ (l : List Nat) (b : ByteArray), ((l.map fun n : Nat => (n : Int)).foldl (fun r n => r.push (UInt8.ofNat n.toNat)) b).data.toList = b.data.toList ++ l.map (fun n => UInt8.ofNat n)
  | [], b => by simp
  | x :: l, b => by
    rw [List.map_cons, List.foldl_cons, fold_push l]
    simp [ByteArray.push]
theorem strOf_data (l : List Nat) : (strOf l).data.toList = l.map (fun n => UInt8.ofNat n) := by
  unfold strOf
  rw [fold_push]
  rfl
theorem strOf_inj {l m : List Nat} (hl : Bytes l) (hm : Bytes m) (h : (strOf l).toList = (strOf m).toList) : l = m := by
  rw [ByteArray.toList_eq, ByteArray.toList_eq] at h
  have h1 : l.map (fun n => UInt8.ofNat n) = m.map (fun n => UInt8.ofNat n) := by rw [← strOf_data, ← strOf_data, h]
  have h2 : ∀ k : List Nat, Bytes k → (k.map (fun n => UInt8.ofNat n)).map (fun u => u.toNat) = k := fun k hk => by
    rw [List.map_map]
    conv => rhs; rw [← List.map_id k]
    refine List.map_congr_left fun x hx => ?_
    have := hk.all x hx
    simp
    omega
  rw [← h2 l hl, h1, h2 m hm]
theorem str_beq {l m : List Nat} (hl : Bytes l) (hm : Bytes m) : ((strOf l).toList == (strOf m).toList) = decide (l = m) := by
  by_cases h : l = m
  · rw [h]; simp
  · rw [decide_eq_false h]
    exact beq_eq_false_iff_ne.2 (fun e => h (strOf_inj hl hm e))
theorem run_neq_strN {o : Oper} {a : Act} {x y : Operand} {u : TypeId} {s t : ByteArray} (b : Bool) (ho : o.op = .binOp .neq 9 x y u) (hx : a.eval x = .string s) (hy : a.eval y = .string t) (hb : (s.toList == t.toList) = !b) (w : World) : (execOp a.eval o).run Try.prog w = .ok (.value (.bool b)) w := by
  have e : b = !(s.toList == t.toList) := by rw [hb, Bool.not_not]
  unfold execOp
  simp only [ho, hx, hy]
  rw [e]
  simp [go_sem]

set_option maxRecDepth 100000 in
set_option maxHeartbeats 2000000 in
theorem rSealD (key : List Nat) (n : Nat) (a b : List Nat) (va vb : Value) (w : World) (hk : key.length = 32) (hy : Bytes key) (hn : n < 18446744073709551616) (hva : BytesV va w a) (hvb : BytesV vb w b) (hya : Bytes a) (hyb : Bytes b) (la : a.length ≤ 1000) (lb : b.length ≤ 1000) :
    Calls Try.prog 10 #[.agg (ints .u8 key), .int .u64 (n : Int), va, vb] w fun e w' => ∃ v, e = .returned (.tuple #[v, .int .i64 0]) ∧ BytesV v w' (sealL key n a b) ∧ Below w.heap.size w w' := by
  have KA : Kept _ := ⟨hva⟩
  have KB : Kept _ := ⟨hvb⟩
  obtain ⟨na, hna⟩ : ∃ n, n = a.length := ⟨_, rfl⟩
  obtain ⟨nb, hnb⟩ : ∃ n, n = b.length := ⟨_, rfl⟩
  obtain ⟨pa, ca, rfl⟩ := slice_form hva hna.symm
  obtain ⟨pb, cb, rfl⟩ := slice_form hvb hnb.symm
  obtain ⟨NN, hNN⟩ : ∃ l, l = nonceL n := ⟨_, rfl⟩
  obtain ⟨E, hE⟩ : ∃ l, l = encL key NN 1 b := ⟨_, rfl⟩
  obtain ⟨T, hT⟩ : ∃ l, l = markL key n a E := ⟨_, rfl⟩
  have ES : Kept (sealL key n a b = E ++ T) := ⟨by rw [hT, hE, hNN]; rfl⟩
  have LE : Kept (E.length = nb) := ⟨by rw [hE, encL_len, ← hnb]⟩
  have LT : Kept (T.length = 16) := ⟨by rw [hT]; exact markL_len _ _ _ _⟩
  have LKY : Kept _ := ⟨hk⟩
  have A0 : Blk (w.alloc (.cells (ints .u8 key) 22)) w.heap.size 22 (ints .u8 key) := blk_new w _ _
  have Q0 : Below w.heap.size w (w.alloc (.cells (ints .u8 key) 22)) := (Below.refl _ _).alloc (Nat.le_refl _) _
  have CNO : Kept (∀ w', Below (w.alloc (.cells (ints .u8 key) 22)).heap.size (w.alloc (.cells (ints .u8 key) 22)) w' → Calls Try.prog 17 [.int .u64 (n : Int)].toArray w' fun e w2 => e = .returned (.agg (ints .u8 NN)) ∧ Below w'.heap.size w' w2) := ⟨fun w' _ => by rw [hNN]; exact rnonceD n w' hn⟩
  have CX : Kept (∀ w', Below (w.alloc (.cells (ints .u8 key) 22)).heap.size (w.alloc (.cells (ints .u8 key) 22)) w' → Calls Try.prog 16 [.agg (ints .u8 key), .agg (ints .u8 NN), .int .u32 1, .slice pb nb cb].toArray w' fun e w2 => ∃ v, e = .returned (.tuple #[v, .int .i64 0]) ∧ Row (w.alloc (.cells (ints .u8 key) 22)).heap.size 5 .u8 E v w2 ∧ Below w'.heap.size w' w2) := ⟨fun w' hb => by
    rw [hE]
    refine (rXor_row key NN b 1 _ w' hk hy (by rw [hNN]; exact nonceL_len n) (by rw [hNN]; exact nonceL_bytes n) hyb ((KB.out.under Q0).under hb) (by decide) (by omega) (by omega)).mono ?_
    rintro e w2 ⟨v, h1, h2, h3⟩
    exact ⟨v, h1, h2.mono hb.size, h3⟩⟩
  have CTG : Kept (∀ (vc : Value) (w' : World), Below w.heap.size w w' → BytesV vc w' E → Calls Try.prog 18 #[.agg (ints .u8 key), .int .u64 (n : Int), .slice pa na ca, vc] w' fun e w2 => ∃ v, e = .returned v ∧ BytesV v w2 T ∧ Below w'.heap.size w' w2) := ⟨fun vc w' hb hv => by
    rw [hT]
    exact rtagD key n a E _ vc w' hk hy hn (KA.out.under hb) hv hya (by rw [hE]; exact encL_bytes _ _ _ hyb) (by omega) (by rw [LE.out]; omega)⟩
  have h1' : ¬ (60000 : Int) < (na : Int) := by omega
  have h2' : ¬ (60000 : Int) < (nb : Int) := by omega
  have nbB : nb ≤ 1000 := by omega
  clear hk hy hn hya hyb hna hnb hNN hE hT hva hvb la lb
  go_enter Try.func10, Try.ntmps10
  go_wp2_with fail
  generalize hW : w.alloc (.cells (ints .u8 key) 22) = w0 at *
  clear hW
  refine region_ownNL w0 10 [(21, .agg (ints .u8 key)), (22, .int .u64 (n : Int)), (23, .agg (ints .u8 NN)), (24, .slice pb nb cb), (27, .int .i64 0), (11, .int .i64 0)] [(25, PairR w0.heap.size E), (20, PairR w0.heap.size E), (26, RowS w0.heap.size E), (10, RowS w0.heap.size E)] [] [] rfl (by kernel_rfl) (by kernel_rfl) (by kernel_rfl) (by kernel_rfl) (by kernel_rfl) (by kernel_rfl) (by kernel_rfl) (by kernel_rfl) (by kernel_rfl) (by kernel_rfl) (by kernel_rfl) ?hst1 ?hst2 (Below.refl _ _) (fun hA => ⟨ow_row hA (wants_none rfl) 21 (.agg (ints .u8 key)) (by kernel_rfl) rfl rfl rfl rfl (by kernel_rfl) 22 (.tmp 4) rfl (w.heap.size) (by kernel_rfl) 22 (ints .u8 key) 32 5 Try.underlying22 ((by rw [ints_size, LKY.out]; exact t32_info)) (fun w1 hb => A0.under hb) rfl, ow_val hA (wants_none rfl) 22 (.int .u64 (n : Int)) (by kernel_rfl) rfl rfl rfl rfl (by kernel_rfl) (fun w => by kernel_rfl), ow_calld hA (wants_none rfl) 23 (.agg (ints .u8 NN)) (by kernel_rfl) rfl rfl rfl rfl (by kernel_rfl) 17 Try.f17 _ [.tmp 22] _ [.int .u64 (n : Int)] rfl (by kernel_rfl) Try.func17 (by kernel_rfl) rfl (CNO.out), ow_val hA (wants_none rfl) 24 (.slice pb nb cb) (by kernel_rfl) rfl rfl rfl rfl (by kernel_rfl) (fun w => by kernel_rfl), ow_call (wants_none rfl) 25 16 Try.f16 _ [.tmp 21, .tmp 23, .const (.int .u32 1), .tmp 24] _ rfl rfl Try.func16 (by kernel_rfl) rfl (fun a w1 hF hb hgot => by rw [List.map_cons, List.map_cons, List.map_cons, List.map_cons, List.map_nil, gotE_det (v := .agg (ints .u8 key)) hA hgot (by kernel_rfl) rfl rfl (by kernel_rfl), gotE_det (v := .agg (ints .u8 NN)) hA hgot (by kernel_rfl) rfl rfl (by kernel_rfl), gotE_det (v := .slice pb nb cb) hA hgot (by kernel_rfl) rfl rfl (by kernel_rfl)]; exact (CX.out w1 hb).mono fun e w2 hh => by obtain ⟨u, h1, h2, h3⟩ := hh; exact ⟨_, h1, rel_spec _ rfl ⟨u, rfl, h2⟩, h3, fun h => by cases h⟩), ow_pure (wants_none rfl) 20 25 rfl _ _ rfl rfl (by kernel_rfl) rfl rfl (fun a w1 h1 => mv_pairR rfl h1), ow_pure (wants_none rfl) 26 20 rfl _ _ rfl rfl (by kernel_rfl) rfl rfl (fun a w1 h1 => ex_fstR rfl h1), ow_pureD hA (wants_none rfl) 27 20 rfl _ (.int .i64 0) rfl rfl (by kernel_rfl) (by kernel_rfl) rfl rfl (fun a w1 h1 => ex_sndR rfl h1), ow_pure (wants_none rfl) 10 26 rfl _ _ rfl rfl (by kernel_rfl) rfl rfl (fun a w1 h1 => as_row rfl h1), ow_val hA (wants_none rfl) 11 (.int .i64 0) (by kernel_rfl) rfl rfl rfl rfl (by kernel_rfl) (fun w => by kernel_rfl), trivial⟩) ?_
  case hst1 =>
    intro q hq hO v w3 w4 h1 h2 h3 h4
    simp only [List.mem_cons, List.not_mem_nil, or_false] at hq
    rcases hq with rfl | rfl | rfl | rfl
    · exact PairR.under h1 (h4 rfl)
    · exact PairR.under h1 (h4 rfl)
    · exact Row.under h1 (h4 rfl)
    · exact Row.under h1 (h4 rfl)
  case hst2 => intro q hq hO; cases hO
  intro fv w1 hf hD hb1
  have h10 := (hf 10 _ rfl rfl).1
  simp only [putR, List.foldl_cons, List.foldl_nil, List.map_cons, List.map_nil, Act.put, List.setIfInBounds_toArray, List.set_cons_succ, List.set_cons_zero]
  obtain ⟨v10, e10⟩ : ∃ v, v = fv 10 := ⟨_, rfl⟩
  rw [← e10] at h10 ⊢
  have R10 : Kept (Row w0.heap.size 5 .u8 E v10 w1) := ⟨h10⟩
  generalize fv 25 = f25 at *
  generalize fv 20 = f20 at *
  generalize fv 26 = f26 at *
  have A1 := A0.under hb1
  clear hf hD CNO CX h10 e10
  refine (show wpList _ _ _ [] _ _ from ?_)
  refine wpList_nil ?_
  have C1 := CTG.out v10 w1 (Q0.trans (hb1.mono Q0.size)) (row_bytes R10.out)
  go_wp2_with (first | ((with_reducible refine wv_row (d := 29) ?hd ?hw 22 (.tmp 4) ?ho (w.heap.size) ?hx (t' := 22) (ints .u8 key) _ _ Try.underlying22 ?hs ?hg ?_); (case hd => rfl); (case hw => kernel_rfl); (case ho => rfl); (case hx => kernel_rfl); (case hs => rw [ints_size, LKY.out]; exact t32_info); (case hg => exact A1); simp only [Act.put, List.setIfInBounds_toArray, List.set_cons_succ, List.set_cons_zero]))
  refine C1.mono ?_
  rintro e w2 ⟨v2, rfl, h2, hb2⟩
  have R2 : Kept _ := ⟨R10.out.under hb2⟩
  have V2 : Kept _ := ⟨h2⟩
  have SN : Kept (E.length + T.length ≤ 8796093022208) := ⟨by rw [LE.out, LT.out]; omega⟩
  have Q2 := hb1.trans (hb2.mono hb1.size)
  have SB := Q2.size
  clear C1 h2 hb2 hb1 A1 R10
  go_wp2_with (first | (refine wl_app (by kernel_rfl) (.tmp 28) (.tmp 33) 24 5 .u8 1 rfl Try.underlying24 inf_u8 (by decide) w0.heap.size E T _ _ rfl rfl R2.out V2.out SN.out SB ?_))
  intro v3 w3 r3 g3 _
  have Q3 := app_below Q2 SB R2.out g3
  have V3 : Kept (BytesV v3 w3 (sealL key n a b)) := ⟨by rw [ES.out]; exact row_bytes r3⟩
  have QQ := Q0.trans (Q3.mono Q0.size)
  clear r3 g3 R2 V2 SN SB Q2 Q3
  go_wp2_with fail
  go_ret2
  exact ⟨_, rfl, V3.out, QQ⟩

set_option maxRecDepth 100000 in
set_option maxHeartbeats 400000 in
theorem rOpen_short (key : List Nat) (n : Nat) (a b : List Nat) (va vb : Value) (w : World) (hva : BytesV va w a) (hvb : BytesV vb w b) (la : a.length ≤ 1000) (lb : b.length < 16) :
    Calls Try.prog 12 #[.agg (ints .u8 key), .int .u64 (n : Int), va, vb] w fun e w' => e = .returned (.tuple #[.slice none 0 0, .int .i64 4]) ∧ Below w.heap.size w w' := by
  obtain ⟨na, hna⟩ : ∃ n, n = a.length := ⟨_, rfl⟩
  obtain ⟨nb, hnb⟩ : ∃ n, n = b.length := ⟨_, rfl⟩
  obtain ⟨pa, ca, rfl⟩ := slice_form hva hna.symm
  obtain ⟨pb, cb, rfl⟩ := slice_form hvb hnb.symm
  have Q0 : Below w.heap.size w (w.alloc (.cells (ints .u8 key) 22)) := (Below.refl _ _).alloc (Nat.le_refl _) _
  have h1' : ¬ (60000 : Int) < (na : Int) := by omega
  have h2' : ¬ (60016 : Int) < (nb : Int) := by omega
  have h3' : (nb : Int) < 16 := by omega
  clear hna hnb hva hvb
  go_enter Try.func12, Try.ntmps12
  go_wp2_with fail
  go_ret2
  exact ⟨rfl, Q0⟩

set_option maxRecDepth 100000 in
set_option maxHeartbeats 2000000 in
theorem rOpen_any (key : List Nat) (n : Nat) (a b : List Nat) (va vb : Value) (w : World) (hk : key.length = 32) (hy : Bytes key) (hn : n < 18446744073709551616) (hva : BytesV va w a) (hvb : BytesV vb w b) (hya : Bytes a) (hyb : Bytes b) (la : a.length ≤ 1000) (lb : b.length ≤ 1000) (l16 : 16 ≤ b.length) :
    Calls Try.prog 12 #[.agg (ints .u8 key), .int .u64 (n : Int), va, vb] w fun e w' => Below w.heap.size w w' ∧ ∃ v, (markL key n a (b.take (b.length - 16)) = b.drop (b.length - 16) ∧ e = .returned (.tuple #[v, .int .i64 0]) ∧ BytesV v w' (encL key (nonceL n) 1 (b.take (b.length - 16)))) ∨ (markL key n a (b.take (b.length - 16)) ≠ b.drop (b.length - 16) ∧ e = .returned (.tuple #[v, .int .i64 5]) ∧ v = .slice none 0 0) := by
  have KA : Kept _ := ⟨hva⟩
  have KB : Kept _ := ⟨hvb⟩
  obtain ⟨na, hna⟩ : ∃ n, n = a.length := ⟨_, rfl⟩
  obtain ⟨nb, hnb⟩ : ∃ n, n = b.length := ⟨_, rfl⟩
  obtain ⟨pa, ca, rfl⟩ := slice_form hva hna.symm
  obtain ⟨pb, cb, rfl⟩ := slice_form hvb hnb.symm
  obtain ⟨NN, hNN⟩ : ∃ l, l = nonceL n := ⟨_, rfl⟩
  rw [← hNN, ← hnb]
  obtain ⟨m, hm⟩ : ∃ m, m = nb - 16 := ⟨_, rfl⟩
  rw [← hm]
  obtain ⟨C, hC⟩ : ∃ l, l = b.take m := ⟨_, rfl⟩
  obtain ⟨D, hD⟩ : ∃ l, l = b.drop m := ⟨_, rfl⟩
  rw [← hC, ← hD]
  obtain ⟨T, hT⟩ : ∃ l, l = markL key n a C := ⟨_, rfl⟩
  rw [← hT]
  obtain ⟨X, hX⟩ : ∃ l, l = encL key NN 1 C := ⟨_, rfl⟩
  rw [← hX]
  obtain ⟨pf, hpf⟩ : ∃ q, q = if cb = m then pb else pb.map (·.add m) := ⟨_, rfl⟩
  obtain ⟨cf, hcf⟩ : ∃ q, q = cb - m := ⟨_, rfl⟩
  obtain ⟨NE, hNE⟩ : ∃ q : Bool, q = !(decide (T = D)) := ⟨_, rfl⟩
  have hcb : nb ≤ cb := (by obtain ⟨_, _, e1, h2, _⟩ := hvb; simp only [Value.slice.injEq] at e1; omega)
  have VC : Kept (BytesV (.slice pb m cb) w C) := ⟨by rw [hC]; exact (bytesV_ints KB.out).take (by rw [← hnb]; omega)⟩
  have VD : Kept (BytesV (.slice pf 16 cf) w D) := ⟨by
    have h1 := KB.out
    rw [hnb] at h1
    have h2 := h1.cut (k := m) (by rw [← hnb]; omega)
    rw [← hnb, show nb - m = 16 by omega, ← hpf, ← hcf, ← hD] at h2
    exact h2⟩
  have LC : Kept (C.length = m) := ⟨by rw [hC, List.length_take, ← hnb]; omega⟩
  have YC : Bytes C := by rw [hC]; exact hyb.take m
  have YD : Bytes D := by rw [hD]; exact hyb.drop m
  have YT : Bytes T := by rw [hT]; exact markL_bytes _ _ _ _
  have HS : Kept (((strOf T).toList == (strOf D).toList) = !NE) := ⟨by rw [str_beq YT YD, hNE, Bool.not_not]⟩
  have ENE : Kept _ := ⟨hNE⟩
  have LKY : Kept _ := ⟨hk⟩
  have Em : Kept (nb = m + 16) := ⟨by omega⟩
  have Epf : Kept _ := ⟨hpf⟩
  have Ecf : Kept _ := ⟨hcf⟩
  have E16 : Kept ((16 : Nat) = nb - m) := ⟨by omega⟩
  have hmc : m ≤ cb := by omega
  have hmn : m ≤ nb := by omega
  have nb62 : nb < 4611686018427387904 := by omega
  have m10 : m ≤ 1000 := by omega
  have na10 : na ≤ 1000 := by omega
  have h1' : ¬ (60000 : Int) < (na : Int) := by omega
  have h2' : ¬ (60016 : Int) < (nb : Int) := by omega
  have h3' : ¬ (nb : Int) < 16 := by omega
  have A0 : Blk (w.alloc (.cells (ints .u8 key) 22)) w.heap.size 22 (ints .u8 key) := blk_new w _ _
  have Q0 : Below w.heap.size w (w.alloc (.cells (ints .u8 key) 22)) := (Below.refl _ _).alloc (Nat.le_refl _) _
  have CNQ : Kept (∀ w', Calls Try.prog 17 [.int .u64 (n : Int)].toArray w' fun e w2 => e = .returned (.agg (ints .u8 NN)) ∧ Below w'.heap.size w' w2) := ⟨fun w' => by rw [hNN]; exact rnonceD n w' hn⟩
  have CXQ : Kept (∀ w', Below w.heap.size w w' → Calls Try.prog 16 [.agg (ints .u8 key), .agg (ints .u8 NN), .int .u32 1, .slice pb m cb].toArray w' fun e w2 => ∃ v, e = .returned (.tuple #[v, .int .i64 0]) ∧ Row w'.heap.size 5 .u8 X v w2 ∧ Below w'.heap.size w' w2) := ⟨fun w' hb => by
    rw [hX]
    exact rXor_row key NN C 1 _ w' hk hy (by rw [hNN]; exact nonceL_len n) (by rw [hNN]; exact nonceL_bytes n) YC (VC.out.under hb) (by decide) (by rw [LC.out]; omega) (by rw [LC.out]; omega)⟩
  have CTG : Kept (∀ w', Below (w.alloc (.cells (ints .u8 key) 22)).heap.size (w.alloc (.cells (ints .u8 key) 22)) w' → Calls Try.prog 18 [.agg (ints .u8 key), .int .u64 (n : Int), .slice pa na ca, .slice pb m cb].toArray w' fun e w2 => ∃ v, e = .returned v ∧ BytesV v w2 T ∧ Below w'.heap.size w' w2) := ⟨fun w' hb => by
    rw [hT]
    exact rtagD key n a C _ _ w' hk hy hn ((KA.out.under Q0).under hb) ((VC.out.under Q0).under hb) hya YC (by omega) (by rw [LC.out]; omega)⟩
  clear hk hy hn hya hyb hna hnb hNN hm hC hD hT hX hpf hcf hva hvb la lb l16 YC YD YT hNE
  go_enter Try.func12, Try.ntmps12
  go_wp2_with (first | ((with_reducible refine wv_val (d := 27) ?hd ?hw (.int .i64 (m : Int)) ?hr ?_); (case hd => rfl); (case hw => kernel_rfl); (case hr => intro w; exact run_subZ 16 rfl (by kernel_rfl) Em.out nb62 w); simp only [Act.put, List.setIfInBounds_toArray, List.set_cons_succ, List.set_cons_zero]) | ((with_reducible refine wv_val (d := 28) ?hd ?hw (.slice pb m cb) ?hr ?_); (case hd => rfl); (case hw => kernel_rfl); (case hr => intro w; exact cutTo_run (p := pb) (l := nb) (c := cb) (m := m) rfl (by kernel_rfl) (by kernel_rfl) Try.underlying24 sz_u8 hmc w); simp only [Act.put, List.setIfInBounds_toArray, List.set_cons_succ, List.set_cons_zero]))
  generalize hW : w.alloc (.cells (ints .u8 key) 22) = w0 at *
  clear hW
  refine region_ownNL w0 13 [(29, .agg (ints .u8 key)), (30, .int .u64 (n : Int)), (31, .slice pa na ca), (32, .slice pb m cb), (34, .string (strOf T)), (35, .slice pb nb cb), (36, .slice pb nb cb), (37, .int .i64 (nb : Int)), (38, .int .i64 (m : Int)), (39, .slice pf 16 cf), (40, .string (strOf D)), (41, .bool NE)] [(33, BytesS T)] [] [] rfl (by kernel_rfl) (by kernel_rfl) (by kernel_rfl) (by kernel_rfl) (by kernel_rfl) (by kernel_rfl) (by kernel_rfl) (by kernel_rfl) (by kernel_rfl) (by kernel_rfl) (by kernel_rfl) ?hst1 ?hst2 (Below.refl _ _) (fun hA => ⟨ow_row hA (wants_none rfl) 29 (.agg (ints .u8 key)) (by kernel_rfl) rfl rfl rfl rfl (by kernel_rfl) 22 (.tmp 4) rfl (w.heap.size) (by kernel_rfl) 22 (ints .u8 key) 32 5 Try.underlying22 ((by rw [ints_size, LKY.out]; exact t32_info)) (fun w1 hb => A0.under hb) rfl, ow_val hA (wants_none rfl) 30 (.int .u64 (n : Int)) (by kernel_rfl) rfl rfl rfl rfl (by kernel_rfl) (fun w => by kernel_rfl), ow_val hA (wants_none rfl) 31 (.slice pa na ca) (by kernel_rfl) rfl rfl rfl rfl (by kernel_rfl) (fun w => by kernel_rfl), ow_val hA (wants_none rfl) 32 (.slice pb m cb) (by kernel_rfl) rfl rfl rfl rfl (by kernel_rfl) (fun w => by kernel_rfl), ow_call (wants_none rfl) 33 18 Try.f18 _ [.tmp 29, .tmp 30, .tmp 31, .tmp 32] _ rfl rfl Try.func18 (by kernel_rfl) rfl (fun a w1 hF hb hgot => by rw [List.map_cons, List.map_cons, List.map_cons, List.map_cons, List.map_nil, gotE_det (v := .agg (ints .u8 key)) hA hgot (by kernel_rfl) rfl rfl (by kernel_rfl), gotE_det (v := .int .u64 (n : Int)) hA hgot (by kernel_rfl) rfl rfl (by kernel_rfl), gotE_det (v := .slice pa na ca) hA hgot (by kernel_rfl) rfl rfl (by kernel_rfl), gotE_det (v := .slice pb m cb) hA hgot (by kernel_rfl) rfl rfl (by kernel_rfl)]; exact (CTG.out w1 hb).mono fun e w2 hh => by obtain ⟨u, h1, h2, h3⟩ := hh; exact ⟨_, h1, rel_spec _ rfl h2, h3, fun h => by cases h⟩), ow_pureD hA (wants_none rfl) 34 33 rfl (BytesS T) (.string (strOf T)) rfl rfl (by kernel_rfl) (by kernel_rfl) rfl rfl (fun a w1 h1 => run_str rfl rfl h1), ow_val hA (wants_none rfl) 35 (.slice pb nb cb) (by kernel_rfl) rfl rfl rfl rfl (by kernel_rfl) (fun w => by kernel_rfl), ow_val hA (wants_none rfl) 36 (.slice pb nb cb) (by kernel_rfl) rfl rfl rfl rfl (by kernel_rfl) (fun w => by kernel_rfl), ow_val hA (wants_none rfl) 37 (.int .i64 (nb : Int)) (by kernel_rfl) rfl rfl rfl rfl (by kernel_rfl) (fun w => by kernel_rfl), ow_val hA (wants_none rfl) 38 (.int .i64 (m : Int)) (by kernel_rfl) rfl rfl rfl rfl (by kernel_rfl) (fun w => run_subZ 16 rfl (by kernel_rfl) Em.out nb62 w), ow_val hA (wants_none rfl) 39 (.slice pf 16 cf) (by kernel_rfl) rfl rfl rfl rfl (by kernel_rfl) (fun w => cut_fr (p := pb) (l := nb) (c := cb) (k := m) rfl (by kernel_rfl) (by kernel_rfl) Try.underlying24 sz_u8 hmn Epf.out E16.out Ecf.out w), ow_str hA (wants_none rfl) 40 (.string (strOf D)) (by kernel_rfl) rfl rfl rfl rfl (by kernel_rfl) (.tmp 39) rfl _ (by kernel_rfl) D (fun w1 hb => (VD.out.under Q0).under hb) rfl, ow_val hA (wants_none rfl) 41 (.bool NE) (by kernel_rfl) rfl rfl rfl rfl (by kernel_rfl) (fun w => run_neq_strN NE rfl (by kernel_rfl) (by kernel_rfl) HS.out w), trivial⟩) ?_
  case hst1 =>
    intro q hq hO v w3 w4 h1 h2 h3 h4
    simp only [List.mem_cons, List.not_mem_nil, or_false] at hq
    subst hq
    exact BytesV.under h1 (h4 rfl)
  case hst2 => intro q hq hO; cases hO
  intro fv w3 hf hDD hb3
  simp only [putR, List.foldl_cons, List.foldl_nil, List.map_cons, List.map_nil, Act.put, List.setIfInBounds_toArray, List.set_cons_succ, List.set_cons_zero]
  generalize fv 33 = f33 at *
  have D0 := A0.under hb3
  have Q3 := Q0.trans (hb3.mono Q0.size)
  clear hf hDD A0 Q0 hb3 CTG
  refine (show wpList _ _ _ [] _ _ from ?_)
  refine wpList_nil ?_
  by_cases hTD : T = D
  case neg =>
    obtain rfl : NE = true := by rw [ENE.out, decide_eq_false hTD]; rfl
    go_wp2_with fail
    go_ret2
    exact ⟨Q3, _, .inr ⟨hTD, rfl, rfl⟩⟩
  case pos =>
    obtain rfl : NE = false := by rw [ENE.out, decide_eq_true hTD]; rfl
    have CNO : Kept (∀ w', Below w3.heap.size w3 w' → Calls Try.prog 17 [.int .u64 (n : Int)].toArray w' fun e w2 => e = .returned (.agg (ints .u8 NN)) ∧ Below w'.heap.size w' w2) := ⟨fun w' _ => CNQ.out w'⟩
    have CX : Kept (∀ w', Below w3.heap.size w3 w' → Calls Try.prog 16 [.agg (ints .u8 key), .agg (ints .u8 NN), .int .u32 1, .slice pb m cb].toArray w' fun e w2 => ∃ v, e = .returned (.tuple #[v, .int .i64 0]) ∧ Row w3.heap.size 5 .u8 X v w2 ∧ Below w'.heap.size w' w2) := ⟨fun w' hb => by
      refine (CXQ.out w' (Q3.trans (hb.mono Q3.size))).mono ?_
      rintro e w2 ⟨v, h1, h2, h3⟩
      exact ⟨v, h1, h2.mono hb.size, h3⟩⟩
    clear CNQ CXQ
    go_wp2_with fail
    refine region_ownNL w3 10 [(43, .agg (ints .u8 key)), (44, .int .u64 (n : Int)), (45, .agg (ints .u8 NN)), (46, .slice pb m cb), (49, .int .i64 0), (12, .int .i64 0)] [(47, PairR w3.heap.size X), (42, PairR w3.heap.size X), (48, RowS w3.heap.size X), (11, RowS w3.heap.size X)] [] [] rfl (by kernel_rfl) (by kernel_rfl) (by kernel_rfl) (by kernel_rfl) (by kernel_rfl) (by kernel_rfl) (by kernel_rfl) (by kernel_rfl) (by kernel_rfl) (by kernel_rfl) (by kernel_rfl) ?hst1 ?hst2 (Below.refl _ _) (fun hA => ⟨ow_row hA (wants_none rfl) 43 (.agg (ints .u8 key)) (by kernel_rfl) rfl rfl rfl rfl (by kernel_rfl) 22 (.tmp 4) rfl (w.heap.size) (by kernel_rfl) 22 (ints .u8 key) 32 5 Try.underlying22 ((by rw [ints_size, LKY.out]; exact t32_info)) (fun w1 hb => D0.under hb) rfl, ow_val hA (wants_none rfl) 44 (.int .u64 (n : Int)) (by kernel_rfl) rfl rfl rfl rfl (by kernel_rfl) (fun w => by kernel_rfl), ow_calld hA (wants_none rfl) 45 (.agg (ints .u8 NN)) (by kernel_rfl) rfl rfl rfl rfl (by kernel_rfl) 17 Try.f17 _ [.tmp 44] _ [.int .u64 (n : Int)] rfl (by kernel_rfl) Try.func17 (by kernel_rfl) rfl (CNO.out), ow_val hA (wants_none rfl) 46 (.slice pb m cb) (by kernel_rfl) rfl rfl rfl rfl (by kernel_rfl) (fun w => by kernel_rfl), ow_call (wants_none rfl) 47 16 Try.f16 _ [.tmp 43, .tmp 45, .const (.int .u32 1), .tmp 46] _ rfl rfl Try.func16 (by kernel_rfl) rfl (fun a w1 hF hb hgot => by rw [List.map_cons, List.map_cons, List.map_cons, List.map_cons, List.map_nil, gotE_det (v := .agg (ints .u8 key)) hA hgot (by kernel_rfl) rfl rfl (by kernel_rfl), gotE_det (v := .agg (ints .u8 NN)) hA hgot (by kernel_rfl) rfl rfl (by kernel_rfl), gotE_det (v := .slice pb m cb) hA hgot (by kernel_rfl) rfl rfl (by kernel_rfl)]; exact (CX.out w1 hb).mono fun e w2 hh => by obtain ⟨u, h1, h2, h3⟩ := hh; exact ⟨_, h1, rel_spec _ rfl ⟨u, rfl, h2⟩, h3, fun h => by cases h⟩), ow_pure (wants_none rfl) 42 47 rfl _ _ rfl rfl (by kernel_rfl) rfl rfl (fun a w1 h1 => mv_pairR rfl h1), ow_pure (wants_none rfl) 48 42 rfl _ _ rfl rfl (by kernel_rfl) rfl rfl (fun a w1 h1 => ex_fstR rfl h1), ow_pureD hA (wants_none rfl) 49 42 rfl _ (.int .i64 0) rfl rfl (by kernel_rfl) (by kernel_rfl) rfl rfl (fun a w1 h1 => ex_sndR rfl h1), ow_pure (wants_none rfl) 11 48 rfl _ _ rfl rfl (by kernel_rfl) rfl rfl (fun a w1 h1 => as_row rfl h1), ow_val hA (wants_none rfl) 12 (.int .i64 0) (by kernel_rfl) rfl rfl rfl rfl (by kernel_rfl) (fun w => by kernel_rfl), trivial⟩) ?_
    case hst1 =>
      intro q hq hO v w3 w4 h1 h2 h3 h4
      simp only [List.mem_cons, List.not_mem_nil, or_false] at hq
      rcases hq with rfl | rfl | rfl | rfl
      · exact PairR.under h1 (h4 rfl)
      · exact PairR.under h1 (h4 rfl)
      · exact Row.under h1 (h4 rfl)
      · exact Row.under h1 (h4 rfl)
    case hst2 => intro q hq hO; cases hO
    intro fv w4 hf hDD hb4
    have h11 := (hf 11 _ rfl rfl).1
    simp only [putR, List.foldl_cons, List.foldl_nil, List.map_cons, List.map_nil, Act.put, List.setIfInBounds_toArray, List.set_cons_succ, List.set_cons_zero]
    obtain ⟨v11, e11⟩ : ∃ v, v = fv 11 := ⟨_, rfl⟩
    rw [← e11] at h11 ⊢
    have V11 : Kept (BytesV v11 w4 X) := ⟨row_bytes h11⟩
    generalize fv 47 = f47 at *
    generalize fv 42 = f42 at *
    generalize fv 48 = f48 at *
    have Q4 := Q3.trans (hb4.mono Q3.size)
    clear hf hDD CNO CX h11 e11 D0 Q3 hb4
    refine (show wpList _ _ _ [] _ _ from ?_)
    refine wpList_nil ?_
    go_wp2_with fail
    go_ret2
    exact ⟨Q4, _, .inl ⟨hTD, rfl, V11.out⟩⟩
theorem rOpenD (key : List Nat) (n : Nat) (a b : List Nat) (va vb : Value) (w : World) (hk : key.length = 32) (hy : Bytes key) (hn : n < 18446744073709551616) (hva : BytesV va w a) (hvb : BytesV vb w b) (hya : Bytes a) (hyb : Bytes b) (la : a.length ≤ 1000) (lb : b.length ≤ 1000) :
    Calls Try.prog 12 #[.agg (ints .u8 key), .int .u64 (n : Int), va, vb] w fun e w' => ∃ v, e = .returned (.tuple #[v, .int .i64 ((openP key n a b).2 : Int)]) ∧ BytesV v w' (openP key n a b).1 ∧ Below w.heap.size w w' := by
  unfold openP
  rw [if_neg (by omega)]
  by_cases h16 : b.length < 16
  · rw [if_pos h16]
    refine (rOpen_short key n a b va vb w hva hvb la h16).mono ?_
    rintro e w' ⟨rfl, hb⟩
    exact ⟨_, rfl, nil_bytesV _, hb⟩
  · rw [if_neg h16]
    refine (rOpen_any key n a b va vb w hk hy hn hva hvb hya hyb la lb (by omega)).mono ?_
    rintro e w' ⟨hb, v, ⟨ht, rfl, hv⟩ | ⟨ht, rfl, rfl⟩⟩
    · rw [if_pos ht]; exact ⟨_, rfl, hv, hb⟩
    · rw [if_neg ht]; exact ⟨_, rfl, nil_bytesV _, hb⟩
end Go.Proofs.Ytpamcmhfimnfbaa.sh
