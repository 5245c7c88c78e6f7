/-
  General pieces, joined: SW SF.
-/
import Derived.Test.YtkibojjbghopkaaDoorG23
import Derived.Laws.MakeOwn
/-
  What bytes more make of a digest.
-/
namespace Go.Proofs.YtkibojjbghopkaaDoor.sh
open Go Go.RowKit
set_option linter.unusedVariables false
set_option linter.unusedSimpArgs false

def digOf (s : List Nat × List Nat × Nat) : Array Value := digA s.1 s.2.1 s.2.2
theorem dig_info : (Tryd.prog.info? 58).map (·.size) = some 73 := by kernel_rfl
theorem zeroDig : ∃ Z : Array Value, Z.size = 73 ∧ ∀ w, (zeroValue 58).run Tryd.prog w = .ok (.agg Z) w := ⟨#[.int .u32 0, .int .u32 0, .int .u32 0, .int .u32 0, .int .u32 0, .int .u32 0, .int .u32 0, .int .u32 0, .int .u8 0, .int .u8 0, .int .u8 0, .int .u8 0, .int .u8 0, .int .u8 0, .int .u8 0, .int .u8 0, .int .u8 0, .int .u8 0, .int .u8 0, .int .u8 0, .int .u8 0, .int .u8 0, .int .u8 0, .int .u8 0, .int .u8 0, .int .u8 0, .int .u8 0, .int .u8 0, .int .u8 0, .int .u8 0, .int .u8 0, .int .u8 0, .int .u8 0, .int .u8 0, .int .u8 0, .int .u8 0, .int .u8 0, .int .u8 0, .int .u8 0, .int .u8 0, .int .u8 0, .int .u8 0, .int .u8 0, .int .u8 0, .int .u8 0, .int .u8 0, .int .u8 0, .int .u8 0, .int .u8 0, .int .u8 0, .int .u8 0, .int .u8 0, .int .u8 0, .int .u8 0, .int .u8 0, .int .u8 0, .int .u8 0, .int .u8 0, .int .u8 0, .int .u8 0, .int .u8 0, .int .u8 0, .int .u8 0, .int .u8 0, .int .u8 0, .int .u8 0, .int .u8 0, .int .u8 0, .int .u8 0, .int .u8 0, .int .u8 0, .int .u8 0, .int .u64 0], by kernel_rfl, fun w => by kernel_rfl⟩
theorem zero64b : (#[.int .u8 0, .int .u8 0, .int .u8 0, .int .u8 0, .int .u8 0, .int .u8 0, .int .u8 0, .int .u8 0, .int .u8 0, .int .u8 0, .int .u8 0, .int .u8 0, .int .u8 0, .int .u8 0, .int .u8 0, .int .u8 0, .int .u8 0, .int .u8 0, .int .u8 0, .int .u8 0, .int .u8 0, .int .u8 0, .int .u8 0, .int .u8 0, .int .u8 0, .int .u8 0, .int .u8 0, .int .u8 0, .int .u8 0, .int .u8 0, .int .u8 0, .int .u8 0, .int .u8 0, .int .u8 0, .int .u8 0, .int .u8 0, .int .u8 0, .int .u8 0, .int .u8 0, .int .u8 0, .int .u8 0, .int .u8 0, .int .u8 0, .int .u8 0, .int .u8 0, .int .u8 0, .int .u8 0, .int .u8 0, .int .u8 0, .int .u8 0, .int .u8 0, .int .u8 0, .int .u8 0, .int .u8 0, .int .u8 0, .int .u8 0, .int .u8 0, .int .u8 0, .int .u8 0, .int .u8 0, .int .u8 0, .int .u8 0, .int .u8 0, .int .u8 0] : Array Value) = ints .u8 (List.replicate 64 0) := by kernel_rfl
theorem digA_one (G R : List Nat) (n : Nat) : (digA G R n).all (·.oneCell') = true := by simp [digA, ints, Value.oneCell']
theorem ints_toList (k : IntKind) (l : List Nat) : (ints k l).toList.length = l.length := by simp [ints]
theorem oneCell_ints (k : IntKind) (l : List Nat) : ∀ v ∈ (ints k l).toList, v.oneCell' = true := by
  intro v hv
  simp [ints] at hv
  obtain ⟨x, _, rfl⟩ := hv
  rfl
theorem cells_take {p : Option Addr} {l c k : Nat} {w : World} {bs : List Nat} (h : BytesV (.slice p l c) w bs) (hk : 0 < k) (hle : k ≤ bs.length) : ∃ A, p = some A ∧ ∀ j v, (ints .u8 (bs.take k)).toList[j]? = some v → w.cell? (A.add j) = some v := by
  obtain ⟨p', c', h1, h2, h3⟩ := h
  cases h1
  obtain ⟨A, rfl, _, e3⟩ := h3 (by intro e; rw [e] at hle; simp at hle; omega)
  refine ⟨A, rfl, fun j v hv => ?_⟩
  unfold ints at hv
  rw [List.toList_toArray, List.getElem?_map] at hv
  obtain ⟨x, hx, rfl⟩ := Option.map_eq_some_iff.1 hv
  rw [List.getElem?_take] at hx
  split at hx
  · exact e3 j x hx
  · cases hx

theorem build_run {o : Oper} {a : Act} {t : TypeId} {v : Value} (ho : o.op = .build t #[]) (hb : ∀ w, (Instr.build t #[]).run Tryd.prog w = .ok v w) (w : World) : (execOp a.eval o).run Tryd.prog w = .ok (.value v) w := by
  unfold execOp
  simp only [ho]
  simp [hb]
theorem put_refl (w : World) (g : Nat) : Put w w g := ⟨⟨rfl, rfl, rfl, Nat.le_refl _, fun _ _ _ => rfl⟩, rfl⟩
theorem wl_copyV {ops : Array Oper} {rest : List Oper} {o : Oper} {a : Act} {w : World} {Q : Exit → Act → World → Prop} (hgd : o.guard = none) (d s : Operand) (dT sT : TypeId) (ho : o.op = .call { callee := .builtin .copy, args := #[d, s], argTypes := #[dT, sT] }) (hu : Tryd.prog.underlying dT = some (.slice 5))
    (g off dLen dCap : Nat) (hd : a.eval d = .slice (some ⟨g, off, none⟩) dLen dCap) (p : Option Addr) (l c : Nat) (hs : a.eval s = .slice p l c) {t : TypeId} (cur : Array Value) (hg : Blk w g t cur) (bs : List Nat) (hv : BytesV (.slice p l c) w bs) (k : Nat) (hk : k = Nat.min l dLen) (hfit : off + k ≤ cur.size)
    (h : ∀ w', Blk w' g t (splice cur.toList off (ints .u8 (bs.take k)).toList).toArray → Put w w' g → wpList Tryd.prog ops Q rest (a.put o.dst (goInt k)) w') : wpList Tryd.prog ops Q (o :: rest) a w := by
  have hl : l = bs.length := by obtain ⟨_, _, h1, _⟩ := hv; cases h1; rfl
  have hle : k ≤ bs.length := by rw [hk, ← hl]; exact Nat.min_le_left _ _
  have elen : (ints .u8 (bs.take k)).toList.length = k := by rw [ints_toList, List.length_take]; omega
  by_cases h0 : k = 0
  · refine wpList_copy_nothing hgd d s dT sT ho 5 hu (by kernel_rfl) _ _ dLen dCap l c hd hs (by rw [← hk, h0]) ?_
    rw [h0] at h
    refine h w ?_ (put_refl w g)
    rw [List.take_zero]
    have e : (splice cur.toList off (ints .u8 []).toList).toArray = cur := by
      rw [show (ints .u8 []).toList = [] from rfl, splice_nil]
    rw [e]
    exact hg
  · obtain ⟨A, rfl, hA⟩ := cells_take hv (k := k) (by omega) hle
    refine wl_copy hgd d s dT sT ho 5 hu (by kernel_rfl) g off dLen dCap A l c hd hs cur hg (ints .u8 (bs.take k)).toList (by rw [elen, hk]) hA (by rw [elen]; exact hfit) (oneCell_ints _ _) ?_
    rw [elen]
    exact h

set_option maxHeartbeats 2000000 in
theorem Write_any (s : List Nat × List Nat × Nat) (bs : List Nat) (v : Value) (w : World) (hs : Good s) (hb : Bytes bs) (hn : s.2.2 + bs.length < 4611686018427387904) (hv : BytesV v w bs) (hr : RootsAt w) :
    Calls Tryd.prog 48 #[.agg (digOf s), v] w fun e w' => e = .returned (.agg (digOf (feed s bs))) ∧ Below w.heap.size w w' := by
  obtain ⟨p, c, rfl, hc, hp⟩ := hv
  obtain ⟨G0, R0, n⟩ := s
  have GG := hs.g
  have RR := hs.r
  simp only at GG RR hn
  obtain ⟨T, hT⟩ : ∃ T, T = feed (G0, R0, n) bs := ⟨_, rfl⟩
  rw [← hT]
  have ET : Kept _ := ⟨hT⟩
  have KB : Kept _ := ⟨hb⟩
  have KR : Kept _ := ⟨hr⟩
  have KG : Kept _ := ⟨hs⟩
  have KV : Kept (BytesV (.slice p bs.length c) w bs) := ⟨⟨p, c, rfl, hc, hp⟩⟩
  have h0 := hr.1
  obtain ⟨len, hlen⟩ : ∃ len, len = bs.length := ⟨_, rfl⟩
  have KL : Kept _ := ⟨hlen⟩
  rw [← hlen] at hn hc ⊢
  rw [show digOf (G0, R0, n) = digA G0 R0 n from rfl]
  obtain ⟨Z, hZ, hz⟩ := zeroDig
  have B0 : Blk ((w.alloc (.cells (digA G0 R0 n) 58)).alloc (.cells Z 58)) w.heap.size 58 (digA G0 R0 n) := (blk_new w _ _).alloc _
  have Q0 : Below w.heap.size w ((w.alloc (.cells (digA G0 R0 n) 58)).alloc (.cells Z 58)) := ((Below.refl _ _).alloc (Nat.le_refl _) _).alloc (by simp) _
  have B1 : Blk ((w.alloc (.cells (digA G0 R0 n) 58)).alloc (.cells Z 58)) (w.heap.size + 1) 58 Z := blk_top _ _ _ _ (by simp)
  clear hT hb hr hs hp hlen
  go_enter Tryd.func48, Tryd.ntmps48
  go_wp2_with (first | (refine wl_elem rfl 33 ag_u64 (.tmp 6) rfl w.heap.size 72 rfl (digA G0 R0 n) (.int .u64 (n : Int)) B0 (digA_n G0 R0 n GG RR) ?_) | (refine wl_elem rfl 33 ag_u64 (.tmp 10) rfl w.heap.size 72 rfl (digA G0 R0 n) (.int .u64 (n : Int)) B0 (digA_n G0 R0 n GG RR) ?_) | (refine wl_setElem rfl 33 sz_u64 (.tmp 16) (.tmp 15) rfl w.heap.size 72 .u64 ((n : Int) + (len : Int)) rfl rfl _ B0 (by rw [digA_size _ _ _ GG RR]; decide) ?_))
  intro w1 A1 P1
  obtain ⟨N, hN⟩ : ∃ N, N = n + len := ⟨_, rfl⟩
  have EN : Kept _ := ⟨hN⟩
  rw [show ((n : Int) + (len : Int)) = ((N : Nat) : Int) from by rw [hN]; rfl] at *
  rw [digA_setn _ _ _ _ GG RR] at A1
  have A2 := P1.blk B1 (by omega)
  have Q1 := Q0.trans (P1.below (Nat.le_refl _))
  clear B0 B1 Q0 P1 hz hN
  rw [show ((n : Int) % 64) = ((n % 64 : Nat) : Int) from by omega]
  go_wp2_with fail
  go_loopg [1, 5] len (fun k s1 s5 wr => ∃ (G R : List Nat) (m : Nat) (rem : List Nat) (q : Option Addr) (cq l : Nat), l ≤ k ∧ s1 = .slice q l cq ∧ s5 = .int .i64 ((m % 64 : Nat) : Int) ∧ Below w.heap.size w wr ∧ Blk wr w.heap.size 58 (digA G R N) ∧ Blk wr (w.heap.size + 1) 58 Z ∧ Kept (BytesV (.slice q l cq) w rem ∧ Good (G, R, m) ∧ Bytes rem ∧ feed (G, R, m) rem = T ∧ m + rem.length = N ∧ l = rem.length))
  case atStart => exact ⟨G0, R0, n, bs, p, c, len, Nat.le_refl _, rfl, rfl, Q1, A1, A2, ⟨by rw [KL.out]; exact KV.out, KG.out, KB.out, ET.out.symm, by rw [EN.out, KL.out], KL.out⟩⟩
  case round =>
    obtain ⟨G, R, m, rem, q, cq, l, hlk, rfl, rfl, HB, A0, AZ, KK⟩ := hrel
    clear A1 A2 Q1
    have GG := KK.out.2.1.g
    have RR := KK.out.2.1.r
    simp only at GG RR
    have VV : Kept (BytesV (.slice q l cq) wr rem) := ⟨KK.out.1.under HB⟩
    have lN : Kept (l < 4611686018427387904) := ⟨by have := KK.out.2.2.2.2.1; have := KK.out.2.2.2.2.2; have := EN.out; omega⟩
    obtain ⟨t, ht⟩ : ∃ t, t = m % 64 := ⟨_, rfl⟩
    rw [← ht]
    have ht64 : t < 64 := by omega
    have KT : Kept _ := ⟨ht⟩
    have hl62 := lN.out
    clear ht
    by_cases hge : 64 - t ≤ l
    · have hge' : ((64 : Int) - (t : Int) ≤ (l : Int)) := by omega
      obtain ⟨k, hk⟩ : ∃ k, k = 64 - t := ⟨_, rfl⟩
      have hmin : Kept (k = Nat.min l (64 - t)) := ⟨by rw [hk]; exact (Nat.min_eq_right hge).symm⟩
      have hfit : 8 + t + k ≤ (digA G R N).size := by rw [digA_size _ _ _ GG RR]; omega
      have hkl : k ≤ l := by omega
      have hk0 : 0 < k := by omega
      have hk64 : k ≤ 64 := by omega
      obtain ⟨cs, hcs⟩ : ∃ cs, cs = rem.take k := ⟨_, rfl⟩
      have hll : cs.length = k := by rw [hcs, List.length_take, ← KK.out.2.2.2.2.2]; omega
      obtain ⟨Rn, hRn⟩ : ∃ Rn, Rn = splice R t cs := ⟨_, rfl⟩
      have ER : Kept _ := ⟨hRn⟩
      have RRn : Rn.length = 64 := by rw [hRn, splice_len (by omega)]; exact RR
      have BRn : Bytes Rn := by rw [hRn, hcs]; exact KK.out.2.1.rb.splice (KK.out.2.2.1.take k) t
      have EC : Kept _ := ⟨hcs⟩
      have KBR : Kept _ := ⟨BRn⟩
      have EK : Kept _ := ⟨hk⟩
      have htk : t + k = 64 := by omega
      clear hRn hcs BRn hk
      go_wp2_with (first | (refine wl_at (d := 25) rfl rfl (.slice (some ⟨w.heap.size, 8 + t, none⟩) (64 - t) (64 - t)) ?h1 ?_; (case h1 => exact arr_cut_run rfl rfl rfl Tryd.underlying56 sz_u8 ht64 _); simp only [Act.put, List.setIfInBounds_toArray, List.set_cons_succ, List.set_cons_zero]) | (refine wl_copyV rfl (.tmp 25) (.tmp 26) 23 23 rfl Tryd.underlying23 w.heap.size (8 + t) (64 - t) (64 - t) rfl q l cq rfl _ A0 rem VV.out k hmin.out hfit ?_))
      intro w4 A4 P4
      rw [← EC.out, digA_setr _ _ _ _ _ GG (by rw [hll]; omega), ← ER.out] at A4
      have AZ4 := P4.blk AZ (by omega)
      have HB4 := HB.trans (P4.below (Nat.le_refl _))
      clear A0 AZ HB P4 hmin hfit
      obtain ⟨q', hq'⟩ : ∃ q', q' = (if cq = k then q else q.map (·.add k)) := ⟨_, rfl⟩
      have EQ : Kept _ := ⟨hq'⟩
      clear hq'
      go_wp2_with (first | (refine wl_at (d := 28) rfl rfl (.slice q' (l - k) (cq - k)) ?h2 ?_; (case h2 => rw [EQ.out]; exact cut_run rfl rfl rfl Tryd.underlying23 sz_u8 hkl _); simp only [Act.put, List.setIfInBounds_toArray, List.set_cons_succ, List.set_cons_zero]))
      obtain ⟨S1, hS1⟩ : ∃ S1, S1 = plusL firstL G := ⟨_, rfl⟩
      obtain ⟨S2, hS2⟩ : ∃ S2, S2 = mixedL S1 Rn := ⟨_, rfl⟩
      obtain ⟨G2, hG2⟩ : ∃ G2, G2 = plusL G S2 := ⟨_, rfl⟩
      have LS1 : S1.length = 8 := by rw [hS1, plusL_len _ _ (by rw [firstL_len, GG])]; exact firstL_len
      have SS1 : Small S1 := by rw [hS1]; exact plusL_small _ _
      have LS2 : S2.length = 8 := by rw [hS2]; exact mixedL_len S1 Rn LS1
      have LG2 : G2.length = 8 := by rw [hG2, plusL_len _ _ (by rw [LS2, GG])]; exact GG
      have BRn := KBR.out
      have C1 : Kept (∀ w', Below w4.heap.size w4 w' → Calls Tryd.prog 72 [].toArray w' fun e w2 => e = .returned (.agg (ints .u32 firstL)) ∧ Below w4.heap.size w4 w2) := ⟨fun w' hb => by exact (first_any w').mono fun e w2 hh => ⟨hh.1, hb.trans (hh.2.mono hb.size)⟩⟩
      have C2 : Kept (∀ w', Below w4.heap.size w4 w' → Calls Tryd.prog 71 [.agg (ints .u32 firstL), .agg (ints .u32 G)].toArray w' fun e w2 => e = .returned (.agg (ints .u32 S1)) ∧ Below w4.heap.size w4 w2) := ⟨fun w' hb => by rw [hS1]; exact (plus_any firstL G w' firstL_len GG).mono fun e w2 hh => ⟨hh.1, hb.trans (hh.2.mono hb.size)⟩⟩
      have C3 : Kept (∀ w', Below w4.heap.size w4 w' → Calls Tryd.prog 73 [.agg (ints .u32 S1), .agg (ints .u8 Rn)].toArray w' fun e w2 => e = .returned (.agg (ints .u32 S2)) ∧ Below w4.heap.size w4 w2) := ⟨fun w' hb => by rw [hS2]; exact (mixed_any S1 Rn w' LS1 SS1 RRn BRn ((KR.out.below h0 HB4).below (Nat.lt_of_lt_of_le h0 HB4.size) hb)).mono fun e w2 hh => ⟨hh.1, hb.trans (hh.2.mono hb.size)⟩⟩
      have C4 : Kept (∀ w', Below w4.heap.size w4 w' → Calls Tryd.prog 71 [.agg (ints .u32 G), .agg (ints .u32 S2)].toArray w' fun e w2 => e = .returned (.agg (ints .u32 G2)) ∧ Below w4.heap.size w4 w2) := ⟨fun w' hb => by rw [hG2]; exact (plus_any G S2 w' GG LS2).mono fun e w2 hh => ⟨hh.1, hb.trans (hh.2.mono hb.size)⟩⟩
      have EG : Kept (G2 = plusL G (mixedL (plusL firstL G) Rn)) := ⟨by rw [hG2, hS2, hS1]⟩
      clear hS1 hS2 hG2 SS1 BRn LS1 LS2
      refine wp_region_quiet_under (C := fun w' => Below w4.heap.size w4 w') 11 rfl (by kernel_rfl) (by kernel_rfl) (by kernel_rfl) (by kernel_rfl) (by kernel_rfl) (Below.drew (Below.refl _ _)) ?_
      dsimp only [List.take_succ_cons, List.take_zero]
      refine q_val (by kernel_rfl) (.pointer (some ⟨w.heap.size, 0, none⟩)) (fun w' => by kernel_rfl) ?_
      simp only [Act.put, List.setIfInBounds_toArray, List.set_cons_succ, List.set_cons_zero]
      refine q_part (by kernel_rfl) 55 (.tmp 29) rfl w.heap.size 0 (by kernel_rfl) 58 (digA G Rn N) (ints .u32 G) 8 45 (fun w' hb => Blk.under A4 hb) (digA_g G Rn N GG) Tryd.underlying55 (by rw [ints_size, GG]; exact u32_info) ?_
      simp only [Act.put, List.setIfInBounds_toArray, List.set_cons_succ, List.set_cons_zero]
      refine q_call (by kernel_rfl) 72 Tryd.f72 _ _ _ [] (.agg (ints .u32 firstL)) rfl (by kernel_rfl) Tryd.func72 (by kernel_rfl) rfl C1.out ?_
      simp only [Act.put, List.setIfInBounds_toArray, List.set_cons_succ, List.set_cons_zero]
      refine q_val (by kernel_rfl) (.pointer (some ⟨w.heap.size, 0, none⟩)) (fun w' => by kernel_rfl) ?_
      simp only [Act.put, List.setIfInBounds_toArray, List.set_cons_succ, List.set_cons_zero]
      refine q_part (by kernel_rfl) 55 (.tmp 32) rfl w.heap.size 0 (by kernel_rfl) 58 (digA G Rn N) (ints .u32 G) 8 45 (fun w' hb => Blk.under A4 hb) (digA_g G Rn N GG) Tryd.underlying55 (by rw [ints_size, GG]; exact u32_info) ?_
      simp only [Act.put, List.setIfInBounds_toArray, List.set_cons_succ, List.set_cons_zero]
      refine q_call (by kernel_rfl) 71 Tryd.f71 _ _ _ [.agg (ints .u32 firstL), .agg (ints .u32 G)] (.agg (ints .u32 S1)) rfl (by kernel_rfl) Tryd.func71 (by kernel_rfl) rfl C2.out ?_
      simp only [Act.put, List.setIfInBounds_toArray, List.set_cons_succ, List.set_cons_zero]
      refine q_val (by kernel_rfl) (.pointer (some ⟨w.heap.size, 8, none⟩)) (fun w' => by kernel_rfl) ?_
      simp only [Act.put, List.setIfInBounds_toArray, List.set_cons_succ, List.set_cons_zero]
      refine q_part (by kernel_rfl) 56 (.tmp 35) rfl w.heap.size 8 (by kernel_rfl) 58 (digA G Rn N) (ints .u8 Rn) 64 5 (fun w' hb => Blk.under A4 hb) (digA_r G Rn N GG RRn) Tryd.underlying56 (by rw [ints_size, RRn]; exact b64_info) ?_
      simp only [Act.put, List.setIfInBounds_toArray, List.set_cons_succ, List.set_cons_zero]
      refine q_call (by kernel_rfl) 73 Tryd.f73 _ _ _ [.agg (ints .u32 S1), .agg (ints .u8 Rn)] (.agg (ints .u32 S2)) rfl (by kernel_rfl) Tryd.func73 (by kernel_rfl) rfl C3.out ?_
      simp only [Act.put, List.setIfInBounds_toArray, List.set_cons_succ, List.set_cons_zero]
      refine q_call (by kernel_rfl) 71 Tryd.f71 _ _ _ [.agg (ints .u32 G), .agg (ints .u32 S2)] (.agg (ints .u32 G2)) rfl (by kernel_rfl) Tryd.func71 (by kernel_rfl) rfl C4.out ?_
      simp only [Act.put, List.setIfInBounds_toArray, List.set_cons_succ, List.set_cons_zero]
      refine q_val (by kernel_rfl) (.pointer (some ⟨w.heap.size, 0, none⟩)) (fun w' => by kernel_rfl) ?_
      simp only [Act.put, List.setIfInBounds_toArray, List.set_cons_succ, List.set_cons_zero]
      refine wpQuiet_nil ?_
      intro w5 hb5
      have A5 := A4.under hb5
      have AZ5 := AZ4.under hb5
      have HB5 := HB4.trans (hb5.mono HB4.size)
      clear A4 AZ4 HB4 hb5 C1 C2 C3 C4
      refine wl_setPart rfl 55 (.tmp 39) (.tmp 38) rfl w.heap.size 0 (ints .u32 G2) (by kernel_rfl) (by kernel_rfl) _ A5 (by rw [ints_size, LG2, digA_size _ _ _ GG RRn]; decide) (by rw [ints_size, LG2]; exact u32_info) (ints_one _ _) ?_
      intro w6 A6 P6
      rw [digA_setg _ _ _ _ GG LG2] at A6
      have AZ6 := P6.blk AZ5 (by omega)
      have HB6 := HB5.trans (P6.below (Nat.le_refl _))
      clear A5 AZ5 HB5 P6
      obtain ⟨Z64, hZ64⟩ : ∃ Z64, Z64 = List.replicate 64 0 := ⟨_, rfl⟩
      have LZ : Z64.length = 64 := by rw [hZ64]; simp
      have BZ : Kept (ints .u8 Z64 = #[.int .u8 0, .int .u8 0, .int .u8 0, .int .u8 0, .int .u8 0, .int .u8 0, .int .u8 0, .int .u8 0, .int .u8 0, .int .u8 0, .int .u8 0, .int .u8 0, .int .u8 0, .int .u8 0, .int .u8 0, .int .u8 0, .int .u8 0, .int .u8 0, .int .u8 0, .int .u8 0, .int .u8 0, .int .u8 0, .int .u8 0, .int .u8 0, .int .u8 0, .int .u8 0, .int .u8 0, .int .u8 0, .int .u8 0, .int .u8 0, .int .u8 0, .int .u8 0, .int .u8 0, .int .u8 0, .int .u8 0, .int .u8 0, .int .u8 0, .int .u8 0, .int .u8 0, .int .u8 0, .int .u8 0, .int .u8 0, .int .u8 0, .int .u8 0, .int .u8 0, .int .u8 0, .int .u8 0, .int .u8 0, .int .u8 0, .int .u8 0, .int .u8 0, .int .u8 0, .int .u8 0, .int .u8 0, .int .u8 0, .int .u8 0, .int .u8 0, .int .u8 0, .int .u8 0, .int .u8 0, .int .u8 0, .int .u8 0, .int .u8 0, .int .u8 0]) := ⟨by rw [hZ64]; exact zero64b.symm⟩
      have EZ : Kept _ := ⟨hZ64⟩
      clear hZ64
      have hbuild : ∀ w, (Instr.build 56 #[]).run Tryd.prog w = .ok (.agg (ints .u8 Z64)) w := fun w => by rw [BZ.out]; kernel_rfl
      have sz8 : (splice (digA G2 Rn N).toList (8 + 0) (ints .u8 Z64).toList).toArray = digA G2 Z64 N := by rw [digA_setr _ _ _ _ _ LG2 (by omega), splice_all _ _ (by omega)]
      have KZ : Kept _ := ⟨sz8⟩
      clear sz8
      go_wp2_with (first | (refine wl_at (d := 40) rfl rfl (.agg (ints .u8 Z64)) ?h3 ?_; (case h3 => exact build_run rfl hbuild _); simp only [Act.put, List.setIfInBounds_toArray, List.set_cons_succ, List.set_cons_zero]) | (refine wl_setPart rfl 56 (.tmp 41) (.tmp 40) rfl w.heap.size 8 (ints .u8 Z64) rfl rfl _ A6 (by rw [ints_size, LZ, digA_size _ _ _ LG2 RRn]; decide) (by rw [ints_size, LZ]; exact b64_info) (ints_one _ _) ?_))
      intro w7 A7 P7
      have A7 : Blk w7 w.heap.size 58 (digA G2 Z64 N) := by rw [← KZ.out]; exact A7
      have AZ7 := P7.blk AZ6 (by omega)
      have HB7 := HB6.trans (P7.below (Nat.le_refl _))
      clear A6 AZ6 HB6 P7 hbuild KZ BZ
      have hch := feed_chunk G cs R m RR (by have := KT.out; have := EK.out; omega)
      have KK2 : Kept (BytesV (.slice q' (l - k) (cq - k)) w (rem.drop k) ∧ Good (G2, Z64, m + k) ∧ Bytes (rem.drop k) ∧ feed (G2, Z64, m + k) (rem.drop k) = T ∧ m + k + (rem.drop k).length = N ∧ l - k = (rem.drop k).length) := ⟨by
        have hl := KK.out.2.2.2.2.2
        have hV := KK.out.1
        rw [hl] at hV
        have hcut := hV.cut (k := k) (by omega)
        rw [← EQ.out, ← hl] at hcut
        have e1 : feed (G, R, m) cs = (G2, Z64, m + k) := by rw [hch, hll, EG.out, EZ.out, ER.out, KT.out]
        refine ⟨hcut, ?_, KK.out.2.2.1.drop k, ?_, ?_, ?_⟩
        · rw [← e1]; exact KK.out.2.1.feed cs (by rw [EC.out]; exact KK.out.2.2.1.take k)
        · rw [← e1, ← feed_append, EC.out, List.take_append_drop]; exact KK.out.2.2.2.1
        · rw [List.length_drop]; have := KK.out.2.2.2.2.1; omega
        · rw [List.length_drop]; omega⟩
      have hmk : (m + k) % 64 = 0 := by have := KT.out; have := EK.out; omega
      clear hch
      go_wp2_with fail
      go_roundg (l - k)
      case measure => omega
      case rel => exact ⟨G2, Z64, m + k, rem.drop k, q', cq - k, l - k, Nat.le_refl _, rfl, by rw [hmk]; rfl, HB7, A7, AZ7, KK2⟩
    · have hge' : ¬ ((64 : Int) - (t : Int) ≤ (l : Int)) := by omega
      obtain ⟨Rn, hRn⟩ : ∃ Rn, Rn = splice R t (rem.take l) := ⟨_, rfl⟩
      have ER : Kept _ := ⟨hRn⟩
      have hll : (rem.take l).length = l := by rw [List.length_take, ← KK.out.2.2.2.2.2]; omega
      have RRn : Rn.length = 64 := by rw [hRn, splice_len (by omega)]; exact RR
      have ED : Kept (digA G Rn N = digOf T) := ⟨by
        have h1 := feed_part G rem R m RR (by have := KK.out.2.2.2.2.2; have := KT.out; omega)
        rw [KK.out.2.2.2.1] at h1
        rw [h1, hRn, KT.out]
        have := KK.out.2.2.2.2.2
        rw [this, List.take_length, ← KK.out.2.2.2.2.1]
        rfl⟩
      have hmin : Kept (l = Nat.min l (64 - t)) := ⟨(Nat.min_eq_left (show l ≤ 64 - t by omega)).symm⟩
      have hfit : 8 + t + l ≤ (digA G R N).size := by rw [digA_size _ _ _ GG RR]; omega
      clear hRn
      go_wp2_with (first | (refine wl_at (d := 44) rfl rfl (.slice (some ⟨w.heap.size, 8 + t, none⟩) (64 - t) (64 - t)) ?h1 ?_; (case h1 => exact arr_cut_run rfl rfl rfl Tryd.underlying56 sz_u8 ht64 _); simp only [Act.put, List.setIfInBounds_toArray, List.set_cons_succ, List.set_cons_zero]) | (refine wl_copyV rfl (.tmp 44) (.tmp 45) 23 23 rfl Tryd.underlying23 w.heap.size (8 + t) (64 - t) (64 - t) rfl q l cq rfl _ A0 rem VV.out l hmin.out hfit ?_))
      intro w2 A1 P2
      rw [digA_setr _ _ _ _ _ GG (by rw [hll]; omega), ← ER.out] at A1
      have AZ2 := P2.blk AZ (by omega)
      have HB2 := HB.trans (P2.below (Nat.le_refl _))
      rw [ED.out] at A1
      have sT : (digOf T).size = 73 := by rw [← ED.out]; exact digA_size _ _ _ GG RRn
      have oT : (digOf T).all (·.oneCell') = true := by rw [← ED.out]; exact digA_one _ _ _
      clear A0 AZ HB P2 hll
      go_wp2_with (first | (refine wl_loadS rfl 58 (.tmp 2) rfl _ rfl (digOf T) _ Tryd.underlying58 (by rw [sT]; exact dig_info) A1 ?_) | (refine wl_store rfl 58 (.tmp 4) (.tmp 47) rfl _ (digOf T) rfl rfl _ AZ2 (by rw [sT]; exact dig_info) (by rw [sT, hZ]) oT ?_))
      intro w3 A3 P3
      go_wp2
      exact bodyPost_ret (v := .agg (digOf T)) (results_cell_row Tryd.results48 _ _ _ 58 (digOf T) (0, 0) _ rfl A3 Tryd.underlying58 rfl (by rw [sT]; exact dig_info)) rfl ⟨rfl, HB2.trans (P3.below (by omega))⟩
end Go.Proofs.YtkibojjbghopkaaDoor.sh
/-
  What comes behind so many bytes.
-/
namespace Go.Proofs.YtkibojjbghopkaaDoor.sh
open Go Go.RowKit
set_option linter.unusedVariables false
set_option linter.unusedSimpArgs false

theorem made_zero (n : Nat) : madeCells (Value.int .u8 0).cells n = ints .u8 (List.replicate n 0) := by
  apply Array.ext_getElem?
  intro i
  by_cases h : i < n
  · simp [madeCells, ints, Value.cells, h, Nat.mod_one]
  · rw [Array.getElem?_eq_none (by rw [size_madeCells]; omega), Array.getElem?_eq_none (by rw [ints_size, List.length_replicate]; omega)]
theorem info_u8 : (Tryd.prog.info? 5).map (fun i => (i.zero, i.size, i.bytes)) = some (some (.int .u8 0), 1, 1) := by kernel_rfl
theorem run_make8 (c : Nat) (hc : c < 1000000) (k : IntKind) (w : World) : (Instr.makeSlice 23 (.int k (c : Int)) (.int k (c : Int))).run Tryd.prog w = .ok (.slice (some ⟨w.heap.size, 0, none⟩) c c) (w.alloc (.cells (ints .u8 (List.replicate c 0)) 5)) := by
  have hi := info_u8
  cases hq : Tryd.prog.info? 5 with
  | none => rw [hq] at hi; cases hi
  | some i =>
    rw [hq] at hi
    simp only [Option.map_some, Option.some.injEq, Prod.mk.injEq] at hi
    obtain ⟨h1, h2, h3⟩ := hi
    have h := run_make (P := Tryd.prog) w 23 5 i (.int .u8 0) Tryd.underlying23 hq h1 k k (c : Int) (c : Int) (by omega) (Int.le_refl _) (by rw [h3]; omega) (by omega)
    rw [h2, Nat.mul_one, Int.toNat_natCast, made_zero] at h
    exact h
theorem wl_make {ops : Array Oper} {rest : List Oper} {o : Oper} {a : Act} {w : World} {Q : Exit → Act → World → Prop} (hgd : o.guard = none) (x : Operand) (ho : o.op = .makeSlice 23 x x) (k : IntKind) (c : Nat) (hx : a.eval x = .int k (c : Int)) (hc : c < 1000000)
    (h : wpList Tryd.prog ops Q rest (a.put o.dst (.slice (some ⟨w.heap.size, 0, none⟩) c c)) (w.alloc (.cells (ints .u8 (List.replicate c 0)) 5))) : wpList Tryd.prog ops Q (o :: rest) a w :=
  wpList_plain hgd fun K hK => by
    have hrun : (execOp a.eval o).run Tryd.prog w = .ok (.value (.slice (some ⟨w.heap.size, 0, none⟩) c c)) (w.alloc (.cells (ints .u8 (List.replicate c 0)) 5)) := by
      unfold execOp
      simp only [ho, hx]
      simp [run_make8 c hc k w]
    unfold Oper.wp
    rw [hrun]
    exact hK _ _ h

def zerosN (n : Nat) : Nat := (64 - (1 + n + 8) % 64) % 64
/-- What comes behind n bytes, so many bytes of their number laid. -/
def fillTo (n : Nat) : Nat → List Nat
  | 0 => (List.replicate (1 + zerosN n + 8) 0).set 0 128
  | i + 1 => (fillTo n i).set (1 + zerosN n + 8 - 1 - i) (n * 8 % 18446744073709551616 / 2 ^ (8 * i) % 256)
theorem fillTo_zero (n : Nat) : fillTo n 0 = (List.replicate (1 + zerosN n + 8) 0).set 0 128 := rfl
theorem fillTo_succ (n i : Nat) : fillTo n (i + 1) = (fillTo n i).set (1 + zerosN n + 8 - 1 - i) (n * 8 % 18446744073709551616 / 2 ^ (8 * i) % 256) := rfl
theorem fillTo_len (n : Nat) : ∀ i, (fillTo n i).length = 1 + zerosN n + 8
  | 0 => by rw [fillTo_zero, List.length_set, List.length_replicate]
  | i + 1 => by rw [fillTo_succ, List.length_set]; exact fillTo_len n i
theorem Bytes.set {l : List Nat} (h : Bytes l) (i v : Nat) (hv : v < 256) : Bytes (l.set i v) := by
  intro j x hx
  by_cases hij : i = j
  · subst hij
    rw [List.getElem?_set_self'] at hx
    cases hq : l[i]? with
    | none => simp [hq] at hx
    | some y => simp [hq] at hx; omega
  · rw [List.getElem?_set_ne hij] at hx
    exact h j x hx
theorem fillTo_bytes (n : Nat) : ∀ i, Bytes (fillTo n i)
  | 0 => by rw [fillTo_zero]; exact (bytes_zero _).set _ _ (by decide)
  | i + 1 => by rw [fillTo_succ]; exact (fillTo_bytes n i).set _ _ (Nat.mod_lt _ (by decide))
def fillL (n : Nat) : List Nat := fillTo n 8

set_option maxHeartbeats 1000000 in
theorem filling_any (n : Nat) (w : World) (hn : n < 4611686018427387904) :
    Calls Tryd.prog 74 #[.int .u64 (n : Int)] w fun e w' => ∃ v, e = .returned v ∧ SliceAt 5 .u8 (fillL n) (1 + zerosN n + 8) v w' ∧ Below w.heap.size w w' := by
  obtain ⟨z, hz⟩ : ∃ z, z = zerosN n := ⟨_, rfl⟩
  obtain ⟨L, hL⟩ : ∃ L, L = fillL n := ⟨_, rfl⟩
  rw [← hz, ← hL]
  have EL : Kept _ := ⟨hL⟩
  have EZ : Kept _ := ⟨hz⟩
  have hz64 : z < 64 := by rw [hz]; exact Nat.mod_lt _ (by decide)
  have ez : ((64 : Int) - (1 + (n : Int) + 8) % 64) % 64 = (z : Int) := by rw [hz]; unfold zerosN; omega
  obtain ⟨c, hc⟩ : ∃ c, c = 1 + z + 8 := ⟨_, rfl⟩
  have ec : (1 + (z : Int) + 8) = (c : Int) := by rw [hc]; omega
  have c9 : 9 ≤ c := by omega
  have cm : c < 1000000 := by omega
  have EC : Kept _ := ⟨hc⟩
  rw [← hc]
  have B0 : Blk (w.alloc (.cells (ints .u8 (List.replicate c 0)) 5)) w.heap.size 5 (ints .u8 (List.replicate c 0)) := blk_new w _ _
  have l0 : 0 < (ints .u8 (List.replicate c 0)).size := by rw [ints_size, List.length_replicate]; omega
  clear hL hz hc
  go_enter Tryd.func74, Tryd.ntmps74
  go_wp2_with (first | (refine wl_at (d := 11) rfl rfl (.int .u64 (z : Int)) ?h1 ?_; (case h1 => simp [execOp, Act.eval, go_sem, IntKind.wrap_u64]; omega); simp only [Act.put, List.setIfInBounds_toArray, List.set_cons_succ, List.set_cons_zero]) | (refine wl_at (d := 14) rfl rfl (.int .u64 (c : Int)) ?h2 ?_; (case h2 => simp [execOp, Act.eval, go_sem, IntKind.wrap_u64]; omega); simp only [Act.put, List.setIfInBounds_toArray, List.set_cons_succ, List.set_cons_zero]) | (refine wl_make rfl (.tmp 14) rfl .u64 c rfl cm ?_) | (refine wl_setElem rfl 5 sz_u8 (.tmp 17) (.const (.int .u8 128)) rfl w.heap.size 0 .u8 ((128 : Nat) : Int) rfl rfl _ B0 l0 ?_))
  intro w1 A1 P1
  have e128 := ints_set .u8 (List.replicate c 0) 0 128
  rw [show ((128 : Nat) : Int) = 128 from rfl] at e128
  rw [e128] at A1
  clear e128
  have A1 : Blk w1 w.heap.size 5 (ints .u8 (fillTo n 0)) := by rw [fillTo_zero, ← EZ.out, ← EC.out]; exact A1
  have Q1 : Below w.heap.size w w1 := ((Below.refl _ _).alloc (Nat.le_refl _) _).trans (P1.below (Nat.le_refl _))
  clear B0 P1 l0
  go_wp2_with fail
  go_loopg [18] 8 (fun k s18 wr => ∃ i : Nat, i + k = 8 ∧ s18 = .int .i64 (i : Int) ∧ Below w.heap.size w wr ∧ Blk wr w.heap.size 5 (ints .u8 (fillTo n i)))
  case atStart => exact ⟨0, by omega, rfl, Q1, A1⟩
  case round =>
    obtain ⟨i, hik, rfl, HB, A0⟩ := hrel
    clear A1 Q1
    by_cases hk0 : gk = 0
    · obtain rfl : i = 8 := by omega
      go_wp2_with fail
      go_ret
      refine ⟨_, rfl, ⟨w.heap.size, ?_, ?_⟩, HB⟩
      · rw [EL.out]
        unfold fillL
        rw [fillTo_len, ← EZ.out, ← EC.out]
        rfl
      · rw [EL.out]; exact A0
    · have hil : i < 8 := by omega
      have hlt : ((i : Int) < 8) := by omega
      obtain ⟨P, hP⟩ : ∃ P, P = fillTo n i := ⟨_, rfl⟩
      rw [← hP] at A0
      have l2 : c - 1 - i < (ints .u8 P).size := by rw [ints_size, hP, fillTo_len, ← EZ.out, ← EC.out]; omega
      obtain ⟨y, hy⟩ : ∃ y, y = n * 8 % 18446744073709551616 / 2 ^ (8 * i) % 256 := ⟨_, rfl⟩
      have KN : Kept (P.set (c - 1 - i) y = fillTo n (i + 1)) := ⟨by rw [fillTo_succ, ← hP, hy, ← EZ.out, ← EC.out]⟩
      have KY : Kept _ := ⟨hy⟩
      have c26 : ((c : Int) - 1 - (i : Int)) = ((c - 1 - i : Nat) : Int) := by omega
      clear hP hy
      go_wp2_with (first | (refine wl_at (d := 26) rfl rfl (.int .i64 ((c - 1 - i : Nat) : Int)) ?h3 ?_; (case h3 => simp [execOp, Act.eval, go_sem, IntKind.wrap_i64, wrap64]; omega); simp only [Act.put, List.setIfInBounds_toArray, List.set_cons_succ, List.set_cons_zero]) | (refine wl_setElem rfl 5 sz_u8 (.tmp 33) (.tmp 32) rfl w.heap.size (c - 1 - i) .u8 (IntKind.u64.wrap ((n : Int) * 8) / 2 ^ (8 * i) % 256) rfl rfl _ A0 l2 ?_))
      have ey : IntKind.u64.wrap ((n : Int) * 8) / 2 ^ (8 * i) % 256 = (y : Int) := by
        rw [IntKind.wrap_u64, KY.out, Int.natCast_emod, Int.natCast_ediv, Int.natCast_emod, Int.natCast_mul, Int.natCast_pow]
        rfl
      rw [ey]
      intro w4 A4 P4
      rw [ints_set, KN.out] at A4
      have HB4 := HB.trans (P4.below (Nat.le_refl _))
      clear A0 HB P4 KN ey l2 c26
      go_wp2_with fail
      go_roundg (gk - 1)
      case measure => omega
      case rel => exact ⟨i + 1, by omega, by simp, HB4, A4⟩
end Go.Proofs.YtkibojjbghopkaaDoor.sh
