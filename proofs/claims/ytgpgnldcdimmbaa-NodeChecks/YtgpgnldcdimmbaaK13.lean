import Derived.Test.YtgpgnldcdimmbaaK12
import Derived.Test.YtgpgnldcdimmbaaK09
import Derived.Deep.RegionHeld3
namespace Go.Proofs.Ytgpgnldcdimmbaa
open Go.RowKit
set_option linter.unusedSimpArgs false
set_option linter.unusedVariables false

theorem Try.in4 (w : World) (vs : Array Value) : (callFunc 4 vs).run Try.prog w = .ok (.enter 4 vs) w := by kernel_rfl
def NsAt (w : World) (v : Value) (n : Nat) : Prop :=
  (∃ a c, v = .slice a 0 c ∧ n = 0) ∨ ∃ b off cap, v = .slice (some ⟨b, off, none⟩) n cap ∧ ∀ i, i < n → ∃ N vp vo, w.rangeAt b (off + i * 4) (ndA N.au N.ck vp vo).toList ∧ NdAt w N vp vo
theorem NsAt.form {w : World} {v : Value} {n : Nat} (h : NsAt w v n) : ∃ a c, v = .slice a n c := by
  rcases h with ⟨a, c, rfl, rfl⟩ | ⟨b, off, cap, rfl, _⟩
  · exact ⟨_, _, rfl⟩
  · exact ⟨_, _, rfl⟩
theorem NsAt.at {w : World} {a : Option Addr} {n c : Nat} (h : NsAt w (.slice a n c) n) {t : Nat} (ht : t < n) : ∃ b off, a = some ⟨b, off, none⟩ ∧ ∃ N vp vo, w.rangeAt b (off + t * 4) (ndA N.au N.ck vp vo).toList ∧ NdAt w N vp vo := by
  rcases h with ⟨a', c', h1, rfl⟩ | ⟨b, off, cap, h1, h2⟩
  · omega
  · injection h1 with e1 e2 e3
    exact ⟨b, off, e1, h2 t ht⟩
theorem NsAt.below {w w' : World} {v : Value} {n : Nat} (h : NsAt w v n) (hb : Below w.heap.size w w') : NsAt w' v n := by
  rcases h with h | ⟨b, off, cap, h1, h2⟩
  · exact .inl h
  · refine .inr ⟨b, off, cap, h1, fun i hi => ?_⟩
    obtain ⟨N, vp, vo, h3, h4⟩ := h2 i hi
    exact ⟨N, vp, vo, range_grown h3 (Grown.below (S := fun _ => False) hb) (fun h => h), h4.below hb⟩
set_option maxRecDepth 8000 in
set_option maxHeartbeats 4000000 in
theorem checks_any (v : Value) (n : Nat) (w : World) (hL : NsAt w v n) (hn : n ≤ 4398046511104) : Calls Try.prog 4 #[v] w fun e w' => e = .returned (.bool true) ∧ Below w.heap.size w w' := by
  obtain ⟨la, lc, rfl⟩ := hL.form
  have Hn := Keep.mk hn
  have HL0 := Keep.mk hL
  clear hn hL
  go_enter Try.func4, Try.ntmps4
  refine wp_seq_k fun K1 hK1 => ?_
  refine wp_region_list (WL.out ?_)
  refine WL.val (by kernel_rfl) (.bool false) (by go_simp) ?_
  simp only [Act.put, List.setIfInBounds_toArray, List.set_cons_zero, List.set_cons_succ]
  refine WL.nil ?_
  refine hK1 _ _ ?_
  refine wp_seq_k fun K2 hK2 => ?_
  refine wp_seq_k fun K3 hK3 => ?_
  refine wp_region_list (WL.out ?_)
  refine WL.callF (by kernel_rfl) 9 _ _ rfl Try.in9 #[] (by simp) ?_
  refine (awake_any w).mono ?_
  rintro e w1 ⟨rfl, hb1⟩
  refine ⟨_, rfl, ?_⟩
  have B1 := Keep.mk hb1
  have HL := Keep.mk (HL0.out.below hb1)
  clear hb1
  simp only [Act.put, List.setIfInBounds_toArray, List.set_cons_zero, List.set_cons_succ]
  refine WL.val (by kernel_rfl) (.bool false) (by go_simp) ?_
  simp only [Act.put, List.setIfInBounds_toArray, List.set_cons_zero, List.set_cons_succ]
  refine WL.nil ?_
  refine hK3 _ _ ?_
  refine wp_cond_false rfl ?_
  refine wp_skip ?_
  refine hK2 _ _ ?_
  refine wp_seq_k fun K4 hK4 => ?_
  refine wp_seq_k fun K5 hK5 => ?_
  refine wp_region_list (WL.out ?_)
  refine WL.val (by kernel_rfl) (.slice la n lc) (by go_simp) ?_
  simp only [Act.put, List.setIfInBounds_toArray, List.set_cons_zero, List.set_cons_succ]
  refine WL.val (by kernel_rfl) (.int .i64 (n : Int)) (by go_simp) ?_
  simp only [Act.put, List.setIfInBounds_toArray, List.set_cons_zero, List.set_cons_succ]
  refine WL.val (by kernel_rfl) (.int .i64 0) (by go_simp) ?_
  simp only [Act.put, List.setIfInBounds_toArray, List.set_cons_zero, List.set_cons_succ]
  refine WL.nil ?_
  refine hK5 _ _ ?_
  refine wp_block ?_
  refine wp_loop (fun ac wr => ∃ (t : Nat) (u2 u4 u5 u6 u7 u8 u14 u15 u16 u17 u18 u19 u20 u21 u22 u23 u24 u25 u26 u27 u28 u29 u30 u31 u32 u33 u34 u35 u36 u37 u38 u39 u40 u41 u42 u43 u44 u45 u46 u47 u48 u49 u50 u51 : Value), ac = { tmps := #[.slice la n lc, undef, u2, undef, u4, u5, u6, u7, u8, .bool true, .bool false, .slice la n lc, .int .i64 (n : Int), .int .i64 (t : Int), u14, u15, u16, u17, u18, u19, u20, u21, u22, u23, u24, u25, u26, u27, u28, u29, u30, u31, u32, u33, u34, u35, u36, u37, u38, u39, u40, u41, u42, u43, u44, u45, u46, u47, u48, u49, u50, u51], defers := [] } ∧ t ≤ n ∧ Below w1.heap.size w1 wr) (fun a _ => n - (intOf (a.tmps.getD 13 undef)).toNat) ⟨0, .bool false, undef, undef, undef, undef, undef, undef, undef, undef, undef, undef, undef, undef, undef, undef, undef, undef, undef, undef, undef, undef, undef, undef, undef, undef, undef, undef, undef, undef, undef, undef, undef, undef, undef, undef, undef, undef, undef, undef, undef, undef, undef, undef, undef, rfl, by omega, Below.refl _ _⟩ ?_
  rintro ac wr ⟨t, u2, u4, u5, u6, u7, u8, u14, u15, u16, u17, u18, u19, u20, u21, u22, u23, u24, u25, u26, u27, u28, u29, u30, u31, u32, u33, u34, u35, u36, u37, u38, u39, u40, u41, u42, u43, u44, u45, u46, u47, u48, u49, u50, u51, rfl, ht, hB⟩
  have JB := Keep.mk hB
  clear hB
  by_cases htl : t < n
  · have htl' : (t : Int) < (n : Int) := by omega
    have hwr1 : IntKind.i64.wrap ((t : Int) + 1) = (t : Int) + 1 := by rw [IntKind.wrap_i64]; have := Hn.out; omega
    obtain ⟨gb, fb, hla, N, vp, vo, hrg, hN⟩ := (HL.out.below JB.out).at htl
    have HN := Keep.mk hN
    clear hN
    refine wp_seq_k fun K6 hK6 => ?_
    refine wp_region_list (WL.out ?_)
    refine WL.val (by kernel_rfl) (.bool true) (by go_simp) ?_
    simp only [Act.put, List.setIfInBounds_toArray, List.set_cons_zero, List.set_cons_succ]
    refine WL.nil ?_
    refine hK6 _ _ ?_
    refine wp_seq_k fun K7 hK7 => ?_
    refine wp_cond_true rfl ?_
    refine wp_skip ?_
    refine hK7 _ _ ?_
    refine wp_seq_k fun K8 hK8 => ?_
    refine wp_block ?_
    refine wp_seq_k fun K9 hK9 => ?_
    refine wp_region_list (WL.out ?_)
    refine WL.val (by kernel_rfl) (.pointer (some ⟨gb, fb + t * 4, none⟩)) (by go_simp) ?_
    simp only [Act.put, List.setIfInBounds_toArray, List.set_cons_zero, List.set_cons_succ]
    refine WL.mid (by kernel_rfl) 27 (.tmp 15) rfl gb (fb + t * 4) rfl (ndA N.au N.ck vp vo).toList _ hrg Try.underlying27 rfl (by rw [Array.length_toList]; exact Try.size27B _ _ _ _) ?_
    rw [Array.toArray_toList]
    simp only [Act.put, List.setIfInBounds_toArray, List.set_cons_zero, List.set_cons_succ]
    refine WL.new (by kernel_rfl) 27 rfl _ Try.new27N ?_
    simp only [Act.put, List.setIfInBounds_toArray, List.set_cons_zero, List.set_cons_succ]
    refine WL.storeR (by kernel_rfl) 27 (.tmp 4) (.tmp 16) rfl wr.heap.size (ndA N.au N.ck vp vo) rfl rfl 27 (ndA 0 0 noS noS) (Blk.new wr 27 _) (Try.size27B _ _ _ _) rfl (by obtain ⟨p1, p2, e1⟩ := HN.out.ps.form; obtain ⟨p3, p4, e2⟩ := HN.out.ops.form; rw [e1, e2]; exact nd_one _ _ _ _ _ _ _ _) ?_
    have HX := Keep.mk ((Blk.new wr 27 (ndA 0 0 noS noS)).setRow (ndA N.au N.ck vp vo))
    have B3 : Keep (Below wr.heap.size wr ((wr.alloc (.cells (ndA 0 0 noS noS) 27)).setRow wr.heap.size (ndA N.au N.ck vp vo))) := ⟨below_setRow (below_new wr _) (Nat.le_refl _) _⟩
    generalize (wr.alloc (.cells (ndA 0 0 noS noS) 27)).setRow wr.heap.size (ndA N.au N.ck vp vo) = w3 at *
    have HN3 := Keep.mk (HN.out.below B3.out)
    have Bz : Keep (wr.heap.size ≤ w3.heap.size) := ⟨B3.out.size⟩
    obtain ⟨g, hg⟩ : ∃ g, wr.heap.size = g := ⟨_, rfl⟩
    rw [hg] at HX ⊢
    clear hg
    skip
    simp only [Act.put]
    refine WL.nil ?_
    refine hK9 _ _ ?_
    refine wp_seq_k fun K10 hK10 => ?_
    refine wp_region_list (WL.out ?_)
    refine WL.row (by kernel_rfl) 27 (.tmp 4) rfl g rfl 27 (ndA N.au N.ck vp vo) _ HX.out Try.underlying27 rfl (Try.size27B _ _ _ _) ?_
    simp only [Act.put, List.setIfInBounds_toArray, List.set_cons_zero, List.set_cons_succ]
    refine WL.callF (by kernel_rfl) 10 _ _ rfl Try.in10 #[.agg (ndA N.au N.ck vp vo)] (by simp [Act.eval]) ?_
    refine (encode_any N vp vo w3 HN3.out).mono ?_
    rintro e w4 ⟨hb4, hE4⟩
    have B4 := Keep.mk hb4
    have HX4 := Keep.mk (HX.out.below hb4 HX.out.lt)
    have HN4 := Keep.mk (HN3.out.below hb4)
    clear hb4
    rcases hE4 with ⟨a1, rfl⟩ | ⟨a1, a2, rfl⟩ | ⟨a1, a2, ge, a3, rfl, a4⟩
    · refine ⟨_, rfl, ?_⟩
      have R4 : Keep (RowAt w4 (.slice none 0 0) []) := ⟨.inl ⟨rfl, rfl⟩⟩
      simp only [Act.put, List.setIfInBounds_toArray, List.set_cons_zero, List.set_cons_succ]
      refine WL.val (by kernel_rfl) (.tuple #[.slice none 0 0, .int .i64 (chkN N)]) (by go_simp) ?_
      simp only [Act.put, List.setIfInBounds_toArray, List.set_cons_zero, List.set_cons_succ]
      refine WL.val (by kernel_rfl) (.slice none 0 0) (by go_simp) ?_
      simp only [Act.put, List.setIfInBounds_toArray, List.set_cons_zero, List.set_cons_succ]
      refine WL.val (by kernel_rfl) (.int .i64 (chkN N)) (by go_simp) ?_
      simp only [Act.put, List.setIfInBounds_toArray, List.set_cons_zero, List.set_cons_succ]
      refine WL.val (by kernel_rfl) (.slice none 0 0) (by go_simp) ?_
      simp only [Act.put, List.setIfInBounds_toArray, List.set_cons_zero, List.set_cons_succ]
      refine WL.val (by kernel_rfl) (.int .i64 (chkN N)) (by go_simp) ?_
      simp only [Act.put, List.setIfInBounds_toArray, List.set_cons_zero, List.set_cons_succ]
      refine WL.nil ?_
      refine hK10 _ _ ?_
      refine wp_seq_k fun K11 hK11 => ?_
      refine wp_region_list (WL.out ?_)
      refine WL.row (by kernel_rfl) 27 (.tmp 4) rfl g rfl 27 (ndA N.au N.ck vp vo) _ HX4.out Try.underlying27 rfl (Try.size27B _ _ _ _) ?_
      simp only [Act.put, List.setIfInBounds_toArray, List.set_cons_zero, List.set_cons_succ]
      refine WL.callF (by kernel_rfl) 11 _ _ rfl Try.in11 #[.agg (ndA N.au N.ck vp vo)] (by simp [Act.eval]) ?_
      refine (rencode_any N vp vo w4 HN4.out).mono ?_
      rintro e w5 ⟨hb5, hE5⟩
      have B5 := Keep.mk hb5
      have HX5 := Keep.mk (HX4.out.below hb5 HX4.out.lt)
      have HN5 := Keep.mk (HN4.out.below hb5)
      have R5 := Keep.mk (R4.out.below hb5)
      clear hb5
      rcases hE5 with ⟨c1, rfl⟩ | ⟨c1, c2, rfl⟩ | ⟨c1, c2, v5, rfl, c4⟩
      · refine ⟨_, rfl, ?_⟩
        have R6 : Keep (RowAt w5 (.slice none 0 0) []) := ⟨.inl ⟨rfl, rfl⟩⟩
        simp only [Act.put, List.setIfInBounds_toArray, List.set_cons_zero, List.set_cons_succ]
        refine WL.val (by kernel_rfl) (.tuple #[.slice none 0 0, .int .i64 (chkN N)]) (by go_simp) ?_
        simp only [Act.put, List.setIfInBounds_toArray, List.set_cons_zero, List.set_cons_succ]
        refine WL.val (by kernel_rfl) (.slice none 0 0) (by go_simp) ?_
        simp only [Act.put, List.setIfInBounds_toArray, List.set_cons_zero, List.set_cons_succ]
        refine WL.val (by kernel_rfl) (.int .i64 (chkN N)) (by go_simp) ?_
        simp only [Act.put, List.setIfInBounds_toArray, List.set_cons_zero, List.set_cons_succ]
        refine WL.val (by kernel_rfl) (.slice none 0 0) (by go_simp) ?_
        simp only [Act.put, List.setIfInBounds_toArray, List.set_cons_zero, List.set_cons_succ]
        refine WL.val (by kernel_rfl) (.int .i64 (chkN N)) (by go_simp) ?_
        simp only [Act.put, List.setIfInBounds_toArray, List.set_cons_zero, List.set_cons_succ]
        refine WL.nil ?_
        refine hK11 _ _ ?_
        refine wp_seq_k fun K12 hK12 => ?_
        clear a1
        try clear c1
        try clear a2
        try clear c2
        obtain ⟨ZC, hZC⟩ : ∃ z, chkN N = z := ⟨_, rfl⟩
        have HZC := Keep.mk hZC
        rw [hZC]
        clear hZC
        obtain ⟨ZS, hZS⟩ : ∃ z, sizeN N = z := ⟨_, rfl⟩
        have HZS := Keep.mk hZS
        clear hZS
        obtain ⟨st, hst⟩ : ∃ st, strOfNums [] = st := ⟨_, rfl⟩
        have Hst := Keep.mk hst
        clear hst
        have hD0 : Below w5.heap.size w5 w5.drew := (Below.refl _ _).drew
        have HS0 : Keep (∀ wx, Below w5.heap.size w5 wx → wx.rangeAt g 0 (ndA N.au N.ck vp vo).toList ∧ RowAt wx (.slice none 0 0) [] ∧ RowAt wx (.slice none 0 0) []) := ⟨fun wx hx => ⟨blk_range (HX5.out.below hx HX5.out.lt), R5.out.below hx, R6.out.below hx⟩⟩
        have HN6 : Keep (∀ wx, Below w5.heap.size w5 wx → NdAt wx N vp vo) := ⟨fun wx hx => HN5.out.below hx⟩
        refine wp_region_held_drew (S := fun wx => wx.rangeAt g 0 (ndA N.au N.ck vp vo).toList ∧ RowAt wx (.slice none 0 0) [] ∧ RowAt wx (.slice none 0 0) []) (by kernel_rfl) (HS0.out _ hD0) (fun hHeld => ?_)
        refine wpAnyH_take (i := 0) (oi := ⟨some 27, Op.load 27 (Operand.tmp 4), 27, _, _, none⟩) (v := .agg (ndA N.au N.ck vp vo).toList.toArray) rfl (by kernel_rfl) (by kernel_rfl) (by kernel_rfl) (fun _ _ _ h => h) (yieldsIf_load_mid (by rfl) 27 (Operand.tmp 4) rfl g 0 rfl (ndA N.au N.ck vp vo).toList _ (fun w hS => hS.1) Try.underlying27 rfl (by rw [Array.length_toList]; exact Try.size27B _ _ _ _)) hHeld ?_
        simp only [Act.put, List.setIfInBounds_toArray, List.set_cons_zero, List.set_cons_succ]
        refine wpAnyH_take (i := 2) (oi := ⟨some 29, Op.load 27 (Operand.tmp 4), 27, _, _, none⟩) (v := .agg (ndA N.au N.ck vp vo).toList.toArray) rfl (by kernel_rfl) (by kernel_rfl) (by kernel_rfl) (fun _ _ _ h => h) (yieldsIf_load_mid (by rfl) 27 (Operand.tmp 4) rfl g 0 rfl (ndA N.au N.ck vp vo).toList _ (fun w hS => hS.1) Try.underlying27 rfl (by rw [Array.length_toList]; exact Try.size27B _ _ _ _)) hHeld ?_
        simp only [Act.put, List.setIfInBounds_toArray, List.set_cons_zero, List.set_cons_succ]
        refine wpAnyH_ready (rs := [1]) (by kernel_rfl) (by simp) ?_
        refine AllReadyH.cons (o := ⟨some 28, Op.call { callee := Callee.value (Operand.func 12), args := #[Operand.tmp 27], argTypes := #[27] }, 29, _, _, none⟩) rfl (fun K hK => ?_) AllReadyH.nil
        rw [if_pos (by rfl)]
        refine wp_callF 12 _ _ rfl Try.in12 #[.agg (ndA N.au N.ck vp vo)] (by simp [Act.eval]) (fun vz wz => vz = .int .i64 ZC ∧ Below w5.heap.size w5 wz) ?_ ?_
        · refine (check_node N vp vo w5.drew (HN6.out _ hD0)).mono ?_
          rintro e wz ⟨rfl, h⟩
          exact ⟨_, rfl, by rw [HZC.out], (hD0).trans (h.mono (hD0).size)⟩
        rintro vz w6 ⟨rfl, h7⟩
        have HBw6 := Keep.mk h7
        clear h7
        refine hK.out _ _ (HS0.out _ HBw6.out) fun hH2 => ?_
        clear hK
        simp only [Act.put, List.setIfInBounds_toArray, List.set_cons_zero, List.set_cons_succ]
        refine wpAnyH_ready (rs := [3]) (by kernel_rfl) (by simp) ?_
        refine AllReadyH.cons (o := ⟨some 30, Op.call { callee := Callee.value (Operand.func 13), args := #[Operand.tmp 29], argTypes := #[27] }, 29, _, _, none⟩) rfl (fun K hK => ?_) AllReadyH.nil
        rw [if_pos (by rfl)]
        refine wp_callF 13 _ _ rfl Try.in13 #[.agg (ndA N.au N.ck vp vo)] (by simp [Act.eval]) (fun vz wz => vz = .int .i64 ZC ∧ Below w5.heap.size w5 wz) ?_ ?_
        · refine (rcheck_node N vp vo w6 (HN6.out _ HBw6.out)).mono ?_
          rintro e wz ⟨rfl, h⟩
          exact ⟨_, rfl, by rw [HZC.out], (HBw6.out).trans (h.mono (HBw6.out).size)⟩
        rintro vz w7 ⟨rfl, h7⟩
        have HBw7 := Keep.mk h7
        clear h7
        refine hK.out _ _ (HS0.out _ HBw7.out) fun hH3 => ?_
        clear hK
        simp only [Act.put, List.setIfInBounds_toArray, List.set_cons_zero, List.set_cons_succ]
        refine wpAnyH_take (i := 4) (oi := ⟨some 31, Op.binOp BinOp.neq 29 (Operand.tmp 28) (Operand.tmp 30) 29, 4, _, _, none⟩) (v := .bool false) rfl (by kernel_rfl) (by kernel_rfl) (by kernel_rfl) (fun _ _ _ h => h) (Or.inl ⟨by rfl, fun w hS => by clear hS; go_simp⟩) hH3 ?_
        simp only [Act.put, List.setIfInBounds_toArray, List.set_cons_zero, List.set_cons_succ]
        refine wpAnyH_take (i := 5) (oi := ⟨some 32, Op.move (Operand.tmp 31), 4, _, _, none⟩) (v := .bool false) rfl (by kernel_rfl) (by kernel_rfl) (by kernel_rfl) (fun _ _ _ h => h) (Or.inl ⟨by rfl, fun w hS => by clear hS; go_simp⟩) hH3 ?_
        simp only [Act.put, List.setIfInBounds_toArray, List.set_cons_zero, List.set_cons_succ]
        refine wpAnyH_take (i := 6) (oi := ⟨some 33, Op.load 27 (Operand.tmp 4), 27, _, _, some (5, false)⟩) (v := .agg (ndA N.au N.ck vp vo).toList.toArray) rfl (by kernel_rfl) (by kernel_rfl) (by kernel_rfl) (fun _ _ _ h => h) (yieldsIf_load_mid (by rfl) 27 (Operand.tmp 4) rfl g 0 rfl (ndA N.au N.ck vp vo).toList _ (fun w hS => hS.1) Try.underlying27 rfl (by rw [Array.length_toList]; exact Try.size27B _ _ _ _)) hH3 ?_
        simp only [Act.put, List.setIfInBounds_toArray, List.set_cons_zero, List.set_cons_succ]
        refine wpAnyH_take (i := 8) (oi := ⟨some 35, Op.load 27 (Operand.tmp 4), 27, _, _, some (5, false)⟩) (v := .agg (ndA N.au N.ck vp vo).toList.toArray) rfl (by kernel_rfl) (by kernel_rfl) (by kernel_rfl) (fun _ _ _ h => h) (yieldsIf_load_mid (by rfl) 27 (Operand.tmp 4) rfl g 0 rfl (ndA N.au N.ck vp vo).toList _ (fun w hS => hS.1) Try.underlying27 rfl (by rw [Array.length_toList]; exact Try.size27B _ _ _ _)) hH3 ?_
        simp only [Act.put, List.setIfInBounds_toArray, List.set_cons_zero, List.set_cons_succ]
        refine wpAnyH_ready (rs := [7]) (by kernel_rfl) (by simp) ?_
        refine AllReadyH.cons (o := ⟨some 34, Op.call { callee := Callee.value (Operand.func 14), args := #[Operand.tmp 33], argTypes := #[27] }, 3, _, _, some (5, false)⟩) rfl (fun K hK => ?_) AllReadyH.nil
        rw [if_pos (by rfl)]
        refine wp_callF 14 _ _ rfl Try.in14 #[.agg (ndA N.au N.ck vp vo)] (by simp [Act.eval]) (fun vz wz => vz = .int .i64 ZS ∧ Below w5.heap.size w5 wz) ?_ ?_
        · refine (size_any N vp vo w7 (HN6.out _ HBw7.out)).mono ?_
          rintro e wz ⟨rfl, h⟩
          exact ⟨_, rfl, by rw [HZS.out], (HBw7.out).trans (h.mono (HBw7.out).size)⟩
        rintro vz w8 ⟨rfl, h7⟩
        have HBw8 := Keep.mk h7
        clear h7
        refine hK.out _ _ (HS0.out _ HBw8.out) fun hH4 => ?_
        clear hK
        simp only [Act.put, List.setIfInBounds_toArray, List.set_cons_zero, List.set_cons_succ]
        refine wpAnyH_ready (rs := [9]) (by kernel_rfl) (by simp) ?_
        refine AllReadyH.cons (o := ⟨some 36, Op.call { callee := Callee.value (Operand.func 15), args := #[Operand.tmp 35], argTypes := #[27] }, 3, _, _, some (5, false)⟩) rfl (fun K hK => ?_) AllReadyH.nil
        rw [if_pos (by rfl)]
        refine wp_callF 15 _ _ rfl Try.in15 #[.agg (ndA N.au N.ck vp vo)] (by simp [Act.eval]) (fun vz wz => vz = .int .i64 ZS ∧ Below w5.heap.size w5 wz) ?_ ?_
        · refine (rsize_any N vp vo w8 (HN6.out _ HBw8.out)).mono ?_
          rintro e wz ⟨rfl, h⟩
          exact ⟨_, rfl, by rw [HZS.out], (HBw8.out).trans (h.mono (HBw8.out).size)⟩
        rintro vz w9 ⟨rfl, h7⟩
        have HBw9 := Keep.mk h7
        clear h7
        refine hK.out _ _ (HS0.out _ HBw9.out) fun hH5 => ?_
        clear hK
        simp only [Act.put, List.setIfInBounds_toArray, List.set_cons_zero, List.set_cons_succ]
        refine wpAnyH_take (i := 10) (oi := ⟨some 37, Op.binOp BinOp.neq 3 (Operand.tmp 34) (Operand.tmp 36) 3, 4, _, _, some (5, false)⟩) (v := .bool false) rfl (by kernel_rfl) (by kernel_rfl) (by kernel_rfl) (fun _ _ _ h => h) (Or.inl ⟨by rfl, fun w hS => by clear hS; go_simp⟩) hH5 ?_
        simp only [Act.put, List.setIfInBounds_toArray, List.set_cons_zero, List.set_cons_succ]
        refine wpAnyH_take (i := 11) (oi := ⟨some 38, Op.pick (Operand.tmp 32) (Operand.const (Value.bool true)) (Operand.tmp 37), 4, _, _, none⟩) (v := .bool false) rfl (by kernel_rfl) (by kernel_rfl) (by kernel_rfl) (fun _ _ _ h => h) (Or.inl ⟨by rfl, fun w hS => by clear hS; go_simp⟩) hH5 ?_
        simp only [Act.put, List.setIfInBounds_toArray, List.set_cons_zero, List.set_cons_succ]
        refine wpAnyH_take (i := 12) (oi := ⟨some 39, Op.move (Operand.tmp 38), 4, _, _, none⟩) (v := .bool false) rfl (by kernel_rfl) (by kernel_rfl) (by kernel_rfl) (fun _ _ _ h => h) (Or.inl ⟨by rfl, fun w hS => by clear hS; go_simp⟩) hH5 ?_
        simp only [Act.put, List.setIfInBounds_toArray, List.set_cons_zero, List.set_cons_succ]
        refine wpAnyH_take (i := 13) (oi := ⟨some 40, Op.move (Operand.tmp 6), 29, _, _, some (12, false)⟩) (v := .int .i64 ZC) rfl (by kernel_rfl) (by kernel_rfl) (by kernel_rfl) (fun _ _ _ h => h) (Or.inl ⟨by rfl, fun w hS => by clear hS; go_simp⟩) hH5 ?_
        simp only [Act.put, List.setIfInBounds_toArray, List.set_cons_zero, List.set_cons_succ]
        refine wpAnyH_take (i := 14) (oi := ⟨some 41, Op.move (Operand.tmp 8), 29, _, _, some (12, false)⟩) (v := .int .i64 ZC) rfl (by kernel_rfl) (by kernel_rfl) (by kernel_rfl) (fun _ _ _ h => h) (Or.inl ⟨by rfl, fun w hS => by clear hS; go_simp⟩) hH5 ?_
        simp only [Act.put, List.setIfInBounds_toArray, List.set_cons_zero, List.set_cons_succ]
        refine wpAnyH_take (i := 15) (oi := ⟨some 42, Op.binOp BinOp.neq 29 (Operand.tmp 40) (Operand.tmp 41) 29, 4, _, _, some (12, false)⟩) (v := .bool false) rfl (by kernel_rfl) (by kernel_rfl) (by kernel_rfl) (fun _ _ _ h => h) (Or.inl ⟨by rfl, fun w hS => by clear hS; go_simp⟩) hH5 ?_
        simp only [Act.put, List.setIfInBounds_toArray, List.set_cons_zero, List.set_cons_succ]
        refine wpAnyH_take (i := 16) (oi := ⟨some 43, Op.pick (Operand.tmp 39) (Operand.const (Value.bool true)) (Operand.tmp 42), 4, _, _, none⟩) (v := .bool false) rfl (by kernel_rfl) (by kernel_rfl) (by kernel_rfl) (fun _ _ _ h => h) (Or.inl ⟨by rfl, fun w hS => by clear hS; go_simp⟩) hH5 ?_
        simp only [Act.put, List.setIfInBounds_toArray, List.set_cons_zero, List.set_cons_succ]
        refine wpAnyH_take (i := 17) (oi := ⟨some 44, Op.move (Operand.tmp 43), 4, _, _, none⟩) (v := .bool false) rfl (by kernel_rfl) (by kernel_rfl) (by kernel_rfl) (fun _ _ _ h => h) (Or.inl ⟨by rfl, fun w hS => by clear hS; go_simp⟩) hH5 ?_
        simp only [Act.put, List.setIfInBounds_toArray, List.set_cons_zero, List.set_cons_succ]
        refine wpAnyH_take (i := 18) (oi := ⟨some 45, Op.move (Operand.tmp 5), 28, _, _, some (17, false)⟩) (v := .slice none 0 0) rfl (by kernel_rfl) (by kernel_rfl) (by kernel_rfl) (fun _ _ _ h => h) (Or.inl ⟨by rfl, fun w hS => by clear hS; go_simp⟩) hH5 ?_
        simp only [Act.put, List.setIfInBounds_toArray, List.set_cons_zero, List.set_cons_succ]
        refine wpAnyH_take (i := 19) (oi := ⟨some 46, Op.convert 28 9 (Operand.tmp 45), 9, _, _, some (17, false)⟩) (v := .string st) rfl (by kernel_rfl) (by kernel_rfl) (by kernel_rfl) (fun _ _ _ h => h) (Or.inl ⟨by rfl, fun w hS => by have h1 := conv_row _ _ w hS.2.1; rw [Hst.out] at h1; clear hS; go_simp⟩) hH5 ?_
        simp only [Act.put, List.setIfInBounds_toArray, List.set_cons_zero, List.set_cons_succ]
        refine wpAnyH_take (i := 20) (oi := ⟨some 47, Op.move (Operand.tmp 7), 28, _, _, some (17, false)⟩) (v := .slice none 0 0) rfl (by kernel_rfl) (by kernel_rfl) (by kernel_rfl) (fun _ _ _ h => h) (Or.inl ⟨by rfl, fun w hS => by clear hS; go_simp⟩) hH5 ?_
        simp only [Act.put, List.setIfInBounds_toArray, List.set_cons_zero, List.set_cons_succ]
        refine wpAnyH_take (i := 21) (oi := ⟨some 48, Op.convert 28 9 (Operand.tmp 47), 9, _, _, some (17, false)⟩) (v := .string st) rfl (by kernel_rfl) (by kernel_rfl) (by kernel_rfl) (fun _ _ _ h => h) (Or.inl ⟨by rfl, fun w hS => by have h1 := conv_row _ _ w hS.2.2; rw [Hst.out] at h1; clear hS; go_simp⟩) hH5 ?_
        simp only [Act.put, List.setIfInBounds_toArray, List.set_cons_zero, List.set_cons_succ]
        refine wpAnyH_take (i := 22) (oi := ⟨some 49, Op.binOp BinOp.neq 9 (Operand.tmp 46) (Operand.tmp 48) 9, 4, _, _, some (17, false)⟩) (v := .bool false) rfl (by kernel_rfl) (by kernel_rfl) (by kernel_rfl) (fun _ _ _ h => h) (Or.inl ⟨by rfl, fun w hS => by have h1 := bs_refl st; clear hS; go_simp⟩) hH5 ?_
        simp only [Act.put, List.setIfInBounds_toArray, List.set_cons_zero, List.set_cons_succ]
        refine wpAnyH_take (i := 23) (oi := ⟨some 50, Op.pick (Operand.tmp 44) (Operand.const (Value.bool true)) (Operand.tmp 49), 4, _, _, none⟩) (v := .bool false) rfl (by kernel_rfl) (by kernel_rfl) (by kernel_rfl) (fun _ _ _ h => h) (Or.inl ⟨by rfl, fun w hS => by clear hS; go_simp⟩) hH5 ?_
        simp only [Act.put, List.setIfInBounds_toArray, List.set_cons_zero, List.set_cons_succ]
        refine wpAnyH_done (by kernel_rfl) ?_ _
        refine hK12 _ _ ?_
        refine wp_cond_false rfl ?_
        refine wp_skip ?_
        refine hK8 _ _ ?_
        refine wp_region_list (WL.out ?_)
        refine WL.val (by kernel_rfl) (.int .i64 ((t : Int) + 1)) (by go_simp) ?_
        simp only [Act.put, List.setIfInBounds_toArray, List.set_cons_zero, List.set_cons_succ]
        refine WL.val (by kernel_rfl) (.int .i64 ((t : Int) + 1)) (by go_simp) ?_
        simp only [Act.put, List.setIfInBounds_toArray, List.set_cons_zero, List.set_cons_succ]
        refine WL.nil ?_
        refine ⟨⟨t + 1, u2, .pointer (some ⟨g, 0, none⟩), .slice none 0 0, .int .i64 ZC, .slice none 0 0, .int .i64 ZC, .bool true, .pointer (some ⟨gb, fb + t * 4, none⟩), .agg (ndA N.au N.ck vp vo), .tuple #[.slice none 0 0, .int .i64 ZC], .agg (ndA N.au N.ck vp vo), .tuple #[.slice none 0 0, .int .i64 ZC], .slice none 0 0, .int .i64 ZC, .tuple #[.slice none 0 0, .int .i64 ZC], .agg (ndA N.au N.ck vp vo), .tuple #[.slice none 0 0, .int .i64 ZC], .slice none 0 0, .int .i64 ZC, .agg (ndA N.au N.ck vp vo).toList.toArray, .int .i64 ZC, .agg (ndA N.au N.ck vp vo).toList.toArray, .int .i64 ZC, .bool false, .bool false, .agg (ndA N.au N.ck vp vo).toList.toArray, .int .i64 ZS, .agg (ndA N.au N.ck vp vo).toList.toArray, .int .i64 ZS, .bool false, .bool false, .bool false, .int .i64 ZC, .int .i64 ZC, .bool false, .bool false, .bool false, .slice none 0 0, .string st, .slice none 0 0, .string st, .bool false, .bool false, .int .i64 ((t : Int) + 1), rfl, by omega, JB.out.trans ((B3.out.trans ((B4.out.trans ((B5.out.trans (HBw9.out.mono B5.out.size)).mono B4.out.size)).mono B3.out.size)).mono JB.out.size)⟩, ?_⟩
        simp only [intOf]; show n - ((t : Int) + 1).toNat < n - ((t : Int)).toNat; omega
      · exfalso
        first | omega | exact a1 c1 | exact c1 a1
      · exfalso
        first | omega | exact a1 c1 | exact c1 a1
    · refine ⟨_, rfl, ?_⟩
      have R4 : Keep (RowAt w4 (.slice none 0 0) []) := ⟨.inl ⟨rfl, rfl⟩⟩
      simp only [Act.put, List.setIfInBounds_toArray, List.set_cons_zero, List.set_cons_succ]
      refine WL.val (by kernel_rfl) (.tuple #[.slice none 0 0, .int .i64 4]) (by go_simp) ?_
      simp only [Act.put, List.setIfInBounds_toArray, List.set_cons_zero, List.set_cons_succ]
      refine WL.val (by kernel_rfl) (.slice none 0 0) (by go_simp) ?_
      simp only [Act.put, List.setIfInBounds_toArray, List.set_cons_zero, List.set_cons_succ]
      refine WL.val (by kernel_rfl) (.int .i64 4) (by go_simp) ?_
      simp only [Act.put, List.setIfInBounds_toArray, List.set_cons_zero, List.set_cons_succ]
      refine WL.val (by kernel_rfl) (.slice none 0 0) (by go_simp) ?_
      simp only [Act.put, List.setIfInBounds_toArray, List.set_cons_zero, List.set_cons_succ]
      refine WL.val (by kernel_rfl) (.int .i64 4) (by go_simp) ?_
      simp only [Act.put, List.setIfInBounds_toArray, List.set_cons_zero, List.set_cons_succ]
      refine WL.nil ?_
      refine hK10 _ _ ?_
      refine wp_seq_k fun K13 hK13 => ?_
      refine wp_region_list (WL.out ?_)
      refine WL.row (by kernel_rfl) 27 (.tmp 4) rfl g rfl 27 (ndA N.au N.ck vp vo) _ HX4.out Try.underlying27 rfl (Try.size27B _ _ _ _) ?_
      simp only [Act.put, List.setIfInBounds_toArray, List.set_cons_zero, List.set_cons_succ]
      refine WL.callF (by kernel_rfl) 11 _ _ rfl Try.in11 #[.agg (ndA N.au N.ck vp vo)] (by simp [Act.eval]) ?_
      refine (rencode_any N vp vo w4 HN4.out).mono ?_
      rintro e w5 ⟨hb5, hE5⟩
      have B5 := Keep.mk hb5
      have HX5 := Keep.mk (HX4.out.below hb5 HX4.out.lt)
      have HN5 := Keep.mk (HN4.out.below hb5)
      have R5 := Keep.mk (R4.out.below hb5)
      clear hb5
      rcases hE5 with ⟨c1, rfl⟩ | ⟨c1, c2, rfl⟩ | ⟨c1, c2, v5, rfl, c4⟩
      · exfalso
        first | omega | exact a1 c1 | exact c1 a1
      · refine ⟨_, rfl, ?_⟩
        have R6 : Keep (RowAt w5 (.slice none 0 0) []) := ⟨.inl ⟨rfl, rfl⟩⟩
        simp only [Act.put, List.setIfInBounds_toArray, List.set_cons_zero, List.set_cons_succ]
        refine WL.val (by kernel_rfl) (.tuple #[.slice none 0 0, .int .i64 4]) (by go_simp) ?_
        simp only [Act.put, List.setIfInBounds_toArray, List.set_cons_zero, List.set_cons_succ]
        refine WL.val (by kernel_rfl) (.slice none 0 0) (by go_simp) ?_
        simp only [Act.put, List.setIfInBounds_toArray, List.set_cons_zero, List.set_cons_succ]
        refine WL.val (by kernel_rfl) (.int .i64 4) (by go_simp) ?_
        simp only [Act.put, List.setIfInBounds_toArray, List.set_cons_zero, List.set_cons_succ]
        refine WL.val (by kernel_rfl) (.slice none 0 0) (by go_simp) ?_
        simp only [Act.put, List.setIfInBounds_toArray, List.set_cons_zero, List.set_cons_succ]
        refine WL.val (by kernel_rfl) (.int .i64 4) (by go_simp) ?_
        simp only [Act.put, List.setIfInBounds_toArray, List.set_cons_zero, List.set_cons_succ]
        refine WL.nil ?_
        refine hK13 _ _ ?_
        refine wp_seq_k fun K14 hK14 => ?_
        clear a1
        try clear c1
        try clear a2
        try clear c2
        obtain ⟨ZC, hZC⟩ : ∃ z, chkN N = z := ⟨_, rfl⟩
        have HZC := Keep.mk hZC
        clear hZC
        obtain ⟨ZS, hZS⟩ : ∃ z, sizeN N = z := ⟨_, rfl⟩
        have HZS := Keep.mk hZS
        clear hZS
        obtain ⟨st, hst⟩ : ∃ st, strOfNums [] = st := ⟨_, rfl⟩
        have Hst := Keep.mk hst
        clear hst
        have hD0 : Below w5.heap.size w5 w5.drew := (Below.refl _ _).drew
        have HS0 : Keep (∀ wx, Below w5.heap.size w5 wx → wx.rangeAt g 0 (ndA N.au N.ck vp vo).toList ∧ RowAt wx (.slice none 0 0) [] ∧ RowAt wx (.slice none 0 0) []) := ⟨fun wx hx => ⟨blk_range (HX5.out.below hx HX5.out.lt), R5.out.below hx, R6.out.below hx⟩⟩
        have HN6 : Keep (∀ wx, Below w5.heap.size w5 wx → NdAt wx N vp vo) := ⟨fun wx hx => HN5.out.below hx⟩
        refine wp_region_held_drew (S := fun wx => wx.rangeAt g 0 (ndA N.au N.ck vp vo).toList ∧ RowAt wx (.slice none 0 0) [] ∧ RowAt wx (.slice none 0 0) []) (by kernel_rfl) (HS0.out _ hD0) (fun hHeld => ?_)
        refine wpAnyH_take (i := 0) (oi := ⟨some 27, Op.load 27 (Operand.tmp 4), 27, _, _, none⟩) (v := .agg (ndA N.au N.ck vp vo).toList.toArray) rfl (by kernel_rfl) (by kernel_rfl) (by kernel_rfl) (fun _ _ _ h => h) (yieldsIf_load_mid (by rfl) 27 (Operand.tmp 4) rfl g 0 rfl (ndA N.au N.ck vp vo).toList _ (fun w hS => hS.1) Try.underlying27 rfl (by rw [Array.length_toList]; exact Try.size27B _ _ _ _)) hHeld ?_
        simp only [Act.put, List.setIfInBounds_toArray, List.set_cons_zero, List.set_cons_succ]
        refine wpAnyH_take (i := 2) (oi := ⟨some 29, Op.load 27 (Operand.tmp 4), 27, _, _, none⟩) (v := .agg (ndA N.au N.ck vp vo).toList.toArray) rfl (by kernel_rfl) (by kernel_rfl) (by kernel_rfl) (fun _ _ _ h => h) (yieldsIf_load_mid (by rfl) 27 (Operand.tmp 4) rfl g 0 rfl (ndA N.au N.ck vp vo).toList _ (fun w hS => hS.1) Try.underlying27 rfl (by rw [Array.length_toList]; exact Try.size27B _ _ _ _)) hHeld ?_
        simp only [Act.put, List.setIfInBounds_toArray, List.set_cons_zero, List.set_cons_succ]
        refine wpAnyH_ready (rs := [1]) (by kernel_rfl) (by simp) ?_
        refine AllReadyH.cons (o := ⟨some 28, Op.call { callee := Callee.value (Operand.func 12), args := #[Operand.tmp 27], argTypes := #[27] }, 29, _, _, none⟩) rfl (fun K hK => ?_) AllReadyH.nil
        rw [if_pos (by rfl)]
        refine wp_callF 12 _ _ rfl Try.in12 #[.agg (ndA N.au N.ck vp vo)] (by simp [Act.eval]) (fun vz wz => vz = .int .i64 ZC ∧ Below w5.heap.size w5 wz) ?_ ?_
        · refine (check_node N vp vo w5.drew (HN6.out _ hD0)).mono ?_
          rintro e wz ⟨rfl, h⟩
          exact ⟨_, rfl, by rw [HZC.out], (hD0).trans (h.mono (hD0).size)⟩
        rintro vz w6 ⟨rfl, h7⟩
        have HBw6 := Keep.mk h7
        clear h7
        refine hK.out _ _ (HS0.out _ HBw6.out) fun hH2 => ?_
        clear hK
        simp only [Act.put, List.setIfInBounds_toArray, List.set_cons_zero, List.set_cons_succ]
        refine wpAnyH_ready (rs := [3]) (by kernel_rfl) (by simp) ?_
        refine AllReadyH.cons (o := ⟨some 30, Op.call { callee := Callee.value (Operand.func 13), args := #[Operand.tmp 29], argTypes := #[27] }, 29, _, _, none⟩) rfl (fun K hK => ?_) AllReadyH.nil
        rw [if_pos (by rfl)]
        refine wp_callF 13 _ _ rfl Try.in13 #[.agg (ndA N.au N.ck vp vo)] (by simp [Act.eval]) (fun vz wz => vz = .int .i64 ZC ∧ Below w5.heap.size w5 wz) ?_ ?_
        · refine (rcheck_node N vp vo w6 (HN6.out _ HBw6.out)).mono ?_
          rintro e wz ⟨rfl, h⟩
          exact ⟨_, rfl, by rw [HZC.out], (HBw6.out).trans (h.mono (HBw6.out).size)⟩
        rintro vz w7 ⟨rfl, h7⟩
        have HBw7 := Keep.mk h7
        clear h7
        refine hK.out _ _ (HS0.out _ HBw7.out) fun hH3 => ?_
        clear hK
        simp only [Act.put, List.setIfInBounds_toArray, List.set_cons_zero, List.set_cons_succ]
        refine wpAnyH_take (i := 4) (oi := ⟨some 31, Op.binOp BinOp.neq 29 (Operand.tmp 28) (Operand.tmp 30) 29, 4, _, _, none⟩) (v := .bool false) rfl (by kernel_rfl) (by kernel_rfl) (by kernel_rfl) (fun _ _ _ h => h) (Or.inl ⟨by rfl, fun w hS => by clear hS; go_simp⟩) hH3 ?_
        simp only [Act.put, List.setIfInBounds_toArray, List.set_cons_zero, List.set_cons_succ]
        refine wpAnyH_take (i := 5) (oi := ⟨some 32, Op.move (Operand.tmp 31), 4, _, _, none⟩) (v := .bool false) rfl (by kernel_rfl) (by kernel_rfl) (by kernel_rfl) (fun _ _ _ h => h) (Or.inl ⟨by rfl, fun w hS => by clear hS; go_simp⟩) hH3 ?_
        simp only [Act.put, List.setIfInBounds_toArray, List.set_cons_zero, List.set_cons_succ]
        refine wpAnyH_take (i := 6) (oi := ⟨some 33, Op.load 27 (Operand.tmp 4), 27, _, _, some (5, false)⟩) (v := .agg (ndA N.au N.ck vp vo).toList.toArray) rfl (by kernel_rfl) (by kernel_rfl) (by kernel_rfl) (fun _ _ _ h => h) (yieldsIf_load_mid (by rfl) 27 (Operand.tmp 4) rfl g 0 rfl (ndA N.au N.ck vp vo).toList _ (fun w hS => hS.1) Try.underlying27 rfl (by rw [Array.length_toList]; exact Try.size27B _ _ _ _)) hH3 ?_
        simp only [Act.put, List.setIfInBounds_toArray, List.set_cons_zero, List.set_cons_succ]
        refine wpAnyH_take (i := 8) (oi := ⟨some 35, Op.load 27 (Operand.tmp 4), 27, _, _, some (5, false)⟩) (v := .agg (ndA N.au N.ck vp vo).toList.toArray) rfl (by kernel_rfl) (by kernel_rfl) (by kernel_rfl) (fun _ _ _ h => h) (yieldsIf_load_mid (by rfl) 27 (Operand.tmp 4) rfl g 0 rfl (ndA N.au N.ck vp vo).toList _ (fun w hS => hS.1) Try.underlying27 rfl (by rw [Array.length_toList]; exact Try.size27B _ _ _ _)) hH3 ?_
        simp only [Act.put, List.setIfInBounds_toArray, List.set_cons_zero, List.set_cons_succ]
        refine wpAnyH_ready (rs := [7]) (by kernel_rfl) (by simp) ?_
        refine AllReadyH.cons (o := ⟨some 34, Op.call { callee := Callee.value (Operand.func 14), args := #[Operand.tmp 33], argTypes := #[27] }, 3, _, _, some (5, false)⟩) rfl (fun K hK => ?_) AllReadyH.nil
        rw [if_pos (by rfl)]
        refine wp_callF 14 _ _ rfl Try.in14 #[.agg (ndA N.au N.ck vp vo)] (by simp [Act.eval]) (fun vz wz => vz = .int .i64 ZS ∧ Below w5.heap.size w5 wz) ?_ ?_
        · refine (size_any N vp vo w7 (HN6.out _ HBw7.out)).mono ?_
          rintro e wz ⟨rfl, h⟩
          exact ⟨_, rfl, by rw [HZS.out], (HBw7.out).trans (h.mono (HBw7.out).size)⟩
        rintro vz w8 ⟨rfl, h7⟩
        have HBw8 := Keep.mk h7
        clear h7
        refine hK.out _ _ (HS0.out _ HBw8.out) fun hH4 => ?_
        clear hK
        simp only [Act.put, List.setIfInBounds_toArray, List.set_cons_zero, List.set_cons_succ]
        refine wpAnyH_ready (rs := [9]) (by kernel_rfl) (by simp) ?_
        refine AllReadyH.cons (o := ⟨some 36, Op.call { callee := Callee.value (Operand.func 15), args := #[Operand.tmp 35], argTypes := #[27] }, 3, _, _, some (5, false)⟩) rfl (fun K hK => ?_) AllReadyH.nil
        rw [if_pos (by rfl)]
        refine wp_callF 15 _ _ rfl Try.in15 #[.agg (ndA N.au N.ck vp vo)] (by simp [Act.eval]) (fun vz wz => vz = .int .i64 ZS ∧ Below w5.heap.size w5 wz) ?_ ?_
        · refine (rsize_any N vp vo w8 (HN6.out _ HBw8.out)).mono ?_
          rintro e wz ⟨rfl, h⟩
          exact ⟨_, rfl, by rw [HZS.out], (HBw8.out).trans (h.mono (HBw8.out).size)⟩
        rintro vz w9 ⟨rfl, h7⟩
        have HBw9 := Keep.mk h7
        clear h7
        refine hK.out _ _ (HS0.out _ HBw9.out) fun hH5 => ?_
        clear hK
        simp only [Act.put, List.setIfInBounds_toArray, List.set_cons_zero, List.set_cons_succ]
        refine wpAnyH_take (i := 10) (oi := ⟨some 37, Op.binOp BinOp.neq 3 (Operand.tmp 34) (Operand.tmp 36) 3, 4, _, _, some (5, false)⟩) (v := .bool false) rfl (by kernel_rfl) (by kernel_rfl) (by kernel_rfl) (fun _ _ _ h => h) (Or.inl ⟨by rfl, fun w hS => by clear hS; go_simp⟩) hH5 ?_
        simp only [Act.put, List.setIfInBounds_toArray, List.set_cons_zero, List.set_cons_succ]
        refine wpAnyH_take (i := 11) (oi := ⟨some 38, Op.pick (Operand.tmp 32) (Operand.const (Value.bool true)) (Operand.tmp 37), 4, _, _, none⟩) (v := .bool false) rfl (by kernel_rfl) (by kernel_rfl) (by kernel_rfl) (fun _ _ _ h => h) (Or.inl ⟨by rfl, fun w hS => by clear hS; go_simp⟩) hH5 ?_
        simp only [Act.put, List.setIfInBounds_toArray, List.set_cons_zero, List.set_cons_succ]
        refine wpAnyH_take (i := 12) (oi := ⟨some 39, Op.move (Operand.tmp 38), 4, _, _, none⟩) (v := .bool false) rfl (by kernel_rfl) (by kernel_rfl) (by kernel_rfl) (fun _ _ _ h => h) (Or.inl ⟨by rfl, fun w hS => by clear hS; go_simp⟩) hH5 ?_
        simp only [Act.put, List.setIfInBounds_toArray, List.set_cons_zero, List.set_cons_succ]
        refine wpAnyH_take (i := 13) (oi := ⟨some 40, Op.move (Operand.tmp 6), 29, _, _, some (12, false)⟩) (v := .int .i64 4) rfl (by kernel_rfl) (by kernel_rfl) (by kernel_rfl) (fun _ _ _ h => h) (Or.inl ⟨by rfl, fun w hS => by clear hS; go_simp⟩) hH5 ?_
        simp only [Act.put, List.setIfInBounds_toArray, List.set_cons_zero, List.set_cons_succ]
        refine wpAnyH_take (i := 14) (oi := ⟨some 41, Op.move (Operand.tmp 8), 29, _, _, some (12, false)⟩) (v := .int .i64 4) rfl (by kernel_rfl) (by kernel_rfl) (by kernel_rfl) (fun _ _ _ h => h) (Or.inl ⟨by rfl, fun w hS => by clear hS; go_simp⟩) hH5 ?_
        simp only [Act.put, List.setIfInBounds_toArray, List.set_cons_zero, List.set_cons_succ]
        refine wpAnyH_take (i := 15) (oi := ⟨some 42, Op.binOp BinOp.neq 29 (Operand.tmp 40) (Operand.tmp 41) 29, 4, _, _, some (12, false)⟩) (v := .bool false) rfl (by kernel_rfl) (by kernel_rfl) (by kernel_rfl) (fun _ _ _ h => h) (Or.inl ⟨by rfl, fun w hS => by clear hS; go_simp⟩) hH5 ?_
        simp only [Act.put, List.setIfInBounds_toArray, List.set_cons_zero, List.set_cons_succ]
        refine wpAnyH_take (i := 16) (oi := ⟨some 43, Op.pick (Operand.tmp 39) (Operand.const (Value.bool true)) (Operand.tmp 42), 4, _, _, none⟩) (v := .bool false) rfl (by kernel_rfl) (by kernel_rfl) (by kernel_rfl) (fun _ _ _ h => h) (Or.inl ⟨by rfl, fun w hS => by clear hS; go_simp⟩) hH5 ?_
        simp only [Act.put, List.setIfInBounds_toArray, List.set_cons_zero, List.set_cons_succ]
        refine wpAnyH_take (i := 17) (oi := ⟨some 44, Op.move (Operand.tmp 43), 4, _, _, none⟩) (v := .bool false) rfl (by kernel_rfl) (by kernel_rfl) (by kernel_rfl) (fun _ _ _ h => h) (Or.inl ⟨by rfl, fun w hS => by clear hS; go_simp⟩) hH5 ?_
        simp only [Act.put, List.setIfInBounds_toArray, List.set_cons_zero, List.set_cons_succ]
        refine wpAnyH_take (i := 18) (oi := ⟨some 45, Op.move (Operand.tmp 5), 28, _, _, some (17, false)⟩) (v := .slice none 0 0) rfl (by kernel_rfl) (by kernel_rfl) (by kernel_rfl) (fun _ _ _ h => h) (Or.inl ⟨by rfl, fun w hS => by clear hS; go_simp⟩) hH5 ?_
        simp only [Act.put, List.setIfInBounds_toArray, List.set_cons_zero, List.set_cons_succ]
        refine wpAnyH_take (i := 19) (oi := ⟨some 46, Op.convert 28 9 (Operand.tmp 45), 9, _, _, some (17, false)⟩) (v := .string st) rfl (by kernel_rfl) (by kernel_rfl) (by kernel_rfl) (fun _ _ _ h => h) (Or.inl ⟨by rfl, fun w hS => by have h1 := conv_row _ _ w hS.2.1; rw [Hst.out] at h1; clear hS; go_simp⟩) hH5 ?_
        simp only [Act.put, List.setIfInBounds_toArray, List.set_cons_zero, List.set_cons_succ]
        refine wpAnyH_take (i := 20) (oi := ⟨some 47, Op.move (Operand.tmp 7), 28, _, _, some (17, false)⟩) (v := .slice none 0 0) rfl (by kernel_rfl) (by kernel_rfl) (by kernel_rfl) (fun _ _ _ h => h) (Or.inl ⟨by rfl, fun w hS => by clear hS; go_simp⟩) hH5 ?_
        simp only [Act.put, List.setIfInBounds_toArray, List.set_cons_zero, List.set_cons_succ]
        refine wpAnyH_take (i := 21) (oi := ⟨some 48, Op.convert 28 9 (Operand.tmp 47), 9, _, _, some (17, false)⟩) (v := .string st) rfl (by kernel_rfl) (by kernel_rfl) (by kernel_rfl) (fun _ _ _ h => h) (Or.inl ⟨by rfl, fun w hS => by have h1 := conv_row _ _ w hS.2.2; rw [Hst.out] at h1; clear hS; go_simp⟩) hH5 ?_
        simp only [Act.put, List.setIfInBounds_toArray, List.set_cons_zero, List.set_cons_succ]
        refine wpAnyH_take (i := 22) (oi := ⟨some 49, Op.binOp BinOp.neq 9 (Operand.tmp 46) (Operand.tmp 48) 9, 4, _, _, some (17, false)⟩) (v := .bool false) rfl (by kernel_rfl) (by kernel_rfl) (by kernel_rfl) (fun _ _ _ h => h) (Or.inl ⟨by rfl, fun w hS => by have h1 := bs_refl st; clear hS; go_simp⟩) hH5 ?_
        simp only [Act.put, List.setIfInBounds_toArray, List.set_cons_zero, List.set_cons_succ]
        refine wpAnyH_take (i := 23) (oi := ⟨some 50, Op.pick (Operand.tmp 44) (Operand.const (Value.bool true)) (Operand.tmp 49), 4, _, _, none⟩) (v := .bool false) rfl (by kernel_rfl) (by kernel_rfl) (by kernel_rfl) (fun _ _ _ h => h) (Or.inl ⟨by rfl, fun w hS => by clear hS; go_simp⟩) hH5 ?_
        simp only [Act.put, List.setIfInBounds_toArray, List.set_cons_zero, List.set_cons_succ]
        refine wpAnyH_done (by kernel_rfl) ?_ _
        refine hK14 _ _ ?_
        refine wp_cond_false rfl ?_
        refine wp_skip ?_
        refine hK8 _ _ ?_
        refine wp_region_list (WL.out ?_)
        refine WL.val (by kernel_rfl) (.int .i64 ((t : Int) + 1)) (by go_simp) ?_
        simp only [Act.put, List.setIfInBounds_toArray, List.set_cons_zero, List.set_cons_succ]
        refine WL.val (by kernel_rfl) (.int .i64 ((t : Int) + 1)) (by go_simp) ?_
        simp only [Act.put, List.setIfInBounds_toArray, List.set_cons_zero, List.set_cons_succ]
        refine WL.nil ?_
        refine ⟨⟨t + 1, u2, .pointer (some ⟨g, 0, none⟩), .slice none 0 0, .int .i64 4, .slice none 0 0, .int .i64 4, .bool true, .pointer (some ⟨gb, fb + t * 4, none⟩), .agg (ndA N.au N.ck vp vo), .tuple #[.slice none 0 0, .int .i64 4], .agg (ndA N.au N.ck vp vo), .tuple #[.slice none 0 0, .int .i64 4], .slice none 0 0, .int .i64 4, .tuple #[.slice none 0 0, .int .i64 4], .agg (ndA N.au N.ck vp vo), .tuple #[.slice none 0 0, .int .i64 4], .slice none 0 0, .int .i64 4, .agg (ndA N.au N.ck vp vo).toList.toArray, .int .i64 ZC, .agg (ndA N.au N.ck vp vo).toList.toArray, .int .i64 ZC, .bool false, .bool false, .agg (ndA N.au N.ck vp vo).toList.toArray, .int .i64 ZS, .agg (ndA N.au N.ck vp vo).toList.toArray, .int .i64 ZS, .bool false, .bool false, .bool false, .int .i64 4, .int .i64 4, .bool false, .bool false, .bool false, .slice none 0 0, .string st, .slice none 0 0, .string st, .bool false, .bool false, .int .i64 ((t : Int) + 1), rfl, by omega, JB.out.trans ((B3.out.trans ((B4.out.trans ((B5.out.trans (HBw9.out.mono B5.out.size)).mono B4.out.size)).mono B3.out.size)).mono JB.out.size)⟩, ?_⟩
        simp only [intOf]; show n - ((t : Int) + 1).toNat < n - ((t : Int)).toNat; omega
      · exfalso
        first | omega | exact a1 c1 | exact c1 a1
    · refine ⟨_, rfl, ?_⟩
      have R4 : Keep (RowAt w4 (.slice (some ⟨ge, 0, none⟩) (blkL N).length (blkL N).length) (blkL N)) := ⟨(Own.mk a4 (Nat.le_refl _) (by unfold maxLen; omega) (by simp [bv_len]) (by simp [← bv_len])).row⟩
      simp only [Act.put, List.setIfInBounds_toArray, List.set_cons_zero, List.set_cons_succ]
      refine WL.val (by kernel_rfl) (.tuple #[.slice (some ⟨ge, 0, none⟩) (blkL N).length (blkL N).length, .int .i64 0]) (by go_simp) ?_
      simp only [Act.put, List.setIfInBounds_toArray, List.set_cons_zero, List.set_cons_succ]
      refine WL.val (by kernel_rfl) (.slice (some ⟨ge, 0, none⟩) (blkL N).length (blkL N).length) (by go_simp) ?_
      simp only [Act.put, List.setIfInBounds_toArray, List.set_cons_zero, List.set_cons_succ]
      refine WL.val (by kernel_rfl) (.int .i64 0) (by go_simp) ?_
      simp only [Act.put, List.setIfInBounds_toArray, List.set_cons_zero, List.set_cons_succ]
      refine WL.val (by kernel_rfl) (.slice (some ⟨ge, 0, none⟩) (blkL N).length (blkL N).length) (by go_simp) ?_
      simp only [Act.put, List.setIfInBounds_toArray, List.set_cons_zero, List.set_cons_succ]
      refine WL.val (by kernel_rfl) (.int .i64 0) (by go_simp) ?_
      simp only [Act.put, List.setIfInBounds_toArray, List.set_cons_zero, List.set_cons_succ]
      refine WL.nil ?_
      refine hK10 _ _ ?_
      refine wp_seq_k fun K15 hK15 => ?_
      refine wp_region_list (WL.out ?_)
      refine WL.row (by kernel_rfl) 27 (.tmp 4) rfl g rfl 27 (ndA N.au N.ck vp vo) _ HX4.out Try.underlying27 rfl (Try.size27B _ _ _ _) ?_
      simp only [Act.put, List.setIfInBounds_toArray, List.set_cons_zero, List.set_cons_succ]
      refine WL.callF (by kernel_rfl) 11 _ _ rfl Try.in11 #[.agg (ndA N.au N.ck vp vo)] (by simp [Act.eval]) ?_
      refine (rencode_any N vp vo w4 HN4.out).mono ?_
      rintro e w5 ⟨hb5, hE5⟩
      have B5 := Keep.mk hb5
      have HX5 := Keep.mk (HX4.out.below hb5 HX4.out.lt)
      have HN5 := Keep.mk (HN4.out.below hb5)
      have R5 := Keep.mk (R4.out.below hb5)
      clear hb5
      rcases hE5 with ⟨c1, rfl⟩ | ⟨c1, c2, rfl⟩ | ⟨c1, c2, v5, rfl, c4⟩
      · exfalso
        first | omega | exact a1 c1 | exact c1 a1
      · exfalso
        first | omega | exact a1 c1 | exact c1 a1
      · refine ⟨_, rfl, ?_⟩
        obtain ⟨va5, vc5, rfl⟩ := row_form c4.row
        have R6 := Keep.mk c4.row
        simp only [Act.put, List.setIfInBounds_toArray, List.set_cons_zero, List.set_cons_succ]
        refine WL.val (by kernel_rfl) (.tuple #[.slice va5 (blkL N).length vc5, .int .i64 0]) (by go_simp) ?_
        simp only [Act.put, List.setIfInBounds_toArray, List.set_cons_zero, List.set_cons_succ]
        refine WL.val (by kernel_rfl) (.slice va5 (blkL N).length vc5) (by go_simp) ?_
        simp only [Act.put, List.setIfInBounds_toArray, List.set_cons_zero, List.set_cons_succ]
        refine WL.val (by kernel_rfl) (.int .i64 0) (by go_simp) ?_
        simp only [Act.put, List.setIfInBounds_toArray, List.set_cons_zero, List.set_cons_succ]
        refine WL.val (by kernel_rfl) (.slice va5 (blkL N).length vc5) (by go_simp) ?_
        simp only [Act.put, List.setIfInBounds_toArray, List.set_cons_zero, List.set_cons_succ]
        refine WL.val (by kernel_rfl) (.int .i64 0) (by go_simp) ?_
        simp only [Act.put, List.setIfInBounds_toArray, List.set_cons_zero, List.set_cons_succ]
        refine WL.nil ?_
        refine hK15 _ _ ?_
        refine wp_seq_k fun K16 hK16 => ?_
        clear a1
        try clear c1
        try clear a2
        try clear c2
        obtain ⟨ZC, hZC⟩ : ∃ z, chkN N = z := ⟨_, rfl⟩
        have HZC := Keep.mk hZC
        clear hZC
        obtain ⟨ZS, hZS⟩ : ∃ z, sizeN N = z := ⟨_, rfl⟩
        have HZS := Keep.mk hZS
        clear hZS
        obtain ⟨st, hst⟩ : ∃ st, strOfNums (blkL N) = st := ⟨_, rfl⟩
        have Hst := Keep.mk hst
        clear hst
        have hD0 : Below w5.heap.size w5 w5.drew := (Below.refl _ _).drew
        have HS0 : Keep (∀ wx, Below w5.heap.size w5 wx → wx.rangeAt g 0 (ndA N.au N.ck vp vo).toList ∧ RowAt wx (.slice (some ⟨ge, 0, none⟩) (blkL N).length (blkL N).length) (blkL N) ∧ RowAt wx (.slice va5 (blkL N).length vc5) (blkL N)) := ⟨fun wx hx => ⟨blk_range (HX5.out.below hx HX5.out.lt), R5.out.below hx, R6.out.below hx⟩⟩
        have HN6 : Keep (∀ wx, Below w5.heap.size w5 wx → NdAt wx N vp vo) := ⟨fun wx hx => HN5.out.below hx⟩
        refine wp_region_held_drew (S := fun wx => wx.rangeAt g 0 (ndA N.au N.ck vp vo).toList ∧ RowAt wx (.slice (some ⟨ge, 0, none⟩) (blkL N).length (blkL N).length) (blkL N) ∧ RowAt wx (.slice va5 (blkL N).length vc5) (blkL N)) (by kernel_rfl) (HS0.out _ hD0) (fun hHeld => ?_)
        refine wpAnyH_take (i := 0) (oi := ⟨some 27, Op.load 27 (Operand.tmp 4), 27, _, _, none⟩) (v := .agg (ndA N.au N.ck vp vo).toList.toArray) rfl (by kernel_rfl) (by kernel_rfl) (by kernel_rfl) (fun _ _ _ h => h) (yieldsIf_load_mid (by rfl) 27 (Operand.tmp 4) rfl g 0 rfl (ndA N.au N.ck vp vo).toList _ (fun w hS => hS.1) Try.underlying27 rfl (by rw [Array.length_toList]; exact Try.size27B _ _ _ _)) hHeld ?_
        simp only [Act.put, List.setIfInBounds_toArray, List.set_cons_zero, List.set_cons_succ]
        refine wpAnyH_take (i := 2) (oi := ⟨some 29, Op.load 27 (Operand.tmp 4), 27, _, _, none⟩) (v := .agg (ndA N.au N.ck vp vo).toList.toArray) rfl (by kernel_rfl) (by kernel_rfl) (by kernel_rfl) (fun _ _ _ h => h) (yieldsIf_load_mid (by rfl) 27 (Operand.tmp 4) rfl g 0 rfl (ndA N.au N.ck vp vo).toList _ (fun w hS => hS.1) Try.underlying27 rfl (by rw [Array.length_toList]; exact Try.size27B _ _ _ _)) hHeld ?_
        simp only [Act.put, List.setIfInBounds_toArray, List.set_cons_zero, List.set_cons_succ]
        refine wpAnyH_ready (rs := [1]) (by kernel_rfl) (by simp) ?_
        refine AllReadyH.cons (o := ⟨some 28, Op.call { callee := Callee.value (Operand.func 12), args := #[Operand.tmp 27], argTypes := #[27] }, 29, _, _, none⟩) rfl (fun K hK => ?_) AllReadyH.nil
        rw [if_pos (by rfl)]
        refine wp_callF 12 _ _ rfl Try.in12 #[.agg (ndA N.au N.ck vp vo)] (by simp [Act.eval]) (fun vz wz => vz = .int .i64 ZC ∧ Below w5.heap.size w5 wz) ?_ ?_
        · refine (check_node N vp vo w5.drew (HN6.out _ hD0)).mono ?_
          rintro e wz ⟨rfl, h⟩
          exact ⟨_, rfl, by rw [HZC.out], (hD0).trans (h.mono (hD0).size)⟩
        rintro vz w6 ⟨rfl, h7⟩
        have HBw6 := Keep.mk h7
        clear h7
        refine hK.out _ _ (HS0.out _ HBw6.out) fun hH2 => ?_
        clear hK
        simp only [Act.put, List.setIfInBounds_toArray, List.set_cons_zero, List.set_cons_succ]
        refine wpAnyH_ready (rs := [3]) (by kernel_rfl) (by simp) ?_
        refine AllReadyH.cons (o := ⟨some 30, Op.call { callee := Callee.value (Operand.func 13), args := #[Operand.tmp 29], argTypes := #[27] }, 29, _, _, none⟩) rfl (fun K hK => ?_) AllReadyH.nil
        rw [if_pos (by rfl)]
        refine wp_callF 13 _ _ rfl Try.in13 #[.agg (ndA N.au N.ck vp vo)] (by simp [Act.eval]) (fun vz wz => vz = .int .i64 ZC ∧ Below w5.heap.size w5 wz) ?_ ?_
        · refine (rcheck_node N vp vo w6 (HN6.out _ HBw6.out)).mono ?_
          rintro e wz ⟨rfl, h⟩
          exact ⟨_, rfl, by rw [HZC.out], (HBw6.out).trans (h.mono (HBw6.out).size)⟩
        rintro vz w7 ⟨rfl, h7⟩
        have HBw7 := Keep.mk h7
        clear h7
        refine hK.out _ _ (HS0.out _ HBw7.out) fun hH3 => ?_
        clear hK
        simp only [Act.put, List.setIfInBounds_toArray, List.set_cons_zero, List.set_cons_succ]
        refine wpAnyH_take (i := 4) (oi := ⟨some 31, Op.binOp BinOp.neq 29 (Operand.tmp 28) (Operand.tmp 30) 29, 4, _, _, none⟩) (v := .bool false) rfl (by kernel_rfl) (by kernel_rfl) (by kernel_rfl) (fun _ _ _ h => h) (Or.inl ⟨by rfl, fun w hS => by clear hS; go_simp⟩) hH3 ?_
        simp only [Act.put, List.setIfInBounds_toArray, List.set_cons_zero, List.set_cons_succ]
        refine wpAnyH_take (i := 5) (oi := ⟨some 32, Op.move (Operand.tmp 31), 4, _, _, none⟩) (v := .bool false) rfl (by kernel_rfl) (by kernel_rfl) (by kernel_rfl) (fun _ _ _ h => h) (Or.inl ⟨by rfl, fun w hS => by clear hS; go_simp⟩) hH3 ?_
        simp only [Act.put, List.setIfInBounds_toArray, List.set_cons_zero, List.set_cons_succ]
        refine wpAnyH_take (i := 6) (oi := ⟨some 33, Op.load 27 (Operand.tmp 4), 27, _, _, some (5, false)⟩) (v := .agg (ndA N.au N.ck vp vo).toList.toArray) rfl (by kernel_rfl) (by kernel_rfl) (by kernel_rfl) (fun _ _ _ h => h) (yieldsIf_load_mid (by rfl) 27 (Operand.tmp 4) rfl g 0 rfl (ndA N.au N.ck vp vo).toList _ (fun w hS => hS.1) Try.underlying27 rfl (by rw [Array.length_toList]; exact Try.size27B _ _ _ _)) hH3 ?_
        simp only [Act.put, List.setIfInBounds_toArray, List.set_cons_zero, List.set_cons_succ]
        refine wpAnyH_take (i := 8) (oi := ⟨some 35, Op.load 27 (Operand.tmp 4), 27, _, _, some (5, false)⟩) (v := .agg (ndA N.au N.ck vp vo).toList.toArray) rfl (by kernel_rfl) (by kernel_rfl) (by kernel_rfl) (fun _ _ _ h => h) (yieldsIf_load_mid (by rfl) 27 (Operand.tmp 4) rfl g 0 rfl (ndA N.au N.ck vp vo).toList _ (fun w hS => hS.1) Try.underlying27 rfl (by rw [Array.length_toList]; exact Try.size27B _ _ _ _)) hH3 ?_
        simp only [Act.put, List.setIfInBounds_toArray, List.set_cons_zero, List.set_cons_succ]
        refine wpAnyH_ready (rs := [7]) (by kernel_rfl) (by simp) ?_
        refine AllReadyH.cons (o := ⟨some 34, Op.call { callee := Callee.value (Operand.func 14), args := #[Operand.tmp 33], argTypes := #[27] }, 3, _, _, some (5, false)⟩) rfl (fun K hK => ?_) AllReadyH.nil
        rw [if_pos (by rfl)]
        refine wp_callF 14 _ _ rfl Try.in14 #[.agg (ndA N.au N.ck vp vo)] (by simp [Act.eval]) (fun vz wz => vz = .int .i64 ZS ∧ Below w5.heap.size w5 wz) ?_ ?_
        · refine (size_any N vp vo w7 (HN6.out _ HBw7.out)).mono ?_
          rintro e wz ⟨rfl, h⟩
          exact ⟨_, rfl, by rw [HZS.out], (HBw7.out).trans (h.mono (HBw7.out).size)⟩
        rintro vz w8 ⟨rfl, h7⟩
        have HBw8 := Keep.mk h7
        clear h7
        refine hK.out _ _ (HS0.out _ HBw8.out) fun hH4 => ?_
        clear hK
        simp only [Act.put, List.setIfInBounds_toArray, List.set_cons_zero, List.set_cons_succ]
        refine wpAnyH_ready (rs := [9]) (by kernel_rfl) (by simp) ?_
        refine AllReadyH.cons (o := ⟨some 36, Op.call { callee := Callee.value (Operand.func 15), args := #[Operand.tmp 35], argTypes := #[27] }, 3, _, _, some (5, false)⟩) rfl (fun K hK => ?_) AllReadyH.nil
        rw [if_pos (by rfl)]
        refine wp_callF 15 _ _ rfl Try.in15 #[.agg (ndA N.au N.ck vp vo)] (by simp [Act.eval]) (fun vz wz => vz = .int .i64 ZS ∧ Below w5.heap.size w5 wz) ?_ ?_
        · refine (rsize_any N vp vo w8 (HN6.out _ HBw8.out)).mono ?_
          rintro e wz ⟨rfl, h⟩
          exact ⟨_, rfl, by rw [HZS.out], (HBw8.out).trans (h.mono (HBw8.out).size)⟩
        rintro vz w9 ⟨rfl, h7⟩
        have HBw9 := Keep.mk h7
        clear h7
        refine hK.out _ _ (HS0.out _ HBw9.out) fun hH5 => ?_
        clear hK
        simp only [Act.put, List.setIfInBounds_toArray, List.set_cons_zero, List.set_cons_succ]
        refine wpAnyH_take (i := 10) (oi := ⟨some 37, Op.binOp BinOp.neq 3 (Operand.tmp 34) (Operand.tmp 36) 3, 4, _, _, some (5, false)⟩) (v := .bool false) rfl (by kernel_rfl) (by kernel_rfl) (by kernel_rfl) (fun _ _ _ h => h) (Or.inl ⟨by rfl, fun w hS => by clear hS; go_simp⟩) hH5 ?_
        simp only [Act.put, List.setIfInBounds_toArray, List.set_cons_zero, List.set_cons_succ]
        refine wpAnyH_take (i := 11) (oi := ⟨some 38, Op.pick (Operand.tmp 32) (Operand.const (Value.bool true)) (Operand.tmp 37), 4, _, _, none⟩) (v := .bool false) rfl (by kernel_rfl) (by kernel_rfl) (by kernel_rfl) (fun _ _ _ h => h) (Or.inl ⟨by rfl, fun w hS => by clear hS; go_simp⟩) hH5 ?_
        simp only [Act.put, List.setIfInBounds_toArray, List.set_cons_zero, List.set_cons_succ]
        refine wpAnyH_take (i := 12) (oi := ⟨some 39, Op.move (Operand.tmp 38), 4, _, _, none⟩) (v := .bool false) rfl (by kernel_rfl) (by kernel_rfl) (by kernel_rfl) (fun _ _ _ h => h) (Or.inl ⟨by rfl, fun w hS => by clear hS; go_simp⟩) hH5 ?_
        simp only [Act.put, List.setIfInBounds_toArray, List.set_cons_zero, List.set_cons_succ]
        refine wpAnyH_take (i := 13) (oi := ⟨some 40, Op.move (Operand.tmp 6), 29, _, _, some (12, false)⟩) (v := .int .i64 0) rfl (by kernel_rfl) (by kernel_rfl) (by kernel_rfl) (fun _ _ _ h => h) (Or.inl ⟨by rfl, fun w hS => by clear hS; go_simp⟩) hH5 ?_
        simp only [Act.put, List.setIfInBounds_toArray, List.set_cons_zero, List.set_cons_succ]
        refine wpAnyH_take (i := 14) (oi := ⟨some 41, Op.move (Operand.tmp 8), 29, _, _, some (12, false)⟩) (v := .int .i64 0) rfl (by kernel_rfl) (by kernel_rfl) (by kernel_rfl) (fun _ _ _ h => h) (Or.inl ⟨by rfl, fun w hS => by clear hS; go_simp⟩) hH5 ?_
        simp only [Act.put, List.setIfInBounds_toArray, List.set_cons_zero, List.set_cons_succ]
        refine wpAnyH_take (i := 15) (oi := ⟨some 42, Op.binOp BinOp.neq 29 (Operand.tmp 40) (Operand.tmp 41) 29, 4, _, _, some (12, false)⟩) (v := .bool false) rfl (by kernel_rfl) (by kernel_rfl) (by kernel_rfl) (fun _ _ _ h => h) (Or.inl ⟨by rfl, fun w hS => by clear hS; go_simp⟩) hH5 ?_
        simp only [Act.put, List.setIfInBounds_toArray, List.set_cons_zero, List.set_cons_succ]
        refine wpAnyH_take (i := 16) (oi := ⟨some 43, Op.pick (Operand.tmp 39) (Operand.const (Value.bool true)) (Operand.tmp 42), 4, _, _, none⟩) (v := .bool false) rfl (by kernel_rfl) (by kernel_rfl) (by kernel_rfl) (fun _ _ _ h => h) (Or.inl ⟨by rfl, fun w hS => by clear hS; go_simp⟩) hH5 ?_
        simp only [Act.put, List.setIfInBounds_toArray, List.set_cons_zero, List.set_cons_succ]
        refine wpAnyH_take (i := 17) (oi := ⟨some 44, Op.move (Operand.tmp 43), 4, _, _, none⟩) (v := .bool false) rfl (by kernel_rfl) (by kernel_rfl) (by kernel_rfl) (fun _ _ _ h => h) (Or.inl ⟨by rfl, fun w hS => by clear hS; go_simp⟩) hH5 ?_
        simp only [Act.put, List.setIfInBounds_toArray, List.set_cons_zero, List.set_cons_succ]
        refine wpAnyH_take (i := 18) (oi := ⟨some 45, Op.move (Operand.tmp 5), 28, _, _, some (17, false)⟩) (v := .slice (some ⟨ge, 0, none⟩) (blkL N).length (blkL N).length) rfl (by kernel_rfl) (by kernel_rfl) (by kernel_rfl) (fun _ _ _ h => h) (Or.inl ⟨by rfl, fun w hS => by clear hS; go_simp⟩) hH5 ?_
        simp only [Act.put, List.setIfInBounds_toArray, List.set_cons_zero, List.set_cons_succ]
        refine wpAnyH_take (i := 19) (oi := ⟨some 46, Op.convert 28 9 (Operand.tmp 45), 9, _, _, some (17, false)⟩) (v := .string st) rfl (by kernel_rfl) (by kernel_rfl) (by kernel_rfl) (fun _ _ _ h => h) (Or.inl ⟨by rfl, fun w hS => by have h1 := conv_row _ _ w hS.2.1; rw [Hst.out] at h1; clear hS; go_simp⟩) hH5 ?_
        simp only [Act.put, List.setIfInBounds_toArray, List.set_cons_zero, List.set_cons_succ]
        refine wpAnyH_take (i := 20) (oi := ⟨some 47, Op.move (Operand.tmp 7), 28, _, _, some (17, false)⟩) (v := .slice va5 (blkL N).length vc5) rfl (by kernel_rfl) (by kernel_rfl) (by kernel_rfl) (fun _ _ _ h => h) (Or.inl ⟨by rfl, fun w hS => by clear hS; go_simp⟩) hH5 ?_
        simp only [Act.put, List.setIfInBounds_toArray, List.set_cons_zero, List.set_cons_succ]
        refine wpAnyH_take (i := 21) (oi := ⟨some 48, Op.convert 28 9 (Operand.tmp 47), 9, _, _, some (17, false)⟩) (v := .string st) rfl (by kernel_rfl) (by kernel_rfl) (by kernel_rfl) (fun _ _ _ h => h) (Or.inl ⟨by rfl, fun w hS => by have h1 := conv_row _ _ w hS.2.2; rw [Hst.out] at h1; clear hS; go_simp⟩) hH5 ?_
        simp only [Act.put, List.setIfInBounds_toArray, List.set_cons_zero, List.set_cons_succ]
        refine wpAnyH_take (i := 22) (oi := ⟨some 49, Op.binOp BinOp.neq 9 (Operand.tmp 46) (Operand.tmp 48) 9, 4, _, _, some (17, false)⟩) (v := .bool false) rfl (by kernel_rfl) (by kernel_rfl) (by kernel_rfl) (fun _ _ _ h => h) (Or.inl ⟨by rfl, fun w hS => by have h1 := bs_refl st; clear hS; go_simp⟩) hH5 ?_
        simp only [Act.put, List.setIfInBounds_toArray, List.set_cons_zero, List.set_cons_succ]
        refine wpAnyH_take (i := 23) (oi := ⟨some 50, Op.pick (Operand.tmp 44) (Operand.const (Value.bool true)) (Operand.tmp 49), 4, _, _, none⟩) (v := .bool false) rfl (by kernel_rfl) (by kernel_rfl) (by kernel_rfl) (fun _ _ _ h => h) (Or.inl ⟨by rfl, fun w hS => by clear hS; go_simp⟩) hH5 ?_
        simp only [Act.put, List.setIfInBounds_toArray, List.set_cons_zero, List.set_cons_succ]
        refine wpAnyH_done (by kernel_rfl) ?_ _
        refine hK16 _ _ ?_
        refine wp_cond_false rfl ?_
        refine wp_skip ?_
        refine hK8 _ _ ?_
        refine wp_region_list (WL.out ?_)
        refine WL.val (by kernel_rfl) (.int .i64 ((t : Int) + 1)) (by go_simp) ?_
        simp only [Act.put, List.setIfInBounds_toArray, List.set_cons_zero, List.set_cons_succ]
        refine WL.val (by kernel_rfl) (.int .i64 ((t : Int) + 1)) (by go_simp) ?_
        simp only [Act.put, List.setIfInBounds_toArray, List.set_cons_zero, List.set_cons_succ]
        refine WL.nil ?_
        refine ⟨⟨t + 1, u2, .pointer (some ⟨g, 0, none⟩), .slice (some ⟨ge, 0, none⟩) (blkL N).length (blkL N).length, .int .i64 0, .slice va5 (blkL N).length vc5, .int .i64 0, .bool true, .pointer (some ⟨gb, fb + t * 4, none⟩), .agg (ndA N.au N.ck vp vo), .tuple #[.slice (some ⟨ge, 0, none⟩) (blkL N).length (blkL N).length, .int .i64 0], .agg (ndA N.au N.ck vp vo), .tuple #[.slice (some ⟨ge, 0, none⟩) (blkL N).length (blkL N).length, .int .i64 0], .slice (some ⟨ge, 0, none⟩) (blkL N).length (blkL N).length, .int .i64 0, .tuple #[.slice va5 (blkL N).length vc5, .int .i64 0], .agg (ndA N.au N.ck vp vo), .tuple #[.slice va5 (blkL N).length vc5, .int .i64 0], .slice va5 (blkL N).length vc5, .int .i64 0, .agg (ndA N.au N.ck vp vo).toList.toArray, .int .i64 ZC, .agg (ndA N.au N.ck vp vo).toList.toArray, .int .i64 ZC, .bool false, .bool false, .agg (ndA N.au N.ck vp vo).toList.toArray, .int .i64 ZS, .agg (ndA N.au N.ck vp vo).toList.toArray, .int .i64 ZS, .bool false, .bool false, .bool false, .int .i64 0, .int .i64 0, .bool false, .bool false, .bool false, .slice (some ⟨ge, 0, none⟩) (blkL N).length (blkL N).length, .string st, .slice va5 (blkL N).length vc5, .string st, .bool false, .bool false, .int .i64 ((t : Int) + 1), rfl, by omega, JB.out.trans ((B3.out.trans ((B4.out.trans ((B5.out.trans (HBw9.out.mono B5.out.size)).mono B4.out.size)).mono B3.out.size)).mono JB.out.size)⟩, ?_⟩
        simp only [intOf]; show n - ((t : Int) + 1).toNat < n - ((t : Int)).toNat; omega
  · have htl' : ¬ (t : Int) < (n : Int) := by omega
    refine wp_seq_k fun K17 hK17 => ?_
    refine wp_region_list (WL.out ?_)
    refine WL.val (by kernel_rfl) (.bool false) (by go_simp) ?_
    simp only [Act.put, List.setIfInBounds_toArray, List.set_cons_zero, List.set_cons_succ]
    refine WL.nil ?_
    refine hK17 _ _ ?_
    refine wp_seq_k fun K18 hK18 => ?_
    refine wp_cond_false rfl ?_
    refine wp_exit ?_
    refine hK4 _ _ ?_
    refine wp_seq_k fun K19 hK19 => ?_
    refine wp_region_list (WL.out ?_)
    refine WL.val (by kernel_rfl) (.bool true) (by go_simp) ?_
    simp only [Act.put, List.setIfInBounds_toArray, List.set_cons_zero, List.set_cons_succ]
    refine WL.nil ?_
    refine hK19 _ _ ?_
    refine wp_ret ?_
    go_ret
    exact ⟨rfl, B1.out.trans (JB.out.mono B1.out.size)⟩
end Go.Proofs.Ytgpgnldcdimmbaa
namespace Go.Proofs.Ytgpgnldcdimmbaa
open Go.ChangeShapes Go.WideShapes Go.ChangeAt Go.RowKit Go.Deep

theorem OpsAt.blt {w : World} {v : Value} {l : List OpV} (h : OpsAt w v l) (hne : l ≠ []) : ∀ k, v.ownBlock = some k → k < w.heap.size := by
  rcases h with ⟨a, c, rfl, rfl⟩ | ⟨b, off, cap, rfl, _, h⟩
  · exact absurd rfl hne
  · intro k hk
    simp [Value.ownBlock] at hk
    subst hk
    match l, hne with
    | x :: r, _ =>
      have h1 := h 0 x rfl 0 (.int .i64 x.kind) (by simp [opL])
      exact cell_lt h1
theorem Try.bytesOf27 : Try.prog.bytesOf 27 = 64 := by kernel_rfl
theorem nodes_of_trod {H : Type} {enc : TypeId × Value → H} {W : World} {sp : Nat → Bool} {held : Bool} {fuel base : Nat} {v : Value} {x : DataW H × List MemPlace} (hf : DataW.trod enc Try.prog W base sp held fuel 23 [v] = some x) (hw : ∀ n ∈ x.1.weights Try.prog 23, n ≤ reachBytes) :
    ∃ n : Nat, NsAt W v n ∧ n ≤ 4398046511104 := by
  rcases open_slice Try.underlying23 hf with ⟨hcs, _⟩ | ⟨a, len, cap, m, n, D, Pl, hcs, _, hl_, hm, hz, hx, hcell⟩
  · simp at hcs
    subst hcs
    exact ⟨0, .inl ⟨none, 0, rfl, rfl⟩, by simp⟩
  · simp at hcs
    subst hcs
    have hlz : len ≤ m := by rw [hz]; split <;> omega
    have hb : len ≤ 4398046511104 := by
      have h1 := hw ((((List.range len).map D).length + ((List.range (m - len)).map fun j => D (len + j)).length) * 64) (by
        rw [hx]
        simp only [DataW.weights, Try.underlying23]
        simp [Try.bytesOf27])
      rw [reach_is] at h1
      simp only [List.length_map, List.length_range] at h1
      omega
    have hwD : ∀ i, i < len → ∀ n ∈ (D i).weights Try.prog 27, n ≤ reachBytes := fun i hi n hn => hw n (by
      rw [hx]
      simp only [DataW.weights, Try.underlying23]
      refine List.mem_cons_of_mem _ (List.mem_append_left _ (mem_weightsAll (d := D i) ?_ n hn))
      exact List.mem_map.2 ⟨i, List.mem_range.2 hi, rfl⟩)
    have each : ∀ i, i < len → ∃ (N : NodeV) (vp vo : Value), (∀ j v, (ndA N.au N.ck vp vo).toList[j]? = some v → W.cell? ((a.add (i * 4)).add j) = some v) ∧ NdAt W N vp vo := by
      intro i hi
      obtain ⟨cs', h1, h2⟩ := hcell i (by omega)
      rw [Try.cellsOf27] at h1
      obtain ⟨_, hlen, hce⟩ := World.cells?_some h1
      obtain ⟨N, vp, vo, rfl, p1, p2, p3, p4, p5, p6, p7⟩ := node_of_trod h2 (hwD i hi)
      refine ⟨N, vp, vo, fun j v hv => ?_, ⟨p1, p3, p4, p2, p5, p3.blt, p6.1, p6.2, p7.1, p7.2⟩⟩
      obtain ⟨hj, e⟩ := List.getElem?_eq_some_iff.1 hv
      have hj4 : j < 4 := by simpa [ndA] using hj
      rw [hce j (by omega), ← hv]
      simp [ndA]
    refine ⟨len, ?_, hb⟩
    by_cases h0 : len = 0
    · subst h0
      exact .inl ⟨_, _, rfl, rfl⟩
    · have hs : a.spot = none := by
        obtain ⟨N, vp, vo, h1, _⟩ := each 0 (by omega)
        have := h1 0 (.int .i64 N.au) (by simp [ndA])
        rw [Nat.zero_mul, show a.add 0 = a from rfl] at this
        rw [show a.add 0 = a from rfl] at this
        exact World.cell?_spot this
      obtain ⟨b, off, sp⟩ := a
      obtain rfl : sp = none := hs
      refine .inr ⟨b, off, cap, rfl, fun i hi => ?_⟩
      obtain ⟨N, vp, vo, h1, h2⟩ := each i hi
      refine ⟨N, vp, vo, fun j v hv => ?_, h2⟩
      have := h1 j v hv
      simp only [add_none'] at this
      exact this
end Go.Proofs.Ytgpgnldcdimmbaa
