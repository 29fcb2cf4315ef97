import Derived.Test.YtlogkojhcccogaaD06
import Derived.Test.YtlogkojhcccogaaD04
import Derived.Deep.RegionHeld3
namespace Go.Proofs.Ytlogkojhcccogaa
open Go.RowKit
set_option linter.unusedSimpArgs false
set_option linter.unusedVariables false

theorem Try.in16 (w : World) (vs : Array Value) : (callFunc 16 vs).run Try.prog w = .ok (.enter 16 vs) w := by kernel_rfl
theorem Try.in47 (w : World) (vs : Array Value) : (callFunc 47 vs).run Try.prog w = .ok (.enter 47 vs) w := by kernel_rfl
theorem Try.in46 (w : World) (vs : Array Value) : (callFunc 46 vs).run Try.prog w = .ok (.enter 46 vs) w := by kernel_rfl
theorem bs_refl (a : ByteArray) : (a == a) = true := by rw [beq_toListBytes]; simp
set_option maxRecDepth 8000 in
set_option maxHeartbeats 2000000 in
theorem sameRows_refl (v1 v2 : Value) (ls : List (List Int)) (w : World) (h1 : RwsAt w v1 ls) (h2 : RwsAt w v2 ls) (hn : (ls.length : Int) ≤ 9223372036854775806) :
    Calls Try.prog 47 #[v1, v2] w fun e w' => e = .returned (.bool true) ∧ ∃ q, w' = w.drewN q := by
  obtain ⟨pa, pc, rfl⟩ := h1.form
  obtain ⟨qa, qc, rfl⟩ := h2.form
  have H1 := Keep.mk h1
  have H2 := Keep.mk h2
  clear h1 h2
  go_enter Try.func47, Try.ntmps47
  refine wp_seq_k fun K1 hK1 => ?_
  refine wp_region_list (WL.out ?_)
  refine WL.val (by kernel_rfl) (.bool false) (by go_simp) ?_
  simp only [Act.put, List.setIfInBounds_toArray, List.set_cons_zero, List.set_cons_succ]
  refine WL.nil ?_
  refine hK1 _ _ ?_
  refine wp_seq_k fun K2 hK2 => ?_
  refine wp_seq_k fun K3 hK3 => ?_
  refine wp_region_list (WL.out ?_)
  refine WL.val (by kernel_rfl) (.slice pa ls.length pc) (by go_simp) ?_
  simp only [Act.put, List.setIfInBounds_toArray, List.set_cons_zero, List.set_cons_succ]
  refine WL.val (by kernel_rfl) (.int .i64 (ls.length : Int)) (by go_simp) ?_
  simp only [Act.put, List.setIfInBounds_toArray, List.set_cons_zero, List.set_cons_succ]
  refine WL.val (by kernel_rfl) (.slice qa ls.length qc) (by go_simp) ?_
  simp only [Act.put, List.setIfInBounds_toArray, List.set_cons_zero, List.set_cons_succ]
  refine WL.val (by kernel_rfl) (.int .i64 (ls.length : Int)) (by go_simp) ?_
  simp only [Act.put, List.setIfInBounds_toArray, List.set_cons_zero, List.set_cons_succ]
  refine WL.val (by kernel_rfl) (.bool false) (by go_simp) ?_
  simp only [Act.put, List.setIfInBounds_toArray, List.set_cons_zero, List.set_cons_succ]
  refine WL.nil ?_
  refine hK3 _ _ ?_
  refine wp_cond_false rfl ?_
  refine wp_skip ?_
  refine hK2 _ _ ?_
  refine wp_seq_k fun K4 hK4 => ?_
  refine wp_seq_k fun K5 hK5 => ?_
  refine wp_region_list (WL.out ?_)
  refine WL.val (by kernel_rfl) (.int .i64 0) (by go_simp) ?_
  simp only [Act.put, List.setIfInBounds_toArray, List.set_cons_zero, List.set_cons_succ]
  refine WL.nil ?_
  refine hK5 _ _ ?_
  refine wp_block ?_
  refine wp_loop (fun ac wr => ∃ (t : Nat) (u4 u11 u12 u13 u14 u15 u16 u17 u18 u19 u20 u21 u22 u23 u24 u25 u26 u27 : Value), ac = { tmps := #[.slice pa ls.length pc, .slice qa ls.length qc, undef, undef, u4, .int .i64 (t : Int), .slice pa ls.length pc, .int .i64 (ls.length : Int), .slice qa ls.length qc, .int .i64 (ls.length : Int), .bool false, u11, u12, u13, u14, u15, u16, u17, u18, u19, u20, u21, u22, u23, u24, u25, u26, u27], defers := [] } ∧ t ≤ ls.length ∧ ∃ n, wr = w.drewN n) (fun a _ => ls.length - (intOf (a.tmps.getD 5 undef)).toNat) ⟨0, .bool false, undef, undef, undef, undef, undef, undef, undef, undef, undef, undef, undef, undef, undef, undef, undef, undef, undef, rfl, by omega, 0, rfl⟩ ?_
  rintro ac wr ⟨t, u4, u11, u12, u13, u14, u15, u16, u17, u18, u19, u20, u21, u22, u23, u24, u25, u26, u27, rfl, ht, hB⟩
  by_cases hlt : t < ls.length
  · have hlt' : (t : Int) < (ls.length : Int) := by omega
    have hwt : IntKind.i64.wrap ((t : Int) + 1) = (t : Int) + 1 := by rw [IntKind.wrap_i64]; omega
    obtain ⟨b, ob, xa, xc, hq, _, x1, x2⟩ := H1.out.at t hlt
    subst hq
    obtain ⟨d, od, ya, yc, hq, _, y1, y2⟩ := H2.out.at t hlt
    subst hq
    obtain ⟨st, hst⟩ : ∃ st, strOfNums (ls.getD t []) = st := ⟨_, rfl⟩
    have Hst := Keep.mk hst
    clear hst
    obtain ⟨N, hN⟩ : ∃ N, N = (ls.getD t []).length := ⟨_, rfl⟩
    rw [← hN] at x1 y1 x2 y2
    clear hN
    have X1 := Keep.mk x1
    have Y1 := Keep.mk y1
    have X2 := Keep.mk x2
    have Y2 := Keep.mk y2
    clear x1 y1 x2 y2
    have HS0 : Keep ((wr.drew).cell? ⟨b, ob + t, none⟩ = some (.slice xa N xc) ∧ (wr.drew).cell? ⟨d, od + t, none⟩ = some (.slice ya N yc) ∧ RowAt wr.drew (.slice xa N xc) (ls.getD t []) ∧ RowAt wr.drew (.slice ya N yc) (ls.getD t [])) := ⟨by obtain ⟨n, rfl⟩ := hB; exact ⟨X1.out, Y1.out, X2.out, Y2.out⟩⟩
    refine wp_seq_k fun K6 hK6 => ?_
    refine wp_seq_k fun K7 hK7 => ?_
    refine wp_region_list (WL.out ?_)
    refine WL.val (by kernel_rfl) (.int .i64 (t : Int)) (by go_simp) ?_
    simp only [Act.put, List.setIfInBounds_toArray, List.set_cons_zero, List.set_cons_succ]
    refine WL.val (by kernel_rfl) (.slice (some ⟨b, ob, none⟩) ls.length pc) (by go_simp) ?_
    simp only [Act.put, List.setIfInBounds_toArray, List.set_cons_zero, List.set_cons_succ]
    refine WL.val (by kernel_rfl) (.int .i64 (ls.length : Int)) (by go_simp) ?_
    simp only [Act.put, List.setIfInBounds_toArray, List.set_cons_zero, List.set_cons_succ]
    refine WL.val (by kernel_rfl) (.bool true) (by go_simp) ?_
    simp only [Act.put, List.setIfInBounds_toArray, List.set_cons_zero, List.set_cons_succ]
    refine WL.nil ?_
    refine hK7 _ _ ?_
    refine wp_cond_true rfl ?_
    refine wp_skip ?_
    refine hK6 _ _ ?_
    refine wp_seq_k fun K8 hK8 => ?_
    refine wp_block ?_
    refine wp_seq_k fun K9 hK9 => ?_
    refine wp_region_held_drew (S := fun wx => wx.cell? ⟨b, ob + t, none⟩ = some (.slice xa N xc) ∧ wx.cell? ⟨d, od + t, none⟩ = some (.slice ya N yc) ∧ RowAt wx (.slice xa N xc) (ls.getD t []) ∧ RowAt wx (.slice ya N yc) (ls.getD t [])) (by kernel_rfl) (HS0.out) (fun hHeld => ?_)
    refine wpAnyH_take (i := 0) (oi := ⟨some 17, Op.move (Operand.tmp 0), 26, _, _, none⟩) (v := .slice (some ⟨b, ob, none⟩) ls.length pc) rfl (by kernel_rfl) (by kernel_rfl) (by kernel_rfl) (fun _ _ _ h => h) (Or.inl ⟨by rfl, fun w hS => by go_simp⟩) hHeld ?_
    simp only [Act.put, List.setIfInBounds_toArray, List.set_cons_zero, List.set_cons_succ]
    refine wpAnyH_take (i := 1) (oi := ⟨some 18, Op.move (Operand.tmp 5), 3, _, _, none⟩) (v := .int .i64 (t : Int)) rfl (by kernel_rfl) (by kernel_rfl) (by kernel_rfl) (fun _ _ _ h => h) (Or.inl ⟨by rfl, fun w hS => by go_simp⟩) hHeld ?_
    simp only [Act.put, List.setIfInBounds_toArray, List.set_cons_zero, List.set_cons_succ]
    refine wpAnyH_take (i := 2) (oi := ⟨some 19, Op.indexAddr 26 (Operand.tmp 17) (Operand.tmp 18), 0, _, _, none⟩) (v := .pointer (some ⟨b, ob + t, none⟩)) rfl (by kernel_rfl) (by kernel_rfl) (by kernel_rfl) (fun _ _ _ h => h) (Or.inl ⟨by rfl, fun w hS => by go_simp⟩) hHeld ?_
    simp only [Act.put, List.setIfInBounds_toArray, List.set_cons_zero, List.set_cons_succ]
    refine wpAnyH_take (i := 3) (oi := ⟨some 20, Op.load 25 (Operand.tmp 19), 25, _, _, none⟩) (v := .slice xa N xc) rfl (by kernel_rfl) (by kernel_rfl) (by kernel_rfl) (fun _ _ _ h => h) (Or.inl ⟨by rfl, fun w hS => by have h := hS.1; clear hS; go_simp⟩) hHeld ?_
    simp only [Act.put, List.setIfInBounds_toArray, List.set_cons_zero, List.set_cons_succ]
    refine wpAnyH_take (i := 4) (oi := ⟨some 21, Op.convert 25 9 (Operand.tmp 20), 9, _, _, none⟩) (v := .string st) rfl (by kernel_rfl) (by kernel_rfl) (by kernel_rfl) (fun _ _ _ h => h) (Or.inl ⟨by rfl, fun w hS => by have h1 := conv_row _ _ w hS.2.2.1; rw [Hst.out] at h1; clear hS; go_simp⟩) hHeld ?_
    simp only [Act.put, List.setIfInBounds_toArray, List.set_cons_zero, List.set_cons_succ]
    refine wpAnyH_take (i := 5) (oi := ⟨some 22, Op.move (Operand.tmp 1), 26, _, _, none⟩) (v := .slice (some ⟨d, od, none⟩) ls.length qc) rfl (by kernel_rfl) (by kernel_rfl) (by kernel_rfl) (fun _ _ _ h => h) (Or.inl ⟨by rfl, fun w hS => by go_simp⟩) hHeld ?_
    simp only [Act.put, List.setIfInBounds_toArray, List.set_cons_zero, List.set_cons_succ]
    refine wpAnyH_take (i := 6) (oi := ⟨some 23, Op.move (Operand.tmp 5), 3, _, _, none⟩) (v := .int .i64 (t : Int)) rfl (by kernel_rfl) (by kernel_rfl) (by kernel_rfl) (fun _ _ _ h => h) (Or.inl ⟨by rfl, fun w hS => by go_simp⟩) hHeld ?_
    simp only [Act.put, List.setIfInBounds_toArray, List.set_cons_zero, List.set_cons_succ]
    refine wpAnyH_take (i := 7) (oi := ⟨some 24, Op.indexAddr 26 (Operand.tmp 22) (Operand.tmp 23), 0, _, _, none⟩) (v := .pointer (some ⟨d, od + t, none⟩)) rfl (by kernel_rfl) (by kernel_rfl) (by kernel_rfl) (fun _ _ _ h => h) (Or.inl ⟨by rfl, fun w hS => by go_simp⟩) hHeld ?_
    simp only [Act.put, List.setIfInBounds_toArray, List.set_cons_zero, List.set_cons_succ]
    refine wpAnyH_take (i := 8) (oi := ⟨some 25, Op.load 25 (Operand.tmp 24), 25, _, _, none⟩) (v := .slice ya N yc) rfl (by kernel_rfl) (by kernel_rfl) (by kernel_rfl) (fun _ _ _ h => h) (Or.inl ⟨by rfl, fun w hS => by have h := hS.2.1; clear hS; go_simp⟩) hHeld ?_
    simp only [Act.put, List.setIfInBounds_toArray, List.set_cons_zero, List.set_cons_succ]
    refine wpAnyH_take (i := 9) (oi := ⟨some 26, Op.convert 25 9 (Operand.tmp 25), 9, _, _, none⟩) (v := .string st) rfl (by kernel_rfl) (by kernel_rfl) (by kernel_rfl) (fun _ _ _ h => h) (Or.inl ⟨by rfl, fun w hS => by have h1 := conv_row _ _ w hS.2.2.2; rw [Hst.out] at h1; clear hS; go_simp⟩) hHeld ?_
    simp only [Act.put, List.setIfInBounds_toArray, List.set_cons_zero, List.set_cons_succ]
    refine wpAnyH_take (i := 10) (oi := ⟨some 27, Op.binOp BinOp.neq 9 (Operand.tmp 21) (Operand.tmp 26) 9, 4, _, _, none⟩) (v := .bool false) rfl (by kernel_rfl) (by kernel_rfl) (by kernel_rfl) (fun _ _ _ h => h) (Or.inl ⟨by rfl, fun w hS => by have h1 := bs_refl st; clear hS; go_simp⟩) hHeld ?_
    simp only [Act.put, List.setIfInBounds_toArray, List.set_cons_zero, List.set_cons_succ]
    refine wpAnyH_done (by kernel_rfl) ?_ _
    refine hK9 _ _ ?_
    refine wp_cond_false rfl ?_
    refine wp_skip ?_
    refine hK8 _ _ ?_
    refine wp_region_list (WL.out ?_)
    refine WL.val (by kernel_rfl) (.int .i64 (t : Int)) (by go_simp) ?_
    simp only [Act.put, List.setIfInBounds_toArray, List.set_cons_zero, List.set_cons_succ]
    refine WL.val (by kernel_rfl) (.int .i64 ((t : Int) + 1)) (by go_simp) ?_
    simp only [Act.put, List.setIfInBounds_toArray, List.set_cons_zero, List.set_cons_succ]
    refine WL.val (by kernel_rfl) (.int .i64 ((t : Int) + 1)) (by go_simp) ?_
    simp only [Act.put, List.setIfInBounds_toArray, List.set_cons_zero, List.set_cons_succ]
    refine WL.nil ?_
    refine ⟨⟨t + 1, u4, .int .i64 (t : Int), .slice (some ⟨b, ob, none⟩) ls.length pc, .int .i64 (ls.length : Int), .bool true, .int .i64 (t : Int), .int .i64 ((t : Int) + 1), .slice (some ⟨b, ob, none⟩) ls.length pc, .int .i64 (t : Int), .pointer (some ⟨b, ob + t, none⟩), .slice xa N xc, .string st, .slice (some ⟨d, od, none⟩) ls.length qc, .int .i64 (t : Int), .pointer (some ⟨d, od + t, none⟩), .slice ya N yc, .string st, .bool false, rfl, by omega, by obtain ⟨n, rfl⟩ := hB; exact ⟨n + 1, by first | rfl | simp [World.drewN, World.drew]⟩⟩, by simp [intOf]; omega⟩
  · have htl' : ¬ (t : Int) < (ls.length : Int) := by omega
    refine wp_seq_k fun K10 hK10 => ?_
    refine wp_seq_k fun K11 hK11 => ?_
    refine wp_region_list (WL.out ?_)
    refine WL.val (by kernel_rfl) (.int .i64 (t : Int)) (by go_simp) ?_
    simp only [Act.put, List.setIfInBounds_toArray, List.set_cons_zero, List.set_cons_succ]
    refine WL.val (by kernel_rfl) (.slice pa ls.length pc) (by go_simp) ?_
    simp only [Act.put, List.setIfInBounds_toArray, List.set_cons_zero, List.set_cons_succ]
    refine WL.val (by kernel_rfl) (.int .i64 (ls.length : Int)) (by go_simp) ?_
    simp only [Act.put, List.setIfInBounds_toArray, List.set_cons_zero, List.set_cons_succ]
    refine WL.val (by kernel_rfl) (.bool false) (by go_simp) ?_
    simp only [Act.put, List.setIfInBounds_toArray, List.set_cons_zero, List.set_cons_succ]
    refine WL.nil ?_
    refine hK11 _ _ ?_
    refine wp_cond_false rfl ?_
    refine wp_exit ?_
    refine hK4 _ _ ?_
    refine wp_seq_k fun K12 hK12 => ?_
    refine wp_region_list (WL.out ?_)
    refine WL.val (by kernel_rfl) (.bool true) (by go_simp) ?_
    simp only [Act.put, List.setIfInBounds_toArray, List.set_cons_zero, List.set_cons_succ]
    refine WL.nil ?_
    refine hK12 _ _ ?_
    refine wp_ret ?_
    go_ret
    exact ⟨rfl, hB⟩
theorem same_refl (M : MsgV) (hN : MsOk M) (c d : MC) (w : World) (hc : MsAt w M c) (hd : MsAt w M d) : Calls Try.prog 16 #[.agg (msA c), .agg (msA d)] w fun e w' => e = .returned (.bool true) ∧ Below w.heap.size w w' := by
  obtain ⟨ha, hk, e1⟩ := hc.hd.form
  obtain ⟨ba, bk, e3⟩ := row_form hc.bl
  obtain ⟨wa, wk, e4⟩ := hc.wt.form
  obtain ⟨xa, xk, e5⟩ := hc.bk.form
  obtain ⟨ha', hk', f1⟩ := hd.hd.form
  obtain ⟨ba', bk', f3⟩ := row_form hd.bl
  obtain ⟨wa', wk', f4⟩ := hd.wt.form
  obtain ⟨xa', xk', f5⟩ := hd.bk.form
  have E1 := Keep.mk e1
  have E3 := Keep.mk e3
  have E4 := Keep.mk e4
  have E5 := Keep.mk e5
  have F1 := Keep.mk f1
  have F3 := Keep.mk f3
  have F4 := Keep.mk f4
  have F5 := Keep.mk f5
  have HC := Keep.mk hc
  have HD := Keep.mk hd
  have HN := Keep.mk hN
  obtain ⟨st, hst⟩ : ∃ st, strOfNums M.bl = st := ⟨_, rfl⟩
  have Hst := Keep.mk hst
  clear e1 e3 e4 e5 f1 f3 f4 f5 hc hd hN hst
  go_enter Try.func16, Try.ntmps16
  refine wp_seq_k fun K1 hK1 => ?_
  refine wp_region_list (WL.out ?_)
  refine WL.box (by kernel_rfl) 28 (.tmp 0) rfl _ rfl ?_
  have HX1 := Keep.mk (Blk.new w 28 (msA c))
  have B1 := Keep.mk (below_new w (.cells (msA c) 28))
  generalize w.alloc (.cells (msA c) 28) = w1 at *
  generalize w.heap.size = g at HX1 ⊢
  simp only [Act.put, List.setIfInBounds_toArray, List.set_cons_zero, List.set_cons_succ]
  refine WL.box (by kernel_rfl) 28 (.tmp 1) rfl _ rfl ?_
  have HX2 := Keep.mk (HX1.out.alloc (.cells (msA d) 28))
  have HY2 := Keep.mk (Blk.new w1 28 (msA d))
  have B2 : Keep (Below w.heap.size w (w1.alloc (.cells (msA d) 28))) := ⟨B1.out.trans ((below_new w1 _).mono B1.out.size)⟩
  have HC2 := Keep.mk (HC.out.below B2.out)
  have HD2 := Keep.mk (HD.out.below B2.out)
  generalize w1.alloc (.cells (msA d) 28) = w2 at *
  generalize w1.heap.size = g' at HY2 ⊢
  have x0 := HX2.out.c 0 (ms_0 c)
  have y0 := HY2.out.c 0 (ms_0 d)
  have x1 := HX2.out.c 1 (ms_1 c)
  have y1 := HY2.out.c 1 (ms_1 d)
  have x2 := HX2.out.c 2 (ms_2 c)
  have y2 := HY2.out.c 2 (ms_2 d)
  have x3 := HX2.out.c 3 (ms_3 c)
  have y3 := HY2.out.c 3 (ms_3 d)
  have x4 := HX2.out.c 4 (ms_4 c)
  have y4 := HY2.out.c 4 (ms_4 d)
  have x5 := HX2.out.c 5 (ms_5 c)
  have y5 := HY2.out.c 5 (ms_5 d)
  rw [HC.out.k] at x0
  rw [HD.out.k] at y0
  rw [HC.out.s] at x2
  rw [HD.out.s] at y2
  rw [E1.out] at x1
  rw [E3.out] at x3
  rw [E4.out] at x4
  rw [E5.out] at x5
  rw [F1.out] at y1
  rw [F3.out] at y3
  rw [F4.out] at y4
  rw [F5.out] at y5
  have k1 := conv_row _ _ w2 (HC2.out.bl)
  have k2 := conv_row _ _ w2 (HD2.out.bl)
  rw [E3.out, Hst.out] at k1
  rw [F3.out, Hst.out] at k2
  have hrf := bs_refl st
  simp only [Act.put, List.setIfInBounds_toArray, List.set_cons_zero, List.set_cons_succ]
  refine WL.val (by kernel_rfl) (.bool false) (by go_simp) ?_
  simp only [Act.put, List.setIfInBounds_toArray, List.set_cons_zero, List.set_cons_succ]
  refine WL.nil ?_
  refine hK1 _ _ ?_
  refine wp_seq_k fun K2 hK2 => ?_
  refine wp_region_list (WL.out ?_)
  refine WL.val (by kernel_rfl) (.pointer (some ⟨g, 0, none⟩)) (by go_simp) ?_
  simp only [Act.put, List.setIfInBounds_toArray, List.set_cons_zero, List.set_cons_succ]
  refine WL.val (by kernel_rfl) (.int .i64 M.k) (by go_simp) ?_
  simp only [Act.put, List.setIfInBounds_toArray, List.set_cons_zero, List.set_cons_succ]
  refine WL.val (by kernel_rfl) (.pointer (some ⟨g', 0, none⟩)) (by go_simp) ?_
  simp only [Act.put, List.setIfInBounds_toArray, List.set_cons_zero, List.set_cons_succ]
  refine WL.val (by kernel_rfl) (.int .i64 M.k) (by go_simp) ?_
  simp only [Act.put, List.setIfInBounds_toArray, List.set_cons_zero, List.set_cons_succ]
  refine WL.val (by kernel_rfl) (.bool true) (by go_simp) ?_
  simp only [Act.put, List.setIfInBounds_toArray, List.set_cons_zero, List.set_cons_succ]
  refine WL.val (by kernel_rfl) (.bool true) (by go_simp) ?_
  simp only [Act.put, List.setIfInBounds_toArray, List.set_cons_zero, List.set_cons_succ]
  refine WL.val (by kernel_rfl) (.pointer (some ⟨g, 2, none⟩)) (by go_simp) ?_
  simp only [Act.put, List.setIfInBounds_toArray, List.set_cons_zero, List.set_cons_succ]
  refine WL.val (by kernel_rfl) (.int .u64 M.sa) (by go_simp) ?_
  simp only [Act.put, List.setIfInBounds_toArray, List.set_cons_zero, List.set_cons_succ]
  refine WL.val (by kernel_rfl) (.pointer (some ⟨g', 2, none⟩)) (by go_simp) ?_
  simp only [Act.put, List.setIfInBounds_toArray, List.set_cons_zero, List.set_cons_succ]
  refine WL.val (by kernel_rfl) (.int .u64 M.sa) (by go_simp) ?_
  simp only [Act.put, List.setIfInBounds_toArray, List.set_cons_zero, List.set_cons_succ]
  refine WL.val (by kernel_rfl) (.bool true) (by go_simp) ?_
  simp only [Act.put, List.setIfInBounds_toArray, List.set_cons_zero, List.set_cons_succ]
  refine WL.val (by kernel_rfl) (.bool true) (by go_simp) ?_
  simp only [Act.put, List.setIfInBounds_toArray, List.set_cons_zero, List.set_cons_succ]
  refine WL.val (by kernel_rfl) (.bool true) (by go_simp) ?_
  simp only [Act.put, List.setIfInBounds_toArray, List.set_cons_zero, List.set_cons_succ]
  refine WL.val (by kernel_rfl) (.pointer (some ⟨g, 3, none⟩)) (by go_simp) ?_
  simp only [Act.put, List.setIfInBounds_toArray, List.set_cons_zero, List.set_cons_succ]
  refine WL.val (by kernel_rfl) (.slice ba M.bl.length bk) (by go_simp) ?_
  simp only [Act.put, List.setIfInBounds_toArray, List.set_cons_zero, List.set_cons_succ]
  refine WL.val (by kernel_rfl) (.string st) (by go_simp) ?_
  simp only [Act.put, List.setIfInBounds_toArray, List.set_cons_zero, List.set_cons_succ]
  refine WL.val (by kernel_rfl) (.pointer (some ⟨g', 3, none⟩)) (by go_simp) ?_
  simp only [Act.put, List.setIfInBounds_toArray, List.set_cons_zero, List.set_cons_succ]
  refine WL.val (by kernel_rfl) (.slice ba' M.bl.length bk') (by go_simp) ?_
  simp only [Act.put, List.setIfInBounds_toArray, List.set_cons_zero, List.set_cons_succ]
  refine WL.val (by kernel_rfl) (.string st) (by go_simp) ?_
  simp only [Act.put, List.setIfInBounds_toArray, List.set_cons_zero, List.set_cons_succ]
  refine WL.val (by kernel_rfl) (.bool true) (by go_simp) ?_
  simp only [Act.put, List.setIfInBounds_toArray, List.set_cons_zero, List.set_cons_succ]
  refine WL.val (by kernel_rfl) (.bool true) (by go_simp) ?_
  simp only [Act.put, List.setIfInBounds_toArray, List.set_cons_zero, List.set_cons_succ]
  refine WL.val (by kernel_rfl) (.bool true) (by go_simp) ?_
  simp only [Act.put, List.setIfInBounds_toArray, List.set_cons_zero, List.set_cons_succ]
  refine WL.val (by kernel_rfl) (.pointer (some ⟨g, 1, none⟩)) (by go_simp) ?_
  simp only [Act.put, List.setIfInBounds_toArray, List.set_cons_zero, List.set_cons_succ]
  refine WL.val (by kernel_rfl) (.slice ha M.hd.length hk) (by go_simp) ?_
  simp only [Act.put, List.setIfInBounds_toArray, List.set_cons_zero, List.set_cons_succ]
  refine WL.val (by kernel_rfl) (.pointer (some ⟨g', 1, none⟩)) (by go_simp) ?_
  simp only [Act.put, List.setIfInBounds_toArray, List.set_cons_zero, List.set_cons_succ]
  refine WL.val (by kernel_rfl) (.slice ha' M.hd.length hk') (by go_simp) ?_
  simp only [Act.put, List.setIfInBounds_toArray, List.set_cons_zero, List.set_cons_succ]
  refine WL.callF (by kernel_rfl) 46 _ _ rfl Try.in46 #[.slice ha M.hd.length hk, .slice ha' M.hd.length hk'] (by simp [Act.eval]) ?_
  refine (Sh.same_any _ _ M.hd M.hd w2 (by rw [← E1.out]; exact HC2.out.hd) (by rw [← F1.out]; exact HD2.out.hd) (by have := HN.out.hd; omega)).mono ?_
  rintro e w3 ⟨rfl, n3, rfl⟩
  refine ⟨_, rfl, ?_⟩
  rw [decide_eq_true rfl]
  have z4 : (w2.drewN n3).cell? ⟨g, 4, none⟩ = _ := x4
  have z5 : (w2.drewN n3).cell? ⟨g', 4, none⟩ = _ := y4
  simp only [Act.put, List.setIfInBounds_toArray, List.set_cons_zero, List.set_cons_succ]
  refine WL.val (by kernel_rfl) (.bool true) (by go_simp) ?_
  simp only [Act.put, List.setIfInBounds_toArray, List.set_cons_zero, List.set_cons_succ]
  refine WL.val (by kernel_rfl) (.bool true) (by go_simp) ?_
  simp only [Act.put, List.setIfInBounds_toArray, List.set_cons_zero, List.set_cons_succ]
  refine WL.val (by kernel_rfl) (.pointer (some ⟨g, 4, none⟩)) (by go_simp) ?_
  simp only [Act.put, List.setIfInBounds_toArray, List.set_cons_zero, List.set_cons_succ]
  refine WL.val (by kernel_rfl) (.slice wa M.wt.length wk) (by go_simp) ?_
  simp only [Act.put, List.setIfInBounds_toArray, List.set_cons_zero, List.set_cons_succ]
  refine WL.val (by kernel_rfl) (.pointer (some ⟨g', 4, none⟩)) (by go_simp) ?_
  simp only [Act.put, List.setIfInBounds_toArray, List.set_cons_zero, List.set_cons_succ]
  refine WL.val (by kernel_rfl) (.slice wa' M.wt.length wk') (by go_simp) ?_
  simp only [Act.put, List.setIfInBounds_toArray, List.set_cons_zero, List.set_cons_succ]
  refine WL.callF (by kernel_rfl) 46 _ _ rfl Try.in46 #[.slice wa M.wt.length wk, .slice wa' M.wt.length wk'] (by simp [Act.eval]) ?_
  refine (Sh.same_any _ _ M.wt M.wt (w2.drewN n3) (by rw [← E4.out]; exact HC2.out.wt.below (below_drewN _ _)) (by rw [← F4.out]; exact HD2.out.wt.below (below_drewN _ _)) (by have := HN.out.wt; omega)).mono ?_
  rintro e w4 ⟨rfl, n4, rfl⟩
  refine ⟨_, rfl, ?_⟩
  rw [decide_eq_true rfl]
  have z6 : ((w2.drewN n3).drewN n4).cell? ⟨g, 5, none⟩ = _ := x5
  have z7 : ((w2.drewN n3).drewN n4).cell? ⟨g', 5, none⟩ = _ := y5
  simp only [Act.put, List.setIfInBounds_toArray, List.set_cons_zero, List.set_cons_succ]
  refine WL.val (by kernel_rfl) (.bool true) (by go_simp) ?_
  simp only [Act.put, List.setIfInBounds_toArray, List.set_cons_zero, List.set_cons_succ]
  refine WL.val (by kernel_rfl) (.bool true) (by go_simp) ?_
  simp only [Act.put, List.setIfInBounds_toArray, List.set_cons_zero, List.set_cons_succ]
  refine WL.val (by kernel_rfl) (.pointer (some ⟨g, 5, none⟩)) (by go_simp) ?_
  simp only [Act.put, List.setIfInBounds_toArray, List.set_cons_zero, List.set_cons_succ]
  refine WL.val (by kernel_rfl) (.slice xa M.bk.length xk) (by go_simp) ?_
  simp only [Act.put, List.setIfInBounds_toArray, List.set_cons_zero, List.set_cons_succ]
  refine WL.val (by kernel_rfl) (.pointer (some ⟨g', 5, none⟩)) (by go_simp) ?_
  simp only [Act.put, List.setIfInBounds_toArray, List.set_cons_zero, List.set_cons_succ]
  refine WL.val (by kernel_rfl) (.slice xa' M.bk.length xk') (by go_simp) ?_
  simp only [Act.put, List.setIfInBounds_toArray, List.set_cons_zero, List.set_cons_succ]
  refine WL.callF (by kernel_rfl) 47 _ _ rfl Try.in47 #[.slice xa M.bk.length xk, .slice xa' M.bk.length xk'] (by simp [Act.eval]) ?_
  refine (sameRows_refl _ _ M.bk ((w2.drewN n3).drewN n4) (by rw [← E5.out]; exact (HC2.out.bk.below (below_drewN _ _)).below (below_drewN _ _)) (by rw [← F5.out]; exact (HD2.out.bk.below (below_drewN _ _)).below (below_drewN _ _)) (by have := HN.out.bk; omega)).mono ?_
  rintro e w5 ⟨rfl, n5, rfl⟩
  refine ⟨_, rfl, ?_⟩
  simp only [Act.put, List.setIfInBounds_toArray, List.set_cons_zero, List.set_cons_succ]
  refine WL.val (by kernel_rfl) (.bool true) (by go_simp) ?_
  simp only [Act.put, List.setIfInBounds_toArray, List.set_cons_zero, List.set_cons_succ]
  refine WL.val (by kernel_rfl) (.bool true) (by go_simp) ?_
  simp only [Act.put, List.setIfInBounds_toArray, List.set_cons_zero, List.set_cons_succ]
  refine WL.nil ?_
  refine hK2 _ _ ?_
  refine wp_ret ?_
  go_ret
  exact ⟨rfl, B2.out.trans ((((below_drewN w2 n3).trans (below_drewN (w2.drewN n3) n4)).trans (below_drewN ((w2.drewN n3).drewN n4) n5)).mono B2.out.size)⟩
theorem ok_of_dec {M : MsgV} (hc : chkM M = 0) (hs : 0 ≤ M.sa ∧ M.sa < 18446744073709551616) (hB : Byts (encM M)) : MsOk M := by
  obtain ⟨h1, h2, h3, h4, h5, h6, h7, h8, h9, h10, h11⟩ := chk_facts hc
  have hr := (okR_iff M.bk).1 h10
  have hP : ∀ i ∈ hasI M.k, ∀ c ∈ putF i M, 0 ≤ c ∧ c < 256 := fun i hi c hcc => hB c (by rw [encM]; exact List.mem_append_right _ (List.mem_flatMap.2 ⟨i, hi, hcc⟩))
  have hk : -9223372036854775808 ≤ M.k ∧ M.k ≤ 9223372036854775807 := by rcases hasI_cases h1 with e | e | e <;> rw [e] <;> decide
  have hbl : M.bl.length ≤ 140737488355328 ∧ Byts M.bl := by
    rcases hasI_cases h1 with e | e | e
    · have : isP (M.bl.length : Int) = true := by
        rcases Bool.eq_false_or_eq_true (isP (M.bl.length : Int)) with hh | hh
        · exact hh
        · exact absurd ⟨e, hh⟩ h9
      have := isP_rng this
      exact ⟨by omega, fun c hcc => hP 2 (by rw [e]; simp [hasI]) c (by simp [putF, bform, hcc])⟩
    · have : M.bl = [] := by simp [moreB, e, leftB] at h2; exact h2.1.2
      rw [this]; exact ⟨by decide, fun c hcc => by simp at hcc⟩
    · have : M.bl = [] := by simp [moreB, e, leftB] at h2; exact h2.1.2
      rw [this]; exact ⟨by decide, fun c hcc => by simp at hcc⟩
  refine ⟨hk, hs, by omega, hbl.1, by omega, by omega, hbl.2, fun i hi => by have := hr i hi; omega, fun r hrr c hcc => ?_⟩
  rcases hasI_cases h1 with e | e | e
  · have : M.bk = [] := by simp [moreB, e] at h2; exact h2
    rw [this] at hrr; simp at hrr
  · have : M.bk = [] := by simp [moreB, e, leftB] at h2; exact h2.2
    rw [this] at hrr; simp at hrr
  · exact hP 4 (by rw [e]; simp [hasI]) c (by simp only [putF]; simp; rw [bkL]; exact List.mem_append_right _ (List.mem_flatMap.2 ⟨r, hrr, by rw [bform]; exact List.mem_append_right _ hcc⟩))
theorem zeroM_ok : MsOk zeroM := ⟨by decide, by decide, by decide, by decide, by decide, by decide, fun c hc => by simp [zeroM] at hc, fun i hi => by simp [zeroM] at hi, fun r hr => by simp [zeroM] at hr⟩
theorem zero_at (w : World) : MsAt w zeroM zeroC := ⟨rfl, rfl, hrow_nil w, .inl ⟨rfl, rfl⟩, hrow_nil w, RwsAt.nil w⟩
def erA (why b : Int) : Array Value := #[.int .i64 why, .int .i64 b]
theorem erA_sizes (a b c d : Int) : (erA a b).size = (erA c d).size := rfl
theorem erA_one (a b : Int) : (erA a b).all (·.oneCell') = true := by simp [erA, Value.oneCell']
theorem Try.size41B (a b : Int) : (Try.prog.info? 41).map (·.size) = some (erA a b).size := Try.size41
theorem Try.new41E (w : World) : (Instr.alloc 41 true (.tuple #[])).run Try.prog w = .ok (.pointer (some ⟨w.heap.size, 0, none⟩)) (w.alloc (.cells (erA 0 0) 41)) := by kernel_rfl
theorem er_built : Try.prog.built 41 [] = some (erA 0 0) := by kernel_rfl
theorem er_built2 (a b : Int) : Try.prog.built 41 [(0, .int .i64 a), (1, .int .i64 b)] = some (erA a b) := by kernel_rfl
theorem assertBad (v : Value) (W : World) : (Instr.typeAssert (.iface 116 v) 37 116 true).run Try.prog W = .ok (.tuple #[v, .bool true]) W := by kernel_rfl
theorem assertN0 (W : World) : (Instr.typeAssert .nilIface 37 29 true).run Try.prog W = .ok (.tuple #[.int .i64 0, .bool false]) W := by kernel_rfl
theorem assertN1 (v : Value) (W : World) : (Instr.typeAssert (.iface 116 v) 37 29 true).run Try.prog W = .ok (.tuple #[.int .i64 0, .bool false]) W := by kernel_rfl
theorem assertN2 (W : World) : (Instr.typeAssert (.iface 29 (.int .i64 4)) 37 29 true).run Try.prog W = .ok (.tuple #[.int .i64 4, .bool true]) W := by kernel_rfl
theorem Try.in15 (w : World) (vs : Array Value) : (callFunc 15 vs).run Try.prog w = .ok (.enter 15 vs) w := by kernel_rfl
theorem Try.in45 (w : World) (vs : Array Value) : (callFunc 45 vs).run Try.prog w = .ok (.enter 45 vs) w := by kernel_rfl
set_option maxRecDepth 8000 in
theorem placed_nil (w : World) : Calls Try.prog 45 #[.nilIface] w fun e w' => e = .returned (.tuple #[.agg (erA 0 0), .bool true]) ∧ Below w.heap.size w w' := by
  go_enter Try.func45, Try.ntmps45
  refine wp_seq_k fun K1 hK1 => ?_
  refine wp_region_list (WL.out ?_)
  refine WL.new (by kernel_rfl) 41 rfl _ Try.new41E ?_
  have HZ := Keep.mk (Blk.new w 41 (erA 0 0))
  have HB := Keep.mk (below_new w (.cells (erA 0 0) 41))
  generalize w.alloc (.cells (erA 0 0) 41) = w1 at *
  simp only [Act.put, List.setIfInBounds_toArray, List.set_cons_zero, List.set_cons_succ]
  refine WL.val (by kernel_rfl) (.bool false) (by go_simp) ?_
  simp only [Act.put, List.setIfInBounds_toArray, List.set_cons_zero, List.set_cons_succ]
  refine WL.nil ?_
  refine hK1 _ _ ?_
  refine wp_seq_k fun K2 hK2 => ?_
  refine wp_seq_k fun K3 hK3 => ?_
  refine wp_region_list (WL.out ?_)
  refine WL.val (by kernel_rfl) (.nilIface) (by go_simp) ?_
  simp only [Act.put, List.setIfInBounds_toArray, List.set_cons_zero, List.set_cons_succ]
  refine WL.val (by kernel_rfl) (.bool true) (by go_simp) ?_
  simp only [Act.put, List.setIfInBounds_toArray, List.set_cons_zero, List.set_cons_succ]
  refine WL.nil ?_
  refine hK3 _ _ ?_
  refine wp_cond_true rfl ?_
  refine wp_seq_k fun K4 hK4 => ?_
  refine wp_region_list (WL.out ?_)
  refine WL.bld (by kernel_rfl) 41 _ rfl [] (by simp) _ er_built ?_
  simp only [Act.put, List.setIfInBounds_toArray, List.set_cons_zero, List.set_cons_succ]
  refine WL.storeR (by kernel_rfl) 41 (.tmp 2) (.tmp 8) rfl w.heap.size (erA 0 0) rfl rfl 41 (erA 0 0) HZ.out (Try.size41B _ _) (erA_sizes _ _ _ _) (erA_one _ _) ?_
  simp only [Act.put]
  refine WL.val (by kernel_rfl) (.bool true) (by go_simp) ?_
  simp only [Act.put, List.setIfInBounds_toArray, List.set_cons_zero, List.set_cons_succ]
  refine WL.nil ?_
  refine hK4 _ _ ?_
  refine wp_ret ?_
  try simp only [Exit.then]
  refine bodyPost_ret (v := .tuple #[.agg (erA 0 0), .bool true]) (results_cell_row2 Try.results45 _ _ w.heap.size 41 _ (0, 0) _ _ rfl rfl (HZ.out.setRow _) Try.underlying41 rfl (Try.size41B _ _)) rfl ?_
  exact ⟨rfl, below_setRow HB.out (Nat.le_refl _) _⟩
set_option maxRecDepth 8000 in
theorem placed_err (q : Nat) (why : Int) (a : Nat) (w : World) (hq : BadAt w q why a) (hw : why ≠ 0) : Calls Try.prog 45 #[err q] w fun e w' => e = .returned (.tuple #[.agg (erA why (a : Int)), .bool true]) ∧ Below w.heap.size w w' := by
  have HQ : Keep (Blk w q 126 #[.int .i64 why, .int .i64 (a : Int)]) := ⟨hq⟩
  have has := assertBad (ptr q)
  clear hq
  unfold err
  go_enter Try.func45, Try.ntmps45
  refine wp_seq_k fun K1 hK1 => ?_
  refine wp_region_list (WL.out ?_)
  refine WL.new (by kernel_rfl) 41 rfl _ Try.new41E ?_
  have HZ := Keep.mk (Blk.new w 41 (erA 0 0))
  have HB := Keep.mk (below_new w (.cells (erA 0 0) 41))
  have HQ1 := Keep.mk (HQ.out.alloc (.cells (erA 0 0) 41))
  generalize w.alloc (.cells (erA 0 0) 41) = w1 at *
  simp only [Act.put, List.setIfInBounds_toArray, List.set_cons_zero, List.set_cons_succ]
  refine WL.val (by kernel_rfl) (.bool false) (by go_simp) ?_
  simp only [Act.put, List.setIfInBounds_toArray, List.set_cons_zero, List.set_cons_succ]
  refine WL.nil ?_
  refine hK1 _ _ ?_
  refine wp_seq_k fun K2 hK2 => ?_
  refine wp_seq_k fun K3 hK3 => ?_
  refine wp_region_list (WL.out ?_)
  refine WL.val (by kernel_rfl) (.iface 116 (ptr q)) (by go_simp) ?_
  simp only [Act.put, List.setIfInBounds_toArray, List.set_cons_zero, List.set_cons_succ]
  refine WL.val (by kernel_rfl) (.bool false) (by go_simp) ?_
  simp only [Act.put, List.setIfInBounds_toArray, List.set_cons_zero, List.set_cons_succ]
  refine WL.nil ?_
  refine hK3 _ _ ?_
  refine wp_cond_false rfl ?_
  refine wp_skip ?_
  refine hK2 _ _ ?_
  refine wp_seq_k fun K4 hK4 => ?_
  refine wp_region_list (WL.out ?_)
  refine WL.val (by kernel_rfl) (.iface 116 (ptr q)) (by go_simp) ?_
  simp only [Act.put, List.setIfInBounds_toArray, List.set_cons_zero, List.set_cons_succ]
  refine WL.val (by kernel_rfl) (.tuple #[ptr q, .bool true]) (by go_simp) ?_
  simp only [Act.put, List.setIfInBounds_toArray, List.set_cons_zero, List.set_cons_succ]
  refine WL.val (by kernel_rfl) (.tuple #[ptr q, .bool true]) (by go_simp) ?_
  simp only [Act.put, List.setIfInBounds_toArray, List.set_cons_zero, List.set_cons_succ]
  refine WL.val (by kernel_rfl) (ptr q) (by go_simp) ?_
  simp only [Act.put, List.setIfInBounds_toArray, List.set_cons_zero, List.set_cons_succ]
  refine WL.val (by kernel_rfl) (.bool true) (by go_simp) ?_
  simp only [Act.put, List.setIfInBounds_toArray, List.set_cons_zero, List.set_cons_succ]
  refine WL.val (by kernel_rfl) (ptr q) (by go_simp) ?_
  simp only [Act.put, List.setIfInBounds_toArray, List.set_cons_zero, List.set_cons_succ]
  refine WL.val (by kernel_rfl) (.bool true) (by go_simp) ?_
  simp only [Act.put, List.setIfInBounds_toArray, List.set_cons_zero, List.set_cons_succ]
  refine WL.nil ?_
  refine hK4 _ _ ?_
  refine wp_seq_k fun K5 hK5 => ?_
  refine wp_seq_k fun K6 hK6 => ?_
  refine wp_region_list (WL.out ?_)
  refine WL.val (by kernel_rfl) (.bool true) (by go_simp) ?_
  simp only [Act.put, List.setIfInBounds_toArray, List.set_cons_zero, List.set_cons_succ]
  refine WL.val (by kernel_rfl) (.bool false) (by go_simp) ?_
  simp only [Act.put, List.setIfInBounds_toArray, List.set_cons_zero, List.set_cons_succ]
  refine WL.val (by kernel_rfl) (.bool false) (by go_simp) ?_
  simp only [Act.put, List.setIfInBounds_toArray, List.set_cons_zero, List.set_cons_succ]
  refine WL.val (by kernel_rfl) (ptr q) (by go_simp) ?_
  simp only [Act.put, List.setIfInBounds_toArray, List.set_cons_zero, List.set_cons_succ]
  refine WL.val (by kernel_rfl) (.bool false) (by go_simp) ?_
  simp only [Act.put, List.setIfInBounds_toArray, List.set_cons_zero, List.set_cons_succ]
  refine WL.val (by kernel_rfl) (.bool false) (by go_simp) ?_
  simp only [Act.put, List.setIfInBounds_toArray, List.set_cons_zero, List.set_cons_succ]
  refine WL.nil ?_
  refine hK6 _ _ ?_
  refine wp_cond_false rfl ?_
  refine wp_skip ?_
  refine hK5 _ _ ?_
  refine wp_seq_k fun K7 hK7 => ?_
  have HS : Keep (∀ wx, Blk wx q 126 #[.int .i64 why, .int .i64 (a : Int)] → wx.cell? ⟨q, 0, none⟩ = some (.int .i64 why) ∧ wx.cell? ⟨q, 1, none⟩ = some (.int .i64 (a : Int))) := ⟨fun wx h => ⟨h.c 0 rfl, h.c 1 rfl⟩⟩
  refine wp_region_held_drew (S := fun wx => wx.cell? ⟨q, 0, none⟩ = some (.int .i64 why) ∧ wx.cell? ⟨q, 1, none⟩ = some (.int .i64 (a : Int))) (by kernel_rfl) (HS.out _ HQ1.out.drew) (fun hHeld => ?_)
  refine wpAnyH_take (i := 0) (oi := ⟨some 21, Op.move (Operand.tmp 4), 116, _, _, none⟩) (v := .pointer (some ⟨q, 0, none⟩)) rfl (by kernel_rfl) (by kernel_rfl) (by kernel_rfl) (fun _ _ _ h => h) (Or.inl ⟨by rfl, fun w hS => by obtain ⟨hs1, hs2⟩ := hS; go_simp⟩) hHeld ?_
  simp only [Act.put, List.setIfInBounds_toArray, List.set_cons_zero, List.set_cons_succ]
  refine wpAnyH_take (i := 1) (oi := ⟨some 22, Op.nilCheck (Operand.tmp 21), 0, _, _, none⟩) (v := .pointer (some ⟨q, 0, none⟩)) rfl (by kernel_rfl) (by kernel_rfl) (by kernel_rfl) (fun _ _ _ h => h) (Or.inl ⟨by rfl, fun w hS => by obtain ⟨hs1, hs2⟩ := hS; go_simp⟩) hHeld ?_
  simp only [Act.put, List.setIfInBounds_toArray, List.set_cons_zero, List.set_cons_succ]
  refine wpAnyH_take (i := 2) (oi := ⟨some 23, Op.fieldAddr 126 (Operand.tmp 22) 0, 0, _, _, none⟩) (v := .pointer (some ⟨q, 0, none⟩)) rfl (by kernel_rfl) (by kernel_rfl) (by kernel_rfl) (fun _ _ _ h => h) (Or.inl ⟨by rfl, fun w hS => by obtain ⟨hs1, hs2⟩ := hS; go_simp⟩) hHeld ?_
  simp only [Act.put, List.setIfInBounds_toArray, List.set_cons_zero, List.set_cons_succ]
  refine wpAnyH_take (i := 3) (oi := ⟨some 24, Op.load 29 (Operand.tmp 23), 29, _, _, none⟩) (v := .int .i64 why) rfl (by kernel_rfl) (by kernel_rfl) (by kernel_rfl) (fun _ _ _ h => h) (Or.inl ⟨by rfl, fun w hS => by obtain ⟨hs1, hs2⟩ := hS; go_simp⟩) hHeld ?_
  simp only [Act.put, List.setIfInBounds_toArray, List.set_cons_zero, List.set_cons_succ]
  refine wpAnyH_take (i := 4) (oi := ⟨some 25, Op.move (Operand.tmp 4), 116, _, _, none⟩) (v := .pointer (some ⟨q, 0, none⟩)) rfl (by kernel_rfl) (by kernel_rfl) (by kernel_rfl) (fun _ _ _ h => h) (Or.inl ⟨by rfl, fun w hS => by obtain ⟨hs1, hs2⟩ := hS; go_simp⟩) hHeld ?_
  simp only [Act.put, List.setIfInBounds_toArray, List.set_cons_zero, List.set_cons_succ]
  refine wpAnyH_take (i := 5) (oi := ⟨some 26, Op.nilCheck (Operand.tmp 25), 0, _, _, none⟩) (v := .pointer (some ⟨q, 0, none⟩)) rfl (by kernel_rfl) (by kernel_rfl) (by kernel_rfl) (fun _ _ _ h => h) (Or.inl ⟨by rfl, fun w hS => by obtain ⟨hs1, hs2⟩ := hS; go_simp⟩) hHeld ?_
  simp only [Act.put, List.setIfInBounds_toArray, List.set_cons_zero, List.set_cons_succ]
  refine wpAnyH_take (i := 6) (oi := ⟨some 27, Op.fieldAddr 126 (Operand.tmp 26) 1, 0, _, _, none⟩) (v := .pointer (some ⟨q, 1, none⟩)) rfl (by kernel_rfl) (by kernel_rfl) (by kernel_rfl) (fun _ _ _ h => h) (Or.inl ⟨by rfl, fun w hS => by obtain ⟨hs1, hs2⟩ := hS; go_simp⟩) hHeld ?_
  simp only [Act.put, List.setIfInBounds_toArray, List.set_cons_zero, List.set_cons_succ]
  refine wpAnyH_take (i := 7) (oi := ⟨some 28, Op.load 3 (Operand.tmp 27), 3, _, _, none⟩) (v := .int .i64 (a : Int)) rfl (by kernel_rfl) (by kernel_rfl) (by kernel_rfl) (fun _ _ _ h => h) (Or.inl ⟨by rfl, fun w hS => by obtain ⟨hs1, hs2⟩ := hS; go_simp⟩) hHeld ?_
  simp only [Act.put, List.setIfInBounds_toArray, List.set_cons_zero, List.set_cons_succ]
  refine wpAnyH_take (i := 8) (oi := ⟨some 29, Op.build 41 #[(0, Operand.tmp 24), (1, Operand.tmp 28)], 41, _, _, none⟩) (v := .agg #[.int .i64 why, .int .i64 (a : Int)]) rfl (by kernel_rfl) (by kernel_rfl) (by kernel_rfl) (fun _ _ _ h => h) (Or.inl ⟨by rfl, fun w hS => by go_simp⟩) hHeld ?_
  simp only [Act.put, List.setIfInBounds_toArray, List.set_cons_zero, List.set_cons_succ]
  refine wpAnyH_take (i := 9) (oi := ⟨some 30, Op.move (Operand.tmp 4), 116, _, _, none⟩) (v := .pointer (some ⟨q, 0, none⟩)) rfl (by kernel_rfl) (by kernel_rfl) (by kernel_rfl) (fun _ _ _ h => h) (Or.inl ⟨by rfl, fun w hS => by obtain ⟨hs1, hs2⟩ := hS; go_simp⟩) hHeld ?_
  simp only [Act.put, List.setIfInBounds_toArray, List.set_cons_zero, List.set_cons_succ]
  refine wpAnyH_take (i := 10) (oi := ⟨some 31, Op.nilCheck (Operand.tmp 30), 0, _, _, none⟩) (v := .pointer (some ⟨q, 0, none⟩)) rfl (by kernel_rfl) (by kernel_rfl) (by kernel_rfl) (fun _ _ _ h => h) (Or.inl ⟨by rfl, fun w hS => by obtain ⟨hs1, hs2⟩ := hS; go_simp⟩) hHeld ?_
  simp only [Act.put, List.setIfInBounds_toArray, List.set_cons_zero, List.set_cons_succ]
  refine wpAnyH_take (i := 11) (oi := ⟨some 32, Op.fieldAddr 126 (Operand.tmp 31) 0, 0, _, _, none⟩) (v := .pointer (some ⟨q, 0, none⟩)) rfl (by kernel_rfl) (by kernel_rfl) (by kernel_rfl) (fun _ _ _ h => h) (Or.inl ⟨by rfl, fun w hS => by obtain ⟨hs1, hs2⟩ := hS; go_simp⟩) hHeld ?_
  simp only [Act.put, List.setIfInBounds_toArray, List.set_cons_zero, List.set_cons_succ]
  refine wpAnyH_take (i := 12) (oi := ⟨some 33, Op.load 29 (Operand.tmp 32), 29, _, _, none⟩) (v := .int .i64 why) rfl (by kernel_rfl) (by kernel_rfl) (by kernel_rfl) (fun _ _ _ h => h) (Or.inl ⟨by rfl, fun w hS => by obtain ⟨hs1, hs2⟩ := hS; go_simp⟩) hHeld ?_
  simp only [Act.put, List.setIfInBounds_toArray, List.set_cons_zero, List.set_cons_succ]
  refine wpAnyH_take (i := 13) (oi := ⟨some 34, Op.binOp BinOp.neq 29 (Operand.tmp 33) (Operand.const (Value.int IntKind.i64 0)) 29, 4, _, _, none⟩) (v := .bool true) rfl (by kernel_rfl) (by kernel_rfl) (by kernel_rfl) (fun _ _ _ h => h) (Or.inl ⟨by rfl, fun w hS => by obtain ⟨hs1, hs2⟩ := hS; go_simp⟩) hHeld ?_
  simp only [Act.put, List.setIfInBounds_toArray, List.set_cons_zero, List.set_cons_succ]
  refine wpAnyH_ready (rs := [14]) (by kernel_rfl) (by simp) ?_
  refine AllReadyH.cons (o := ⟨none, Op.store 41 (Operand.tmp 2) (Operand.tmp 29), 0, _, _, none⟩) rfl (fun K hK => ?_) AllReadyH.nil
  rw [if_pos (by rfl)]
  refine wp_store_row 41 (.tmp 2) (.tmp 29) rfl w.heap.size (erA why (a : Int)) rfl rfl 41 (erA 0 0) HZ.out.drew (Try.size41B _ _) (erA_sizes _ _ _ _) (erA_one _ _) ?_
  refine hK.out _ _ (HS.out _ (HQ1.out.drew.setRow_ne (blk_ne HQ1.out HZ.out (by decide)) _)) fun hH2 => ?_
  clear hK
  simp only [Act.put, List.setIfInBounds_toArray, List.set_cons_zero, List.set_cons_succ]
  refine wpAnyH_take (i := 15) (oi := ⟨some 3, Op.assign (Operand.tmp 34), 4, _, _, none⟩) (v := .bool true) rfl (by kernel_rfl) (by kernel_rfl) (by kernel_rfl) (fun _ _ _ h => h) (Or.inl ⟨by rfl, fun w hS => by obtain ⟨hs1, hs2⟩ := hS; go_simp⟩) hH2 ?_
  simp only [Act.put, List.setIfInBounds_toArray, List.set_cons_zero, List.set_cons_succ]
  refine wpAnyH_done (by kernel_rfl) ?_ _
  refine hK7 _ _ ?_
  refine wp_ret ?_
  try simp only [Exit.then]
  refine bodyPost_ret (v := .tuple #[.agg (erA why (a : Int)), .bool true]) (results_cell_row2 Try.results45 _ _ w.heap.size 41 _ (0, 0) _ _ rfl rfl (HZ.out.drew.setRow _) Try.underlying41 rfl (Try.size41B _ _)) rfl ?_
  exact ⟨rfl, below_setRow HB.out.drew (Nat.le_refl _) _⟩
set_option maxRecDepth 8000 in
theorem told_errno (w : World) : Calls Try.prog 15 #[.iface 29 (.int .i64 4)] w fun e w' => e = .returned (.tuple #[.agg (erA 4 (-1)), .bool true]) ∧ Below w.heap.size w w' := by
  have has := assertN2
  go_enter Try.func15, Try.ntmps15
  refine wp_seq_k fun K1 hK1 => ?_
  refine wp_region_list (WL.out ?_)
  refine WL.new (by kernel_rfl) 41 rfl _ Try.new41E ?_
  have HZ := Keep.mk (Blk.new w 41 (erA 0 0))
  have HB := Keep.mk (below_new w (.cells (erA 0 0) 41))
  generalize w.alloc (.cells (erA 0 0) 41) = w1 at *
  simp only [Act.put, List.setIfInBounds_toArray, List.set_cons_zero, List.set_cons_succ]
  refine WL.val (by kernel_rfl) (.bool false) (by go_simp) ?_
  simp only [Act.put, List.setIfInBounds_toArray, List.set_cons_zero, List.set_cons_succ]
  refine WL.nil ?_
  refine hK1 _ _ ?_
  refine wp_seq_k fun K2 hK2 => ?_
  refine wp_region_list (WL.out ?_)
  refine WL.val (by kernel_rfl) (.iface 29 (.int .i64 4)) (by go_simp) ?_
  simp only [Act.put, List.setIfInBounds_toArray, List.set_cons_zero, List.set_cons_succ]
  refine WL.val (by kernel_rfl) (.tuple #[.int .i64 4, .bool true]) (by go_simp) ?_
  simp only [Act.put, List.setIfInBounds_toArray, List.set_cons_zero, List.set_cons_succ]
  refine WL.val (by kernel_rfl) (.tuple #[.int .i64 4, .bool true]) (by go_simp) ?_
  simp only [Act.put, List.setIfInBounds_toArray, List.set_cons_zero, List.set_cons_succ]
  refine WL.val (by kernel_rfl) (.int .i64 4) (by go_simp) ?_
  simp only [Act.put, List.setIfInBounds_toArray, List.set_cons_zero, List.set_cons_succ]
  refine WL.val (by kernel_rfl) (.bool true) (by go_simp) ?_
  simp only [Act.put, List.setIfInBounds_toArray, List.set_cons_zero, List.set_cons_succ]
  refine WL.val (by kernel_rfl) (.int .i64 4) (by go_simp) ?_
  simp only [Act.put, List.setIfInBounds_toArray, List.set_cons_zero, List.set_cons_succ]
  refine WL.val (by kernel_rfl) (.bool true) (by go_simp) ?_
  simp only [Act.put, List.setIfInBounds_toArray, List.set_cons_zero, List.set_cons_succ]
  refine WL.nil ?_
  refine hK2 _ _ ?_
  refine wp_seq_k fun K3 hK3 => ?_
  refine wp_seq_k fun K4 hK4 => ?_
  refine wp_region_list (WL.out ?_)
  refine WL.val (by kernel_rfl) (.bool true) (by go_simp) ?_
  simp only [Act.put, List.setIfInBounds_toArray, List.set_cons_zero, List.set_cons_succ]
  refine WL.nil ?_
  refine hK4 _ _ ?_
  refine wp_cond_true rfl ?_
  refine wp_seq_k fun K5 hK5 => ?_
  refine wp_region_list (WL.out ?_)
  refine WL.val (by kernel_rfl) (.int .i64 4) (by go_simp) ?_
  simp only [Act.put, List.setIfInBounds_toArray, List.set_cons_zero, List.set_cons_succ]
  refine WL.bld (by kernel_rfl) 41 _ rfl [(0, .int .i64 4), (1, .int .i64 (-1))] (by simp [Act.eval]) _ (er_built2 4 (-1)) ?_
  simp only [Act.put, List.setIfInBounds_toArray, List.set_cons_zero, List.set_cons_succ]
  refine WL.val (by kernel_rfl) (.int .i64 4) (by go_simp) ?_
  simp only [Act.put, List.setIfInBounds_toArray, List.set_cons_zero, List.set_cons_succ]
  refine WL.val (by kernel_rfl) (.bool true) (by go_simp) ?_
  simp only [Act.put, List.setIfInBounds_toArray, List.set_cons_zero, List.set_cons_succ]
  refine WL.storeR (by kernel_rfl) 41 (.tmp 2) (.tmp 15) rfl w.heap.size (erA 4 (-1)) rfl rfl 41 (erA 0 0) HZ.out (Try.size41B _ _) (erA_sizes _ _ _ _) (erA_one _ _) ?_
  simp only [Act.put]
  refine WL.val (by kernel_rfl) (.bool true) (by go_simp) ?_
  simp only [Act.put, List.setIfInBounds_toArray, List.set_cons_zero, List.set_cons_succ]
  refine WL.nil ?_
  refine hK5 _ _ ?_
  refine wp_ret ?_
  try simp only [Exit.then]
  refine bodyPost_ret (v := .tuple #[.agg (erA 4 (-1)), .bool true]) (results_cell_row2 Try.results15 _ _ w.heap.size 41 _ (0, 0) _ _ rfl rfl (HZ.out.setRow _) Try.underlying41 rfl (Try.size41B _ _)) rfl ?_
  exact ⟨rfl, below_setRow HB.out (Nat.le_refl _) _⟩
set_option maxRecDepth 8000 in
theorem told_nil (w : World) : Calls Try.prog 15 #[.nilIface] w fun e w' => e = .returned (.tuple #[.agg (erA 0 0), .bool true]) ∧ Below w.heap.size w w' := by
  have has := assertN0
  go_enter Try.func15, Try.ntmps15
  refine wp_seq_k fun K1 hK1 => ?_
  refine wp_region_list (WL.out ?_)
  refine WL.new (by kernel_rfl) 41 rfl _ Try.new41E ?_
  have HZ := Keep.mk (Blk.new w 41 (erA 0 0))
  have HB := Keep.mk (below_new w (.cells (erA 0 0) 41))
  generalize w.alloc (.cells (erA 0 0) 41) = w1 at *
  simp only [Act.put, List.setIfInBounds_toArray, List.set_cons_zero, List.set_cons_succ]
  refine WL.val (by kernel_rfl) (.bool false) (by go_simp) ?_
  simp only [Act.put, List.setIfInBounds_toArray, List.set_cons_zero, List.set_cons_succ]
  refine WL.nil ?_
  refine hK1 _ _ ?_
  refine wp_seq_k fun K2 hK2 => ?_
  refine wp_region_list (WL.out ?_)
  refine WL.val (by kernel_rfl) (.nilIface) (by go_simp) ?_
  simp only [Act.put, List.setIfInBounds_toArray, List.set_cons_zero, List.set_cons_succ]
  refine WL.val (by kernel_rfl) (.tuple #[.int .i64 0, .bool false]) (by go_simp) ?_
  simp only [Act.put, List.setIfInBounds_toArray, List.set_cons_zero, List.set_cons_succ]
  refine WL.val (by kernel_rfl) (.tuple #[.int .i64 0, .bool false]) (by go_simp) ?_
  simp only [Act.put, List.setIfInBounds_toArray, List.set_cons_zero, List.set_cons_succ]
  refine WL.val (by kernel_rfl) (.int .i64 0) (by go_simp) ?_
  simp only [Act.put, List.setIfInBounds_toArray, List.set_cons_zero, List.set_cons_succ]
  refine WL.val (by kernel_rfl) (.bool false) (by go_simp) ?_
  simp only [Act.put, List.setIfInBounds_toArray, List.set_cons_zero, List.set_cons_succ]
  refine WL.val (by kernel_rfl) (.int .i64 0) (by go_simp) ?_
  simp only [Act.put, List.setIfInBounds_toArray, List.set_cons_zero, List.set_cons_succ]
  refine WL.val (by kernel_rfl) (.bool false) (by go_simp) ?_
  simp only [Act.put, List.setIfInBounds_toArray, List.set_cons_zero, List.set_cons_succ]
  refine WL.nil ?_
  refine hK2 _ _ ?_
  refine wp_seq_k fun K3 hK3 => ?_
  refine wp_seq_k fun K4 hK4 => ?_
  refine wp_region_list (WL.out ?_)
  refine WL.val (by kernel_rfl) (.bool false) (by go_simp) ?_
  simp only [Act.put, List.setIfInBounds_toArray, List.set_cons_zero, List.set_cons_succ]
  refine WL.nil ?_
  refine hK4 _ _ ?_
  refine wp_cond_false rfl ?_
  refine wp_skip ?_
  refine hK3 _ _ ?_
  refine wp_seq_k fun K5 hK5 => ?_
  refine wp_region_list (WL.out ?_)
  refine WL.val (by kernel_rfl) (.nilIface) (by go_simp) ?_
  simp only [Act.put, List.setIfInBounds_toArray, List.set_cons_zero, List.set_cons_succ]
  refine WL.callF (by kernel_rfl) 45 _ _ rfl Try.in45 #[.nilIface] (by simp [Act.eval, err, ptr]) ?_
  refine (placed_nil w1).mono ?_
  rintro e w2 ⟨rfl, hb2⟩
  refine ⟨_, rfl, ?_⟩
  have HZ2 := Keep.mk (HZ.out.below hb2 HZ.out.lt)
  have B2 : Keep (Below w.heap.size w w2) := ⟨HB.out.trans (hb2.mono HB.out.size)⟩
  clear hb2
  simp only [Act.put, List.setIfInBounds_toArray, List.set_cons_zero, List.set_cons_succ]
  refine WL.val (by kernel_rfl) (.tuple #[.agg (erA 0 0), .bool true]) (by go_simp) ?_
  simp only [Act.put, List.setIfInBounds_toArray, List.set_cons_zero, List.set_cons_succ]
  refine WL.val (by kernel_rfl) (.agg (erA 0 0)) (by go_simp) ?_
  simp only [Act.put, List.setIfInBounds_toArray, List.set_cons_zero, List.set_cons_succ]
  refine WL.val (by kernel_rfl) (.bool true) (by go_simp) ?_
  simp only [Act.put, List.setIfInBounds_toArray, List.set_cons_zero, List.set_cons_succ]
  refine WL.new (by kernel_rfl) 41 rfl _ Try.new41E ?_
  have HY := Keep.mk (Blk.new w2 41 (erA 0 0))
  have HZ3 := Keep.mk (HZ2.out.alloc (.cells (erA 0 0) 41))
  have B3 : Keep (Below w.heap.size w (w2.alloc (.cells (erA 0 0) 41))) := ⟨B2.out.trans ((below_new w2 _).mono B2.out.size)⟩
  have Hne : Keep (w.heap.size < w2.heap.size) := ⟨HZ2.out.lt⟩
  generalize w2.alloc (.cells (erA 0 0) 41) = w3 at *
  generalize w2.heap.size = g2 at *
  simp only [Act.put, List.setIfInBounds_toArray, List.set_cons_zero, List.set_cons_succ]
  refine WL.storeR (by kernel_rfl) 41 (.tmp 6) (.tmp 21) rfl g2 (erA 0 0) rfl rfl 41 (erA 0 0) HY.out (Try.size41B _ _) (erA_sizes _ _ _ _) (erA_one _ _) ?_
  have HY4 := Keep.mk (HY.out.setRow (erA 0 0))
  have HZ4 := Keep.mk (HZ3.out.setRow_ne (b' := g2) (by have := Hne.out; omega) (erA 0 0))
  have B4 : Keep (Below w.heap.size w (w3.setRow g2 (erA 0 0))) := ⟨below_setRow B3.out (by have := Hne.out; omega) _⟩
  generalize w3.setRow g2 (erA 0 0) = w4 at *
  simp only [Act.put]
  refine WL.val (by kernel_rfl) (.bool true) (by go_simp) ?_
  simp only [Act.put, List.setIfInBounds_toArray, List.set_cons_zero, List.set_cons_succ]
  refine WL.nil ?_
  refine hK5 _ _ ?_
  refine wp_seq_k fun K6 hK6 => ?_
  refine wp_region_list (WL.out ?_)
  refine WL.row (by kernel_rfl) 41 (.tmp 6) rfl g2 rfl 41 (erA 0 0) _ HY4.out Try.underlying41 rfl (Try.size41B _ _) ?_
  simp only [Act.put, List.setIfInBounds_toArray, List.set_cons_zero, List.set_cons_succ]
  refine WL.val (by kernel_rfl) (.bool true) (by go_simp) ?_
  simp only [Act.put, List.setIfInBounds_toArray, List.set_cons_zero, List.set_cons_succ]
  refine WL.storeR (by kernel_rfl) 41 (.tmp 2) (.tmp 23) rfl w.heap.size (erA 0 0) rfl rfl 41 (erA 0 0) HZ4.out (Try.size41B _ _) (erA_sizes _ _ _ _) (erA_one _ _) ?_
  simp only [Act.put]
  refine WL.val (by kernel_rfl) (.bool true) (by go_simp) ?_
  simp only [Act.put, List.setIfInBounds_toArray, List.set_cons_zero, List.set_cons_succ]
  refine WL.nil ?_
  refine hK6 _ _ ?_
  refine wp_ret ?_
  try simp only [Exit.then]
  refine bodyPost_ret (v := .tuple #[.agg (erA 0 0), .bool true]) (results_cell_row2 Try.results15 _ _ w.heap.size 41 _ (0, 0) _ _ rfl rfl (HZ4.out.setRow _) Try.underlying41 rfl (Try.size41B _ _)) rfl ?_
  exact ⟨rfl, below_setRow B4.out (Nat.le_refl _) _⟩
set_option maxRecDepth 8000 in
theorem told_err (q : Nat) (why : Int) (a : Nat) (w : World) (hq : BadAt w q why a) (hw : why ≠ 0) : Calls Try.prog 15 #[err q] w fun e w' => e = .returned (.tuple #[.agg (erA why (a : Int)), .bool true]) ∧ Below w.heap.size w w' := by
  have HQ : Keep (Blk w q 126 #[.int .i64 why, .int .i64 (a : Int)]) := ⟨hq⟩
  have has := assertN1 (ptr q)
  have Hw := Keep.mk hw
  clear hq hw
  unfold err
  go_enter Try.func15, Try.ntmps15
  refine wp_seq_k fun K1 hK1 => ?_
  refine wp_region_list (WL.out ?_)
  refine WL.new (by kernel_rfl) 41 rfl _ Try.new41E ?_
  have HZ := Keep.mk (Blk.new w 41 (erA 0 0))
  have HB := Keep.mk (below_new w (.cells (erA 0 0) 41))
  have HQ1 := Keep.mk (HQ.out.alloc (.cells (erA 0 0) 41))
  generalize w.alloc (.cells (erA 0 0) 41) = w1 at *
  simp only [Act.put, List.setIfInBounds_toArray, List.set_cons_zero, List.set_cons_succ]
  refine WL.val (by kernel_rfl) (.bool false) (by go_simp) ?_
  simp only [Act.put, List.setIfInBounds_toArray, List.set_cons_zero, List.set_cons_succ]
  refine WL.nil ?_
  refine hK1 _ _ ?_
  refine wp_seq_k fun K2 hK2 => ?_
  refine wp_region_list (WL.out ?_)
  refine WL.val (by kernel_rfl) (.iface 116 (ptr q)) (by go_simp) ?_
  simp only [Act.put, List.setIfInBounds_toArray, List.set_cons_zero, List.set_cons_succ]
  refine WL.val (by kernel_rfl) (.tuple #[.int .i64 0, .bool false]) (by go_simp) ?_
  simp only [Act.put, List.setIfInBounds_toArray, List.set_cons_zero, List.set_cons_succ]
  refine WL.val (by kernel_rfl) (.tuple #[.int .i64 0, .bool false]) (by go_simp) ?_
  simp only [Act.put, List.setIfInBounds_toArray, List.set_cons_zero, List.set_cons_succ]
  refine WL.val (by kernel_rfl) (.int .i64 0) (by go_simp) ?_
  simp only [Act.put, List.setIfInBounds_toArray, List.set_cons_zero, List.set_cons_succ]
  refine WL.val (by kernel_rfl) (.bool false) (by go_simp) ?_
  simp only [Act.put, List.setIfInBounds_toArray, List.set_cons_zero, List.set_cons_succ]
  refine WL.val (by kernel_rfl) (.int .i64 0) (by go_simp) ?_
  simp only [Act.put, List.setIfInBounds_toArray, List.set_cons_zero, List.set_cons_succ]
  refine WL.val (by kernel_rfl) (.bool false) (by go_simp) ?_
  simp only [Act.put, List.setIfInBounds_toArray, List.set_cons_zero, List.set_cons_succ]
  refine WL.nil ?_
  refine hK2 _ _ ?_
  refine wp_seq_k fun K3 hK3 => ?_
  refine wp_seq_k fun K4 hK4 => ?_
  refine wp_region_list (WL.out ?_)
  refine WL.val (by kernel_rfl) (.bool false) (by go_simp) ?_
  simp only [Act.put, List.setIfInBounds_toArray, List.set_cons_zero, List.set_cons_succ]
  refine WL.nil ?_
  refine hK4 _ _ ?_
  refine wp_cond_false rfl ?_
  refine wp_skip ?_
  refine hK3 _ _ ?_
  refine wp_seq_k fun K5 hK5 => ?_
  refine wp_region_list (WL.out ?_)
  refine WL.val (by kernel_rfl) (.iface 116 (ptr q)) (by go_simp) ?_
  simp only [Act.put, List.setIfInBounds_toArray, List.set_cons_zero, List.set_cons_succ]
  refine WL.callF (by kernel_rfl) 45 _ _ rfl Try.in45 #[err q] (by simp [Act.eval, err, ptr]) ?_
  refine (placed_err q why a w1 HQ1.out Hw.out).mono ?_
  rintro e w2 ⟨rfl, hb2⟩
  refine ⟨_, rfl, ?_⟩
  have HZ2 := Keep.mk (HZ.out.below hb2 HZ.out.lt)
  have B2 : Keep (Below w.heap.size w w2) := ⟨HB.out.trans (hb2.mono HB.out.size)⟩
  clear hb2
  simp only [Act.put, List.setIfInBounds_toArray, List.set_cons_zero, List.set_cons_succ]
  refine WL.val (by kernel_rfl) (.tuple #[.agg (erA why (a : Int)), .bool true]) (by go_simp) ?_
  simp only [Act.put, List.setIfInBounds_toArray, List.set_cons_zero, List.set_cons_succ]
  refine WL.val (by kernel_rfl) (.agg (erA why (a : Int))) (by go_simp) ?_
  simp only [Act.put, List.setIfInBounds_toArray, List.set_cons_zero, List.set_cons_succ]
  refine WL.val (by kernel_rfl) (.bool true) (by go_simp) ?_
  simp only [Act.put, List.setIfInBounds_toArray, List.set_cons_zero, List.set_cons_succ]
  refine WL.new (by kernel_rfl) 41 rfl _ Try.new41E ?_
  have HY := Keep.mk (Blk.new w2 41 (erA 0 0))
  have HZ3 := Keep.mk (HZ2.out.alloc (.cells (erA 0 0) 41))
  have B3 : Keep (Below w.heap.size w (w2.alloc (.cells (erA 0 0) 41))) := ⟨B2.out.trans ((below_new w2 _).mono B2.out.size)⟩
  have Hne : Keep (w.heap.size < w2.heap.size) := ⟨HZ2.out.lt⟩
  generalize w2.alloc (.cells (erA 0 0) 41) = w3 at *
  generalize w2.heap.size = g2 at *
  simp only [Act.put, List.setIfInBounds_toArray, List.set_cons_zero, List.set_cons_succ]
  refine WL.storeR (by kernel_rfl) 41 (.tmp 6) (.tmp 21) rfl g2 (erA why (a : Int)) rfl rfl 41 (erA 0 0) HY.out (Try.size41B _ _) (erA_sizes _ _ _ _) (erA_one _ _) ?_
  have HY4 := Keep.mk (HY.out.setRow (erA why (a : Int)))
  have HZ4 := Keep.mk (HZ3.out.setRow_ne (b' := g2) (by have := Hne.out; omega) (erA why (a : Int)))
  have B4 : Keep (Below w.heap.size w (w3.setRow g2 (erA why (a : Int)))) := ⟨below_setRow B3.out (by have := Hne.out; omega) _⟩
  generalize w3.setRow g2 (erA why (a : Int)) = w4 at *
  simp only [Act.put]
  refine WL.val (by kernel_rfl) (.bool true) (by go_simp) ?_
  simp only [Act.put, List.setIfInBounds_toArray, List.set_cons_zero, List.set_cons_succ]
  refine WL.nil ?_
  refine hK5 _ _ ?_
  refine wp_seq_k fun K6 hK6 => ?_
  refine wp_region_list (WL.out ?_)
  refine WL.row (by kernel_rfl) 41 (.tmp 6) rfl g2 rfl 41 (erA why (a : Int)) _ HY4.out Try.underlying41 rfl (Try.size41B _ _) ?_
  simp only [Act.put, List.setIfInBounds_toArray, List.set_cons_zero, List.set_cons_succ]
  refine WL.val (by kernel_rfl) (.bool true) (by go_simp) ?_
  simp only [Act.put, List.setIfInBounds_toArray, List.set_cons_zero, List.set_cons_succ]
  refine WL.storeR (by kernel_rfl) 41 (.tmp 2) (.tmp 23) rfl w.heap.size (erA why (a : Int)) rfl rfl 41 (erA 0 0) HZ4.out (Try.size41B _ _) (erA_sizes _ _ _ _) (erA_one _ _) ?_
  simp only [Act.put]
  refine WL.val (by kernel_rfl) (.bool true) (by go_simp) ?_
  simp only [Act.put, List.setIfInBounds_toArray, List.set_cons_zero, List.set_cons_succ]
  refine WL.nil ?_
  refine hK6 _ _ ?_
  refine wp_ret ?_
  try simp only [Exit.then]
  refine bodyPost_ret (v := .tuple #[.agg (erA why (a : Int)), .bool true]) (results_cell_row2 Try.results15 _ _ w.heap.size 41 _ (0, 0) _ _ rfl rfl (HZ4.out.setRow _) Try.underlying41 rfl (Try.size41B _ _)) rfl ?_
  exact ⟨rfl, below_setRow B4.out (Nat.le_refl _) _⟩
end Go.Proofs.Ytlogkojhcccogaa
namespace Go.Proofs.Ytlogkojhcccogaa
open Go.RowKit

set_option maxRecDepth 8000 in
set_option maxHeartbeats 1000000 in
theorem xnum_bad (x : Nat) (vB : Value) (a : Nat) (why b : Int) (v : Value) (w : World) (h : RfAt w x vB a why b) (hw : why ≠ 0) :
    Calls Try.prog 70 #[ptr x, v] w (RfStuck why b (.int .u64 0) w) := by
  have HS := Keep.mk (RS.start h)
  have HB := Keep.mk (below_new w (.cells #[.int .i64 0, .int .i64 0] 41))
  have hy1 : (why == 0) = false := by simpa using hw
  clear h
  go_enter Try.func70, Try.ntmps70
  go_wp2_with (first | (refine wpList_new rfl 41 rfl _ Try.new41 ?_; refine Hid.out ?_))
  refine hid_in ?_
  generalize w.alloc (.cells #[.int .i64 0, .int .i64 0] 41) = w1 at *
  have c2 := RfAt.c2 HS.out.rf
  have c3 := RfAt.c3 HS.out.rf
  have d0 := HS.out.d0
  have d1 := HS.out.d1
  have e0 := HS.out.cell.frozen 0
  have e1 := HS.out.cell.frozen 1
  go_wp2_with fail
  go_region
  go_wp2
  exact bodyPost_ret (results_tmp_cell_row Try.results70 _ _ w.heap.size 41 _ (0, 0) _ _ rfl rfl (HS.out.fin (.int .i64 why) (.int .i64 b)).1.drew Try.underlying41 rfl Try.size41) rfl ⟨rfl, (below_two HB.out (Nat.le_refl _) _ _).drew⟩

theorem pow_bnd (t : Nat) (c y : Int) (ht : t ≤ 9) (h9 : t = 9 → c ≤ 1) (c0 : 0 ≤ c) (c1 : c < 256) (y0 : 0 ≤ y) (y1 : y < 2 ^ (7 * t)) :
    0 ≤ c % 128 * 2 ^ (7 * t) ∧ c % 128 * 2 ^ (7 * t) < 18446744073709551616 ∧ y + c % 128 * 2 ^ (7 * t) < 18446744073709551616 ∧ (t ≤ 8 → y + c % 128 * 2 ^ (7 * t) < 2 ^ (7 * (t + 1))) := by
  rcases (by omega : t = 0 ∨ t = 1 ∨ t = 2 ∨ t = 3 ∨ t = 4 ∨ t = 5 ∨ t = 6 ∨ t = 7 ∨ t = 8 ∨ t = 9) with rfl | rfl | rfl | rfl | rfl | rfl | rfl | rfl | rfl | rfl <;>
    (simp only [Nat.reduceMul, Nat.reduceAdd, Int.reducePow] at y1 ⊢; omega)
theorem fstM_err {D : List Int} {e : Int} (h : fstG D 0 0 = (0, 0, e)) (he : e ≠ 0) (most : Int) : fstM D most = (0, 0, e) := by
  unfold fstM; rw [h, if_neg (fun h => he h.1)]
theorem fstM_over {D : List Int} {s n most : Int} (h : fstG D 0 0 = (s, n, 0)) (hm : most < s) : fstM D most = (0, 0, 22) := by
  unfold fstM; rw [h, if_pos ⟨rfl, hm⟩]
theorem fstM_ok {D : List Int} {s n most : Int} (h : fstG D 0 0 = (s, n, 0)) (hm : ¬ most < s) : fstM D most = (s, n, 0) := by
  unfold fstM; rw [h, if_neg (fun h => hm h.2)]
theorem tri {X W X' W' : Int} {N N' : Nat} (h : (X', (N' : Int), W') = (X, (N : Int), W)) : X = X' ∧ N = N' ∧ W = W' := by
  injection h with h1 h2
  injection h2 with h2 h3
  exact ⟨h1.symm, by omega, h3.symm⟩

set_option maxRecDepth 8000 in
set_option maxHeartbeats 4000000 in
theorem xnum_good (x : Nat) (vB : Value) (l : List Int) (a most : Nat) (w : World) (h : RfAt w x vB a 0 0) (hR : ∀ wx, (Grown w wx fun k => k = x) → RowAt wx vB l) (ha : a ≤ l.length) (hb : l.length ≤ 140737488355328) (hby : Byts l) (D : List Int) (hD : D = l.drop a) (W X : Int) (N : Nat) (hM : fstM D most = (X, (N : Int), W)) :
    Calls Try.prog 70 #[ptr x, .int .u64 (most : Int)] w (RfPost x vB W (a + N) (.int .u64 X) w) := by
  have HM := Keep.mk hM
  have HS := Keep.mk (RS.start h)
  have HR := Keep.mk hR
  have hlen : D.length = l.length - a := by rw [hD, List.length_drop]
  have HBy : Keep (∀ t, t < D.length → 0 ≤ D.getD t 0 ∧ D.getD t 0 < 256) := ⟨fun t ht => by
    have h1 : D.getD t 0 ∈ l := by
      rw [List.getD_eq_getElem?_getD, List.getElem?_eq_getElem ht, Option.getD_some]
      exact List.mem_of_mem_drop (by rw [← hD]; exact List.getElem_mem ht)
    exact hby _ h1⟩
  obtain ⟨va, vc, hvB⟩ := row_form (hR w (Grown.refl _ _))
  subst hvB
  have HDg : Keep (∀ t, t < D.length → D.drop t = D.getD t 0 :: D.drop (t + 1)) := ⟨fun t ht => by
    rw [List.drop_eq_getElem_cons ht, List.getD_eq_getElem?_getD, List.getElem?_eq_getElem ht, Option.getD_some]⟩
  have HRc : Keep (∀ wx, (Grown w wx fun k => k = x) → ∀ t, t < D.length → ∃ gb go, va = some ⟨gb, go, none⟩ ∧ wx.cell? ⟨gb, go + (a + t), none⟩ = some (.int .u8 (D.getD t 0))) := ⟨fun wx hg t ht => by
    rcases HR.out wx hg with ⟨_, e⟩ | ⟨_, _, _, e⟩ | ⟨g, o, _, e, _, h3⟩
    · have : l.length = 0 := by rw [e]; rfl
      omega
    · have : l.length = 0 := by rw [e]; rfl
      omega
    · injection e with e1 e2
      refine ⟨g, o, e1, ?_⟩
      rw [h3 (a + t) (by omega), hD]
      simp [List.getD_eq_getElem?_getD]⟩
  have Hb := Keep.mk hb
  have Ha := Keep.mk ha
  have hbi : (l.length : Int) ≤ 140737488355328 := by omega
  have hai : (a : Int) ≤ (l.length : Int) := by omega
  have Hlen := Keep.mk hlen
  clear h hR hlen ha hb hD hby HR hM
  go_enter Try.func70, Try.ntmps70
  go_wp2_with (first | (refine wpList_new rfl 41 rfl _ Try.new41 ?_; refine Hid.out ?_))
  refine hid_in ?_
  generalize w.alloc (.cells #[.int .i64 0, .int .i64 0] 41) = w1 at *
  have c2 := RfAt.c2 HS.out.rf
  go_wp2_with fail
  clear c2
  go_loopw [6, 7] (fun u i wr => ∃ (t : Nat) (y : Int), t ≤ 9 ∧ t ≤ D.length ∧ u = .int .u64 y ∧ i = .int .i64 (t : Int) ∧ Keep (fstG (D.drop t) t y = fstG D 0 0) ∧ Keep (0 ≤ y ∧ y < 2 ^ (7 * t)) ∧ RS w x (.slice va l.length vc) a 0 0 wr) (fun _ i _ => 10 - (intOf i).toNat)
  case atStart => exact ⟨0, 0, by omega, by omega, rfl, rfl, ⟨by simp⟩, ⟨by simp⟩, HS.out⟩
  case round =>
    clear HS
    obtain ⟨t, y, ht, htD, rfl, rfl, hF, hy, hS⟩ := hrel
    have HS := Keep.mk hS
    have hti : (t : Int) < 10 := by omega
    clear hS
    go_wp2_with fail
    refine (xleft_any x _ l.length vc a 0 0 wr HS.out.rf Ha.out Hb.out).mono ?_
    rintro e w2 ⟨rfl, qd, hw2⟩
    have HS2 := Keep.mk (HS.out.later (w2 := w2) (by rw [hw2]; exact below_drewN _ _))
    clear hw2 HS
    by_cases hlt : t < D.length
    · have hlt' : ¬ ((l.length : Int) - (a : Int) ≤ (t : Int)) := by have := Hlen.out; omega
      obtain ⟨gb, go, rfl, hc⟩ := HRc.out w2 HS2.out.gr t hlt
      have hcb := HBy.out t hlt
      have hDg := HDg.out t hlt
      obtain ⟨c, hcc⟩ : ∃ c, Keep (c = D.getD t 0) := ⟨_, ⟨rfl⟩⟩
      rw [← hcc.out] at hc hcb hDg
      obtain ⟨hc0, hc1⟩ := hcb
      rw [hDg] at hF
      have g0 := RfAt.c0 HS2.out.rf
      have g1 := RfAt.c1 HS2.out.rf
      clear hDg
      by_cases h9 : t = 9
      · have hb9 : ((t : Int) == 9) = true := by rw [h9]; rfl
        have hp0 : (0 : Int) < (t : Int) := by omega
        by_cases h1 : 1 < c
        · have h1' : 1 < c := h1
          have hG : Keep (fstG D 0 0 = (0, 0, 22)) := ⟨by rw [← hF.out, fstG, if_pos ⟨h9, h1⟩]⟩
          obtain ⟨rfl, rfl, rfl⟩ := tri ((show (0, ((0 : Nat) : Int), (22 : Int)) = fstM D most from (fstM_err hG.out (by decide) _).symm).trans HM.out)
          clear HM
          try clear h9
          try clear hp
          go_wp2_with fail
          go_quiet (fail)
          obtain ⟨w3, hw3⟩ : ∃ w3, Keep (w3 = w2.drewN nq) := ⟨_, ⟨rfl⟩⟩
          rw [← hw3.out]
          have HS3 := Keep.mk (HS2.out.later (w2 := w3) (by rw [hw3.out]; exact below_drewN _ _))
          have k1 := RfAt.c1 HS3.out.rf
          clear hw3 g0 g1 hc HS2
          go_wp2_with fail
          refine (xwrong_any x _ a 22 w3 HS3.out.rf).mono ?_
          rintro e w4 ⟨rfl, hr, hg⟩
          have HS4 := Keep.mk (HS3.out.turned hr hg)
          clear hr hg k1
          have d0 := HS4.out.d0
          have d1 := HS4.out.d1
          have e0 := HS4.out.cell.frozen 0
          have e1 := HS4.out.cell.frozen 1
          go_wp2
          have hf := HS4.out.fin (.int .i64 22) (.int .i64 (a : Int))
          exact bodyPost_ret (results_tmp_cell_row Try.results70 _ _ w.heap.size 41 _ (0, 0) _ _ rfl rfl hf.1 Try.underlying41 rfl Try.size41) rfl ⟨_, .inr ⟨by decide, rfl⟩, rfl, hf.2.1, hf.2.2⟩
        · have H9 : t = 9 → c ≤ 1 := fun _ => by omega
          have h128 : ¬ (128 : Int) ≤ c := by omega
          have hpb := pow_bnd t c y ht H9 hc0 hc1 hy.out.1 hy.out.2
          obtain ⟨sv, hsv⟩ : ∃ sv, Keep (sv = y + c % 128 * 2 ^ (7 * t)) := ⟨_, ⟨rfl⟩⟩
          have hwr : IntKind.u64.wrap (y + IntKind.u64.wrap (c % 128 * 2 ^ (7 * t))) = sv := by
            rw [IntKind.wrap_u64, IntKind.wrap_u64, hsv.out]
            have := hy.out.1
            omega
          have Hpb := Keep.mk hpb
          clear hpb H9
          by_cases h0 : c = 0
          · have h0' : (c == 0) = true := by simp [h0]
            have hG : Keep (fstG D 0 0 = (0, 0, 21)) := ⟨by rw [← hF.out, fstG, if_neg (by omega), if_pos ⟨h0, by omega⟩]⟩
            clear h0
            obtain ⟨rfl, rfl, rfl⟩ := tri ((show (0, ((0 : Nat) : Int), (21 : Int)) = fstM D most from (fstM_err hG.out (by decide) _).symm).trans HM.out)
            clear HM
            try clear h9
            try clear hp
            go_wp2_with fail
            go_quiet (fail)
            obtain ⟨w3, hw3⟩ : ∃ w3, Keep (w3 = w2.drewN nq) := ⟨_, ⟨rfl⟩⟩
            rw [← hw3.out]
            have HS3 := Keep.mk (HS2.out.later (w2 := w3) (by rw [hw3.out]; exact below_drewN _ _))
            have k1 := RfAt.c1 HS3.out.rf
            clear hw3 g0 g1 hc HS2
            go_wp2_with fail
            refine (xwrong_any x _ a 21 w3 HS3.out.rf).mono ?_
            rintro e w4 ⟨rfl, hr, hg⟩
            have HS4 := Keep.mk (HS3.out.turned hr hg)
            clear hr hg k1
            have d0 := HS4.out.d0
            have d1 := HS4.out.d1
            have e0 := HS4.out.cell.frozen 0
            have e1 := HS4.out.cell.frozen 1
            go_wp2
            have hf := HS4.out.fin (.int .i64 21) (.int .i64 (a : Int))
            exact bodyPost_ret (results_tmp_cell_row Try.results70 _ _ w.heap.size 41 _ (0, 0) _ _ rfl rfl hf.1 Try.underlying41 rfl Try.size41) rfl ⟨_, .inr ⟨by decide, rfl⟩, rfl, hf.2.1, hf.2.2⟩
          · have h0' : (c == 0) = false := by simpa using h0
            have hG : Keep (fstG D 0 0 = (sv, ((t + 1 : Nat) : Int), 0)) := ⟨by rw [← hF.out, fstG, if_neg (by omega), if_neg (by omega), if_pos (by omega), hsv.out]; rfl⟩
            by_cases hmost : (most : Int) < sv
            · have hmost' : (most : Int) < sv := hmost
              obtain ⟨rfl, rfl, rfl⟩ := tri ((show (0, ((0 : Nat) : Int), (22 : Int)) = fstM D most from (fstM_over hG.out hmost).symm).trans HM.out)
              clear HM
              try clear h9
              try clear hp
              go_wp2_with fail
              go_quiet (fail)
              obtain ⟨w3, hw3⟩ : ∃ w3, Keep (w3 = w2.drewN nq) := ⟨_, ⟨rfl⟩⟩
              rw [← hw3.out]
              have HS3 := Keep.mk (HS2.out.later (w2 := w3) (by rw [hw3.out]; exact below_drewN _ _))
              have k1 := RfAt.c1 HS3.out.rf
              clear hw3 g0 g1 hc HS2
              go_wp2_with fail
              refine (xwrong_any x _ a 22 w3 HS3.out.rf).mono ?_
              rintro e w4 ⟨rfl, hr, hg⟩
              have HS4 := Keep.mk (HS3.out.turned hr hg)
              clear hr hg k1
              have d0 := HS4.out.d0
              have d1 := HS4.out.d1
              have e0 := HS4.out.cell.frozen 0
              have e1 := HS4.out.cell.frozen 1
              go_wp2
              have hf := HS4.out.fin (.int .i64 22) (.int .i64 (a : Int))
              exact bodyPost_ret (results_tmp_cell_row Try.results70 _ _ w.heap.size 41 _ (0, 0) _ _ rfl rfl hf.1 Try.underlying41 rfl Try.size41) rfl ⟨_, .inr ⟨by decide, rfl⟩, rfl, hf.2.1, hf.2.2⟩
            · have hmost' : ¬ ((most : Int) < sv) := hmost
              obtain ⟨rfl, rfl, rfl⟩ := tri ((show (sv, ((t + 1 : Nat) : Int), (0 : Int)) = fstM D most from (fstM_ok hG.out hmost).symm).trans HM.out)
              clear HM
              try clear h9
              try clear hp
              go_wp2_with fail
              go_quiet (fail)
              obtain ⟨w3, hw3⟩ : ∃ w3, Keep (w3 = w2.drewN nq) := ⟨_, ⟨rfl⟩⟩
              rw [← hw3.out]
              have HS3 := Keep.mk (HS2.out.later (w2 := w3) (by rw [hw3.out]; exact below_drewN _ _))
              have k1 := RfAt.c1 HS3.out.rf
              clear hw3 g0 g1 hc HS2
              have hne : x ≠ w.heap.size := by have := HS3.out.lt; omega
              have hne' : w.heap.size ≠ x := fun e => hne e.symm
              have f1 := Blk.frozen HS3.out.rf 1
              have d0 := HS3.out.d0
              have d1 := HS3.out.d1
              have e0 := HS3.out.cell.frozen 0
              have e1 := HS3.out.cell.frozen 1
              go_wp2
              have hf := (HS3.out.step (a + (t + 1))).fin (.int .i64 0) (.int .i64 0)
              exact bodyPost_ret (results_tmp_cell_row Try.results70 _ _ w.heap.size 41 _ (0, 0) _ _ rfl rfl hf.1 Try.underlying41 rfl Try.size41) rfl ⟨_, .inl ⟨rfl, rfl⟩, rfl, hf.2.1, hf.2.2⟩
      · have hb9 : ((t : Int) == 9) = false := by simp; omega
        have H9 : t = 9 → c ≤ 1 := fun h => absurd h h9
        have hpb := pow_bnd t c y ht H9 hc0 hc1 hy.out.1 hy.out.2
        obtain ⟨sv, hsv⟩ : ∃ sv, Keep (sv = y + c % 128 * 2 ^ (7 * t)) := ⟨_, ⟨rfl⟩⟩
        have hwr : IntKind.u64.wrap (y + IntKind.u64.wrap (c % 128 * 2 ^ (7 * t))) = sv := by
          rw [IntKind.wrap_u64, IntKind.wrap_u64, hsv.out]
          have := hy.out.1
          omega
        have Hpb := Keep.mk hpb
        clear hpb H9
        by_cases h128 : 128 ≤ c
        · have h128' : (128 : Int) ≤ c := h128
          have K9 := Keep.mk h9
          try clear h9
          try clear hp
          go_wp2_with fail
          go_quiet (fail)
          obtain ⟨w3, hw3⟩ : ∃ w3, Keep (w3 = w2.drewN nq) := ⟨_, ⟨rfl⟩⟩
          rw [← hw3.out]
          have HS3 := Keep.mk (HS2.out.later (w2 := w3) (by rw [hw3.out]; exact below_drewN _ _))
          have k1 := RfAt.c1 HS3.out.rf
          clear hw3 g0 g1 hc HS2
          go_wp2_with fail
          go_roundw
          case rel => exact ⟨t + 1, sv, by have := K9.out; omega, by omega, rfl, by go_num, ⟨by rw [← hF.out, fstG, if_neg (by have := K9.out; omega), if_neg (by omega), if_neg (by omega), hsv.out]⟩, ⟨by rw [hsv.out]; have := Hpb.out.1; have := hy.out.1; omega, by rw [hsv.out]; exact Hpb.out.2.2.2 (by have := K9.out; omega)⟩, HS3.out⟩
          case measure => simp only [intOf]; omega
        · have h128' : ¬ (128 : Int) ≤ c := h128
          by_cases hp : t = 0
          · have hp0 : ¬ (0 : Int) < (t : Int) := by omega
            have hG : Keep (fstG D 0 0 = (sv, ((t + 1 : Nat) : Int), 0)) := ⟨by rw [← hF.out, fstG, if_neg (by omega), if_neg (by omega), if_pos (by omega), hsv.out]; rfl⟩
            by_cases hmost : (most : Int) < sv
            · have hmost' : (most : Int) < sv := hmost
              obtain ⟨rfl, rfl, rfl⟩ := tri ((show (0, ((0 : Nat) : Int), (22 : Int)) = fstM D most from (fstM_over hG.out hmost).symm).trans HM.out)
              clear HM
              try clear h9
              try clear hp
              go_wp2_with fail
              go_quiet (fail)
              obtain ⟨w3, hw3⟩ : ∃ w3, Keep (w3 = w2.drewN nq) := ⟨_, ⟨rfl⟩⟩
              rw [← hw3.out]
              have HS3 := Keep.mk (HS2.out.later (w2 := w3) (by rw [hw3.out]; exact below_drewN _ _))
              have k1 := RfAt.c1 HS3.out.rf
              clear hw3 g0 g1 hc HS2
              go_wp2_with fail
              refine (xwrong_any x _ a 22 w3 HS3.out.rf).mono ?_
              rintro e w4 ⟨rfl, hr, hg⟩
              have HS4 := Keep.mk (HS3.out.turned hr hg)
              clear hr hg k1
              have d0 := HS4.out.d0
              have d1 := HS4.out.d1
              have e0 := HS4.out.cell.frozen 0
              have e1 := HS4.out.cell.frozen 1
              go_wp2
              have hf := HS4.out.fin (.int .i64 22) (.int .i64 (a : Int))
              exact bodyPost_ret (results_tmp_cell_row Try.results70 _ _ w.heap.size 41 _ (0, 0) _ _ rfl rfl hf.1 Try.underlying41 rfl Try.size41) rfl ⟨_, .inr ⟨by decide, rfl⟩, rfl, hf.2.1, hf.2.2⟩
            · have hmost' : ¬ ((most : Int) < sv) := hmost
              obtain ⟨rfl, rfl, rfl⟩ := tri ((show (sv, ((t + 1 : Nat) : Int), (0 : Int)) = fstM D most from (fstM_ok hG.out hmost).symm).trans HM.out)
              clear HM
              try clear h9
              try clear hp
              go_wp2_with fail
              go_quiet (fail)
              obtain ⟨w3, hw3⟩ : ∃ w3, Keep (w3 = w2.drewN nq) := ⟨_, ⟨rfl⟩⟩
              rw [← hw3.out]
              have HS3 := Keep.mk (HS2.out.later (w2 := w3) (by rw [hw3.out]; exact below_drewN _ _))
              have k1 := RfAt.c1 HS3.out.rf
              clear hw3 g0 g1 hc HS2
              have hne : x ≠ w.heap.size := by have := HS3.out.lt; omega
              have hne' : w.heap.size ≠ x := fun e => hne e.symm
              have f1 := Blk.frozen HS3.out.rf 1
              have d0 := HS3.out.d0
              have d1 := HS3.out.d1
              have e0 := HS3.out.cell.frozen 0
              have e1 := HS3.out.cell.frozen 1
              go_wp2
              have hf := (HS3.out.step (a + (t + 1))).fin (.int .i64 0) (.int .i64 0)
              exact bodyPost_ret (results_tmp_cell_row Try.results70 _ _ w.heap.size 41 _ (0, 0) _ _ rfl rfl hf.1 Try.underlying41 rfl Try.size41) rfl ⟨_, .inl ⟨rfl, rfl⟩, rfl, hf.2.1, hf.2.2⟩
          · have hp0 : (0 : Int) < (t : Int) := by omega
            by_cases h0 : c = 0
            · have h0' : (c == 0) = true := by simp [h0]
              have hG : Keep (fstG D 0 0 = (0, 0, 21)) := ⟨by rw [← hF.out, fstG, if_neg (by omega), if_pos ⟨h0, by omega⟩]⟩
              clear h0
              obtain ⟨rfl, rfl, rfl⟩ := tri ((show (0, ((0 : Nat) : Int), (21 : Int)) = fstM D most from (fstM_err hG.out (by decide) _).symm).trans HM.out)
              clear HM
              try clear h9
              try clear hp
              go_wp2_with fail
              go_quiet (fail)
              obtain ⟨w3, hw3⟩ : ∃ w3, Keep (w3 = w2.drewN nq) := ⟨_, ⟨rfl⟩⟩
              rw [← hw3.out]
              have HS3 := Keep.mk (HS2.out.later (w2 := w3) (by rw [hw3.out]; exact below_drewN _ _))
              have k1 := RfAt.c1 HS3.out.rf
              clear hw3 g0 g1 hc HS2
              go_wp2_with fail
              refine (xwrong_any x _ a 21 w3 HS3.out.rf).mono ?_
              rintro e w4 ⟨rfl, hr, hg⟩
              have HS4 := Keep.mk (HS3.out.turned hr hg)
              clear hr hg k1
              have d0 := HS4.out.d0
              have d1 := HS4.out.d1
              have e0 := HS4.out.cell.frozen 0
              have e1 := HS4.out.cell.frozen 1
              go_wp2
              have hf := HS4.out.fin (.int .i64 21) (.int .i64 (a : Int))
              exact bodyPost_ret (results_tmp_cell_row Try.results70 _ _ w.heap.size 41 _ (0, 0) _ _ rfl rfl hf.1 Try.underlying41 rfl Try.size41) rfl ⟨_, .inr ⟨by decide, rfl⟩, rfl, hf.2.1, hf.2.2⟩
            · have h0' : (c == 0) = false := by simpa using h0
              have hG : Keep (fstG D 0 0 = (sv, ((t + 1 : Nat) : Int), 0)) := ⟨by rw [← hF.out, fstG, if_neg (by omega), if_neg (by omega), if_pos (by omega), hsv.out]; rfl⟩
              by_cases hmost : (most : Int) < sv
              · have hmost' : (most : Int) < sv := hmost
                obtain ⟨rfl, rfl, rfl⟩ := tri ((show (0, ((0 : Nat) : Int), (22 : Int)) = fstM D most from (fstM_over hG.out hmost).symm).trans HM.out)
                clear HM
                try clear h9
                try clear hp
                go_wp2_with fail
                go_quiet (fail)
                obtain ⟨w3, hw3⟩ : ∃ w3, Keep (w3 = w2.drewN nq) := ⟨_, ⟨rfl⟩⟩
                rw [← hw3.out]
                have HS3 := Keep.mk (HS2.out.later (w2 := w3) (by rw [hw3.out]; exact below_drewN _ _))
                have k1 := RfAt.c1 HS3.out.rf
                clear hw3 g0 g1 hc HS2
                go_wp2_with fail
                refine (xwrong_any x _ a 22 w3 HS3.out.rf).mono ?_
                rintro e w4 ⟨rfl, hr, hg⟩
                have HS4 := Keep.mk (HS3.out.turned hr hg)
                clear hr hg k1
                have d0 := HS4.out.d0
                have d1 := HS4.out.d1
                have e0 := HS4.out.cell.frozen 0
                have e1 := HS4.out.cell.frozen 1
                go_wp2
                have hf := HS4.out.fin (.int .i64 22) (.int .i64 (a : Int))
                exact bodyPost_ret (results_tmp_cell_row Try.results70 _ _ w.heap.size 41 _ (0, 0) _ _ rfl rfl hf.1 Try.underlying41 rfl Try.size41) rfl ⟨_, .inr ⟨by decide, rfl⟩, rfl, hf.2.1, hf.2.2⟩
              · have hmost' : ¬ ((most : Int) < sv) := hmost
                obtain ⟨rfl, rfl, rfl⟩ := tri ((show (sv, ((t + 1 : Nat) : Int), (0 : Int)) = fstM D most from (fstM_ok hG.out hmost).symm).trans HM.out)
                clear HM
                try clear h9
                try clear hp
                go_wp2_with fail
                go_quiet (fail)
                obtain ⟨w3, hw3⟩ : ∃ w3, Keep (w3 = w2.drewN nq) := ⟨_, ⟨rfl⟩⟩
                rw [← hw3.out]
                have HS3 := Keep.mk (HS2.out.later (w2 := w3) (by rw [hw3.out]; exact below_drewN _ _))
                have k1 := RfAt.c1 HS3.out.rf
                clear hw3 g0 g1 hc HS2
                have hne : x ≠ w.heap.size := by have := HS3.out.lt; omega
                have hne' : w.heap.size ≠ x := fun e => hne e.symm
                have f1 := Blk.frozen HS3.out.rf 1
                have d0 := HS3.out.d0
                have d1 := HS3.out.d1
                have e0 := HS3.out.cell.frozen 0
                have e1 := HS3.out.cell.frozen 1
                go_wp2
                have hf := (HS3.out.step (a + (t + 1))).fin (.int .i64 0) (.int .i64 0)
                exact bodyPost_ret (results_tmp_cell_row Try.results70 _ _ w.heap.size 41 _ (0, 0) _ _ rfl rfl hf.1 Try.underlying41 rfl Try.size41) rfl ⟨_, .inl ⟨rfl, rfl⟩, rfl, hf.2.1, hf.2.2⟩
    · have hlt' : (l.length : Int) - (a : Int) ≤ (t : Int) := by have := Hlen.out; omega
      have hG : Keep (fstG D 0 0 = (0, 0, 20)) := ⟨by rw [← hF.out, List.drop_of_length_le (by omega), fstG]⟩
      have k1 := RfAt.c1 HS2.out.rf
      obtain ⟨rfl, rfl, rfl⟩ := tri ((show (0, ((0 : Nat) : Int), (20 : Int)) = fstM D most from (fstM_err hG.out (by decide) _).symm).trans HM.out)
      clear HM
      go_wp2_with fail
      refine (xwrong_any x _ a 20 w2 HS2.out.rf).mono ?_
      rintro e w4 ⟨rfl, hr, hg⟩
      have HS4 := Keep.mk (HS2.out.turned hr hg)
      clear hr hg k1
      have d0 := HS4.out.d0
      have d1 := HS4.out.d1
      have e0 := HS4.out.cell.frozen 0
      have e1 := HS4.out.cell.frozen 1
      go_wp2
      have hf := HS4.out.fin (.int .i64 20) (.int .i64 (a : Int))
      exact bodyPost_ret (results_tmp_cell_row Try.results70 _ _ w.heap.size 41 _ (0, 0) _ _ rfl rfl hf.1 Try.underlying41 rfl Try.size41) rfl ⟨_, .inr ⟨by decide, rfl⟩, rfl, hf.2.1, hf.2.2⟩
theorem own_empty (w : World) (g : Nat) (h : Blk w g 5 #[]) : Own w (.slice (some ⟨g, 0, none⟩) 0 0) [] := Own.mk (l := []) h (Nat.le_refl _) (Nat.zero_le _) rfl (by simp [bv])
theorem wp_app {Q : Exit → Act → World → Prop} {o : Oper} {a : Act} {w : World} {K : Act → World → Prop} (s x : Operand)
    (ho : o.op = .call { callee := .builtin .append, args := #[s, x], argTypes := #[25, 25] }) (v vx : Value) (l m : List Int)
    (hs : a.eval s = v) (hx : a.eval x = vx) (hown : Own w v l) (hrow : RowAt w vx m) (hb : l.length + m.length ≤ 140737488355328)
    (h : ∀ v' w', AppPost w v (l ++ m) v' w' → K (a.put o.dst v') w') : o.wp Try.prog a w K Q := by
  obtain ⟨v', w', hr, h2⟩ := run_app_row w o.type v vx l m hown hrow hb
  unfold Oper.wp execOp
  simp only [ho, resolve, invoke, builtin, Sem.run_bind, Sem.run_pure, Result.andThen_ok, List.map_toArray, List.map_cons, List.map_nil, hs, hx, hr]
  exact h v' w' h2
theorem yieldsIf_slice2 {P : Program} {ops : Array Oper} {S : World → Prop} {op : Oper} {a : Act} (hw : Region.wanted op (yielded ops a.tmps) = true) (t : TypeId) (x lo hi : Operand) (ho : op.op = .slice t x (some lo) (some hi) none)
    (vx vl vh vs : Value) (hx : a.eval x = vx) (hl : a.eval lo = vl) (hh : a.eval hi = vh) (hr : ∀ w : World, (Instr.sliceAt t vx (some vl) (some vh) none).run P w = .ok vs w) : YieldsIf P ops S op vs a :=
  .inl ⟨hw, fun w _ => by
    unfold execOp
    simp only [ho, hx, hl, hh, Option.map_some, Option.map_none, Sem.run_bind, hr w, Result.andThen_ok, Sem.run_pure]⟩
theorem sl_run2 (base : Option Addr) (n cap a b : Nat) (hab : a ≤ b) (hb : b ≤ cap) (wx : World) : (Instr.sliceAt 25 (.slice base n cap) (some (.int .i64 (a : Int))) (some (.int .i64 (b : Int))) none).run Try.prog wx = .ok (sliced base a b cap 1) wx := by
  have hu : Try.prog.underlying 25 = some (.slice (Try.prog.elem 25)) := by rw [Try.elem25]; exact Try.underlying25
  have h1 := run_slice_lh (P := Try.prog) (w := wx) 25 base n cap hu .i64 .i64 (a : Int) (b : Int) (by omega) (by omega) (by omega)
  have h2 := run_sliceAt_slice (P := Try.prog) (w := wx) 25 (.slice base n cap) (some (.int .i64 (a : Int))) (some (.int .i64 (b : Int))) none hu
  rw [Try.elem25] at h1
  rw [h2, h1]
  refine (congrArg (fun z => Result.andThen z fun s w => Result.ok (sliced base (a : Int).toNat (b : Int).toNat cap s) w) (Try.sizeOf5 wx)).trans ?_
  show Result.ok (sliced base (a : Int).toNat (b : Int).toNat cap 1) wx = _
  rw [Int.toNat_natCast, Int.toNat_natCast]
theorem mid_any (vb : Value) (lb : List Int) (w : World) (hr : RowAt w vb lb) (a M : Nat) (ha : a + M ≤ lb.length) :
    ∃ vs, (∀ wx : World, (Instr.sliceAt 25 vb (some (.int .i64 (a : Int))) (some (.int .i64 ((a : Int) + (M : Int)))) none).run Try.prog wx = .ok vs wx) ∧ ∀ wx, RowAt wx vb lb → RowAt wx vs ((lb.drop a).take M) := by
  have e : ((a : Int) + (M : Int)) = ((a + M : Nat) : Int) := by omega
  rw [e]
  have hl : ((lb.drop a).take M).length = M := by rw [List.length_take, List.length_drop]; omega
  rcases hr with ⟨rfl, rfl⟩ | ⟨ad, c, rfl, rfl⟩ | ⟨h, off, cap, rfl, hc, _⟩
  · obtain rfl : a = 0 := by simp at ha; omega
    obtain rfl : M = 0 := by simp at ha; omega
    exact ⟨_, sl_run2 none 0 0 0 0 (by omega) (by omega), fun wx h => .inl ⟨rfl, by simp⟩⟩
  · obtain rfl : a = 0 := by simp at ha; omega
    obtain rfl : M = 0 := by simp at ha; omega
    refine ⟨_, sl_run2 (some ad) 0 c 0 0 (by omega) (by omega), fun wx h => .inr (.inl ?_)⟩
    unfold sliced
    split
    · exact ⟨_, _, rfl, by simp⟩
    · exact ⟨_, _, rfl, by simp⟩
  · refine ⟨_, sl_run2 (some ⟨h, off, none⟩) lb.length cap a (a + M) (by omega) (by omega), fun wx hx => ?_⟩
    unfold sliced
    by_cases hca : cap = a
    · obtain rfl : M = 0 := by omega
      rw [if_pos hca]
      exact .inr (.inl ⟨_, _, by rw [Nat.add_zero, Nat.sub_self], by simp⟩)
    · rw [if_neg hca]
      rcases hx with ⟨e, _⟩ | ⟨ad, c, e, h0⟩ | ⟨h', off', cap', e, _, h3⟩
      · cases e
      · injection e with e1 e2
        obtain rfl : M = 0 := by omega
        exact .inr (.inl ⟨_, _, by rw [Nat.add_zero, Nat.sub_self]; rfl, by simp⟩)
      · injection e with e1 e2 e3
        injection e1 with e1
        injection e1 with e1 e4
        subst e1 e3 e4
        refine .inr (.inr ⟨h, off + a, cap - a, ?_, by omega, fun i hi => ?_⟩)
        · rw [hl, show a + M - a = M by omega]
          show Value.slice (some (Addr.add ⟨h, off, none⟩ (a * 1))) M (cap - a) = _
          rw [Nat.mul_one]
          cases a <;> rfl
        · rw [hl] at hi
          rw [Nat.add_assoc, h3 (a + i) (by omega)]
          simp [List.getD_eq_getElem?_getD, hi]

def RfPostB (x : Nat) (vB : Value) (why : Int) (a : Nat) (l : List Int) (w : World) (e : Ending) (w' : World) : Prop :=
  ∃ b res, ErrB why a b ∧ e = .returned (.tuple #[res, .agg #[.int .i64 why, .int .i64 b]]) ∧ RfAt w' x vB a why b ∧ (Grown w w' fun k => k = x) ∧ RowAt w' res l ∧ ∀ k, res.ownBlock = some k → w.heap.size ≤ k
theorem row_two {w : World} {g : Nat} {v : Value} {l : List Int} (h : RowAt w v l) (hg : v.ownBlock ≠ some g) (a b : Value) : RowAt ((w.setCell ⟨g, 0, none⟩ a).setCell ⟨g, 1, none⟩ b) v l :=
  (h.grown (Grown.setCell w g 0 a (S := fun k => k = g) fun _ => rfl) (fun k hk _ e => hg (by rw [hk, e]))).grown (Grown.setCell _ g 1 b (S := fun k => k = g) fun _ => rfl) (fun k hk _ e => hg (by rw [hk, e]))

set_option maxRecDepth 8000 in
set_option maxHeartbeats 1000000 in
theorem xraw_bad (x : Nat) (vB : Value) (a : Nat) (why b : Int) (v : Value) (w : World) (h : RfAt w x vB a why b) (hw : why ≠ 0) :
    Calls Try.prog 40 #[ptr x, v] w (RfStuck why b (.slice none 0 0) w) := by
  have HS := Keep.mk (RS.start h)
  have HB := Keep.mk (below_new w (.cells #[.int .i64 0, .int .i64 0] 41))
  have hy1 : (why == 0) = false := by simpa using hw
  clear h
  go_enter Try.func40, Try.ntmps40
  go_wp2_with (first | (refine wpList_new rfl 41 rfl _ Try.new41 ?_; refine Hid.out ?_))
  refine hid_in ?_
  generalize w.alloc (.cells #[.int .i64 0, .int .i64 0] 41) = w1 at *
  have c2 := RfAt.c2 HS.out.rf
  have c3 := RfAt.c3 HS.out.rf
  have d0 := HS.out.d0
  have d1 := HS.out.d1
  have e0 := HS.out.cell.frozen 0
  have e1 := HS.out.cell.frozen 1
  go_wp2_with fail
  go_region
  go_wp2
  exact bodyPost_ret (results_tmp_cell_row Try.results40 _ _ w.heap.size 41 _ (0, 0) _ _ rfl rfl (HS.out.fin (.int .i64 why) (.int .i64 b)).1.drew Try.underlying41 rfl Try.size41) rfl ⟨rfl, (below_two HB.out (Nat.le_refl _) _ _).drew⟩

set_option maxRecDepth 8000 in
set_option maxHeartbeats 4000000 in
theorem xraw_good (x : Nat) (vB : Value) (l : List Int) (a : Nat) (n : Int) (w : World) (h : RfAt w x vB a 0 0) (hR : ∀ wx, (Grown w wx fun k => k = x) → RowAt wx vB l) (ha : a ≤ l.length) (hb : l.length ≤ 140737488355328) (D : List Int) (hD : D = l.drop a) (W : Int) (hW : W = nextW D n) (N : Nat) (hN : N = nextN D n) :
    Calls Try.prog 40 #[ptr x, .int .i64 n] w (RfPostB x vB W (a + N) (D.take N) w) := by
  have HS := Keep.mk (RS.start h)
  have HR := Keep.mk hR
  have hlen : D.length = l.length - a := by rw [hD, List.length_drop]
  obtain ⟨va, vc, hvB⟩ := row_form (hR w (Grown.refl _ _))
  subst hvB
  have Hb := Keep.mk hb
  have Ha := Keep.mk ha
  have hbi : (l.length : Int) ≤ 140737488355328 := by omega
  have hai : (a : Int) ≤ (l.length : Int) := by omega
  by_cases hneg : n < 0
  · have HW : W = 1 := by rw [hW]; unfold nextW; rw [if_pos hneg]
    have HN : N = 0 := by rw [hN]; exact nextN_1 D n (by rw [← hW, HW]; decide)
    subst HN
    rw [HW]
    clear h hR hW hN hlen ha hb hD HW
    go_enter Try.func40, Try.ntmps40
    go_wp2_with (first | (refine wpList_new rfl 41 rfl _ Try.new41 ?_; refine Hid.out ?_))
    refine hid_in ?_
    generalize w.alloc (.cells #[.int .i64 0, .int .i64 0] 41) = w1 at *
    have c2 := RfAt.c2 HS.out.rf
    have k1 := RfAt.c1 HS.out.rf
    go_wp2_with fail
    refine (xwrong_any x _ a 1 w1 HS.out.rf).mono ?_
    rintro e w4 ⟨rfl, hr, hg⟩
    have HS4 := Keep.mk (HS.out.turned hr hg)
    clear hr hg k1
    have d0 := HS4.out.d0
    have d1 := HS4.out.d1
    have e0 := HS4.out.cell.frozen 0
    have e1 := HS4.out.cell.frozen 1
    go_wp2
    have hf := HS4.out.fin (.int .i64 1) (.int .i64 (a : Int))
    exact bodyPost_ret (results_tmp_cell_row Try.results40 _ _ w.heap.size 41 _ (0, 0) _ _ rfl rfl hf.1 Try.underlying41 rfl Try.size41) rfl ⟨_, _, .inr ⟨by decide, rfl⟩, rfl, hf.2.1, hf.2.2, .inl ⟨rfl, by simp⟩, fun k hk => by simp [Value.ownBlock] at hk⟩
  by_cases hbig : (D.length : Int) < n
  · have HW : W = 20 := by rw [hW]; unfold nextW; rw [if_neg hneg, if_pos hbig]
    have HN : N = 0 := by rw [hN]; exact nextN_1 D n (by rw [← hW, HW]; decide)
    subst HN
    rw [HW]
    have hbig' : (l.length : Int) - (a : Int) < n := by omega
    clear h hR hW hN hlen ha hb hD HW
    go_enter Try.func40, Try.ntmps40
    go_wp2_with (first | (refine wpList_new rfl 41 rfl _ Try.new41 ?_; refine Hid.out ?_))
    refine hid_in ?_
    generalize w.alloc (.cells #[.int .i64 0, .int .i64 0] 41) = w1 at *
    have c2 := RfAt.c2 HS.out.rf
    go_wp2_with fail
    refine (xleft_any x _ l.length vc a 0 0 w1 HS.out.rf Ha.out Hb.out).mono ?_
    rintro e w2 ⟨rfl, qd, hw2⟩
    have HS2 := Keep.mk (HS.out.later (w2 := w2) (by rw [hw2]; exact below_drewN _ _))
    clear hw2 c2 HS
    have k1 := RfAt.c1 HS2.out.rf
    go_wp2_with fail
    refine (xwrong_any x _ a 20 w2 HS2.out.rf).mono ?_
    rintro e w4 ⟨rfl, hr, hg⟩
    have HS4 := Keep.mk (HS2.out.turned hr hg)
    clear hr hg k1
    have d0 := HS4.out.d0
    have d1 := HS4.out.d1
    have e0 := HS4.out.cell.frozen 0
    have e1 := HS4.out.cell.frozen 1
    go_wp2
    have hf := HS4.out.fin (.int .i64 20) (.int .i64 (a : Int))
    exact bodyPost_ret (results_tmp_cell_row Try.results40 _ _ w.heap.size 41 _ (0, 0) _ _ rfl rfl hf.1 Try.underlying41 rfl Try.size41) rfl ⟨_, _, .inr ⟨by decide, rfl⟩, rfl, hf.2.1, hf.2.2, .inl ⟨rfl, by simp⟩, fun k hk => by simp [Value.ownBlock] at hk⟩
  · obtain ⟨M, rfl⟩ : ∃ M : Nat, n = (M : Int) := ⟨n.toNat, by omega⟩
    have HW : W = 0 := by rw [hW]; unfold nextW; rw [if_neg hneg, if_neg hbig]
    have HN : N = M := by rw [hN, (nextN_0 D (M : Int) (by rw [← hW, HW])).1]; rfl
    subst HN
    rw [HW, hD]
    have hbig' : ¬ ((l.length : Int) - (a : Int) < (N : Int)) := by omega
    have hMl : a + N ≤ l.length := by omega
    have HMl : Keep (a + N ≤ l.length) := ⟨hMl⟩
    have hMi : (a : Int) + (N : Int) ≤ (l.length : Int) := by omega
    obtain ⟨vs, hsl, hrs⟩ := mid_any _ l w (hR w (Grown.refl _ _)) a N hMl
    have HRs := Keep.mk hrs
    clear hrs hMl
    clear h hR hW hN hlen ha hb hD HW
    go_enter Try.func40, Try.ntmps40
    go_wp2_with (first | (refine wpList_new rfl 41 rfl _ Try.new41 ?_; refine Hid.out ?_))
    refine hid_in ?_
    generalize w.alloc (.cells #[.int .i64 0, .int .i64 0] 41) = w1 at *
    have c2 := RfAt.c2 HS.out.rf
    go_wp2_with fail
    refine (xleft_any x _ l.length vc a 0 0 w1 HS.out.rf Ha.out Hb.out).mono ?_
    rintro e w2 ⟨rfl, qd, hw2⟩
    have HS2 := Keep.mk (HS.out.later (w2 := w2) (by rw [hw2]; exact below_drewN _ _))
    clear hw2 c2 HS
    have c2 := RfAt.c2 HS2.out.rf
    go_wp2_with fail
    obtain ⟨wk, rfl⟩ : ∃ wk, wk = w2 := ⟨_, rfl⟩
    have HE := Keep.mk (Blk.new wk 5 #[])
    have HS4 := Keep.mk (HS2.out.later (below_new wk (.cells #[] 5)))
    have Hxk : Keep (x < wk.heap.size) := ⟨Blk.lt HS2.out.rf⟩
    have Hgk : Keep (w.heap.size < wk.heap.size) := ⟨HS2.out.cell.lt⟩
    generalize wk.alloc (.cells #[] 5) = w4 at *
    have HRv : Keep (RowAt w4.drew vs ((l.drop a).take N)) := ⟨HRs.out _ (HR.out _ HS4.out.gr.drew)⟩
    have g0 : w4.drew.cell? ⟨x, 0, none⟩ = some (Value.slice va l.length vc) := RfAt.c0 HS4.out.rf
    have g1 : w4.drew.cell? ⟨x, 1, none⟩ = some (.int .i64 (a : Int)) := RfAt.c1 HS4.out.rf
    have hwi : IntKind.i64.wrap ((a : Int) + (N : Int)) = (a : Int) + (N : Int) := by rw [IntKind.wrap_i64]; omega
    clear c2 HS2
    refine wp_region_held_drew (S := fun wx => wx.cell? ⟨x, 0, none⟩ = some (Value.slice va l.length vc) ∧ wx.cell? ⟨x, 1, none⟩ = some (.int .i64 (a : Int))) (by kernel_rfl) ⟨g0, g1⟩ (fun hHeld => ?_)
    refine wpAnyH_take (i := 0) (oi := ⟨some 36, Op.move (Operand.tmp 6), 25, _, _, none⟩) (v := .slice (some ⟨wk.heap.size, 0, none⟩) 0 0) rfl (by kernel_rfl) (by kernel_rfl) (by kernel_rfl) (fun _ _ _ h => h) (Or.inl ⟨by rfl, fun w hS => by go_simp⟩) hHeld ?_
    simp only [Act.put, List.setIfInBounds_toArray, List.set_cons_zero, List.set_cons_succ]
    refine wpAnyH_take (i := 1) (oi := ⟨some 37, Op.move (Operand.tmp 0), 81, _, _, none⟩) (v := ptr x) rfl (by kernel_rfl) (by kernel_rfl) (by kernel_rfl) (fun _ _ _ h => h) (Or.inl ⟨by rfl, fun w hS => by go_simp⟩) hHeld ?_
    simp only [Act.put, List.setIfInBounds_toArray, List.set_cons_zero, List.set_cons_succ]
    refine wpAnyH_take (i := 2) (oi := ⟨some 38, Op.nilCheck (Operand.tmp 37), 0, _, _, none⟩) (v := .pointer (some ⟨x, 0, none⟩)) rfl (by kernel_rfl) (by kernel_rfl) (by kernel_rfl) (fun _ _ _ h => h) (Or.inl ⟨by rfl, fun w hS => by go_simp⟩) hHeld ?_
    simp only [Act.put, List.setIfInBounds_toArray, List.set_cons_zero, List.set_cons_succ]
    refine wpAnyH_take (i := 3) (oi := ⟨some 39, Op.fieldAddr 83 (Operand.tmp 38) 0, 0, _, _, none⟩) (v := .pointer (some ⟨x, 0, none⟩)) rfl (by kernel_rfl) (by kernel_rfl) (by kernel_rfl) (fun _ _ _ h => h) (Or.inl ⟨by rfl, fun w hS => by go_simp⟩) hHeld ?_
    simp only [Act.put, List.setIfInBounds_toArray, List.set_cons_zero, List.set_cons_succ]
    refine wpAnyH_take (i := 4) (oi := ⟨some 40, Op.load 25 (Operand.tmp 39), 25, _, _, none⟩) (v := Value.slice va l.length vc) rfl (by kernel_rfl) (by kernel_rfl) (by kernel_rfl) (fun _ _ _ h => h) (Or.inl ⟨by rfl, fun w hS => by (obtain ⟨hS1, hS2⟩ := hS; clear hS2; go_simp)⟩) hHeld ?_
    simp only [Act.put, List.setIfInBounds_toArray, List.set_cons_zero, List.set_cons_succ]
    refine wpAnyH_take (i := 5) (oi := ⟨some 41, Op.move (Operand.tmp 0), 81, _, _, none⟩) (v := ptr x) rfl (by kernel_rfl) (by kernel_rfl) (by kernel_rfl) (fun _ _ _ h => h) (Or.inl ⟨by rfl, fun w hS => by go_simp⟩) hHeld ?_
    simp only [Act.put, List.setIfInBounds_toArray, List.set_cons_zero, List.set_cons_succ]
    refine wpAnyH_take (i := 6) (oi := ⟨some 42, Op.nilCheck (Operand.tmp 41), 0, _, _, none⟩) (v := .pointer (some ⟨x, 0, none⟩)) rfl (by kernel_rfl) (by kernel_rfl) (by kernel_rfl) (fun _ _ _ h => h) (Or.inl ⟨by rfl, fun w hS => by go_simp⟩) hHeld ?_
    simp only [Act.put, List.setIfInBounds_toArray, List.set_cons_zero, List.set_cons_succ]
    refine wpAnyH_take (i := 7) (oi := ⟨some 43, Op.fieldAddr 83 (Operand.tmp 42) 1, 0, _, _, none⟩) (v := .pointer (some ⟨x, 1, none⟩)) rfl (by kernel_rfl) (by kernel_rfl) (by kernel_rfl) (fun _ _ _ h => h) (Or.inl ⟨by rfl, fun w hS => by go_simp⟩) hHeld ?_
    simp only [Act.put, List.setIfInBounds_toArray, List.set_cons_zero, List.set_cons_succ]
    refine wpAnyH_take (i := 8) (oi := ⟨some 44, Op.load 3 (Operand.tmp 43), 3, _, _, none⟩) (v := .int .i64 (a : Int)) rfl (by kernel_rfl) (by kernel_rfl) (by kernel_rfl) (fun _ _ _ h => h) (Or.inl ⟨by rfl, fun w hS => by (obtain ⟨hS1, hS2⟩ := hS; clear hS1; go_simp)⟩) hHeld ?_
    simp only [Act.put, List.setIfInBounds_toArray, List.set_cons_zero, List.set_cons_succ]
    refine wpAnyH_take (i := 9) (oi := ⟨some 45, Op.move (Operand.tmp 0), 81, _, _, none⟩) (v := ptr x) rfl (by kernel_rfl) (by kernel_rfl) (by kernel_rfl) (fun _ _ _ h => h) (Or.inl ⟨by rfl, fun w hS => by go_simp⟩) hHeld ?_
    simp only [Act.put, List.setIfInBounds_toArray, List.set_cons_zero, List.set_cons_succ]
    refine wpAnyH_take (i := 10) (oi := ⟨some 46, Op.nilCheck (Operand.tmp 45), 0, _, _, none⟩) (v := .pointer (some ⟨x, 0, none⟩)) rfl (by kernel_rfl) (by kernel_rfl) (by kernel_rfl) (fun _ _ _ h => h) (Or.inl ⟨by rfl, fun w hS => by go_simp⟩) hHeld ?_
    simp only [Act.put, List.setIfInBounds_toArray, List.set_cons_zero, List.set_cons_succ]
    refine wpAnyH_take (i := 11) (oi := ⟨some 47, Op.fieldAddr 83 (Operand.tmp 46) 1, 0, _, _, none⟩) (v := .pointer (some ⟨x, 1, none⟩)) rfl (by kernel_rfl) (by kernel_rfl) (by kernel_rfl) (fun _ _ _ h => h) (Or.inl ⟨by rfl, fun w hS => by go_simp⟩) hHeld ?_
    simp only [Act.put, List.setIfInBounds_toArray, List.set_cons_zero, List.set_cons_succ]
    refine wpAnyH_take (i := 12) (oi := ⟨some 48, Op.load 3 (Operand.tmp 47), 3, _, _, none⟩) (v := .int .i64 (a : Int)) rfl (by kernel_rfl) (by kernel_rfl) (by kernel_rfl) (fun _ _ _ h => h) (Or.inl ⟨by rfl, fun w hS => by (obtain ⟨hS1, hS2⟩ := hS; clear hS1; go_simp)⟩) hHeld ?_
    simp only [Act.put, List.setIfInBounds_toArray, List.set_cons_zero, List.set_cons_succ]
    refine wpAnyH_take (i := 13) (oi := ⟨some 49, Op.move (Operand.tmp 1), 3, _, _, none⟩) (v := .int .i64 (N : Int)) rfl (by kernel_rfl) (by kernel_rfl) (by kernel_rfl) (fun _ _ _ h => h) (Or.inl ⟨by rfl, fun w hS => by go_simp⟩) hHeld ?_
    simp only [Act.put, List.setIfInBounds_toArray, List.set_cons_zero, List.set_cons_succ]
    refine wpAnyH_take (i := 14) (oi := ⟨some 50, Op.binOp BinOp.add 3 (Operand.tmp 48) (Operand.tmp 49) 3, 3, _, _, none⟩) (v := .int .i64 ((a : Int) + (N : Int))) rfl (by kernel_rfl) (by kernel_rfl) (by kernel_rfl) (fun _ _ _ h => h) (Or.inl ⟨by rfl, fun w hS => by go_simp⟩) hHeld ?_
    simp only [Act.put, List.setIfInBounds_toArray, List.set_cons_zero, List.set_cons_succ]
    refine wpAnyH_take (i := 15) (oi := ⟨some 51, Op.slice 25 (Operand.tmp 40) (some (Operand.tmp 44)) (some (Operand.tmp 50)) none, 25, _, _, none⟩) (v := vs) rfl (by kernel_rfl) (by kernel_rfl) (by kernel_rfl) (fun _ _ _ h => h) (yieldsIf_slice2 (by rfl) 25 (.tmp 40) (.tmp 44) (.tmp 50) rfl (Value.slice va l.length vc) (.int .i64 (a : Int)) (.int .i64 ((a : Int) + (N : Int))) vs rfl rfl rfl hsl) hHeld ?_
    simp only [Act.put, List.setIfInBounds_toArray, List.set_cons_zero, List.set_cons_succ]
    refine wpAnyH_ready (rs := [16]) (by kernel_rfl) (by simp) ?_
    refine AllReadyH.cons (o := ⟨some 52, Op.call { callee := Callee.builtin Builtin.append, args := #[Operand.tmp 36, Operand.tmp 51], argTypes := #[25, 25] }, 25, _, _, none⟩) rfl (fun K hK => ?_) AllReadyH.nil
    rw [if_pos (by rfl)]
    refine wp_app (.tmp 36) (.tmp 51) rfl (.slice (some ⟨wk.heap.size, 0, none⟩) 0 0) vs [] ((l.drop a).take N) rfl rfl (own_empty _ _ HE.out.drew) HRv.out (by rw [List.length_take, List.length_nil]; have := Hb.out; have := HMl.out; omega) ?_
    intro v' w5 hp
    have HP := Keep.mk hp
    have hrx : RfAt w5 x (Value.slice va l.length vc) a 0 0 := HP.out.grown.blk (Blk.drew HS4.out.rf) (by simp [Value.ownBlock]; have := Hxk.out; omega)
    refine hK.out _ _ ⟨hrx.c0, hrx.c1⟩ fun hHeld5 => ?_
    clear hK
    simp only [Act.put, List.setIfInBounds_toArray, List.set_cons_zero, List.set_cons_succ]
    refine wpAnyH_take (i := 17) (oi := ⟨some 6, Op.assign (Operand.tmp 52), 25, _, _, none⟩) (v := v') rfl (by kernel_rfl) (by kernel_rfl) (by kernel_rfl) (fun _ _ _ h => h) (Or.inl ⟨by rfl, fun w hS => by go_simp⟩) hHeld5 ?_
    simp only [Act.put, List.setIfInBounds_toArray, List.set_cons_zero, List.set_cons_succ]
    refine wpAnyH_done (by kernel_rfl) ?_ _
    have HS5 : Keep (RS w x (Value.slice va l.length vc) a 0 0 w5) := ⟨⟨hrx, HP.out.grown.blk (Blk.drew HS4.out.cell) (by simp [Value.ownBlock]; have := Hgk.out; omega), HS4.out.gr.drew.next HP.out.grown (fun k hk e => by simp [Value.ownBlock] at e; have := Hgk.out; omega), HS4.out.lt⟩⟩
    have hO := HP.out.1
    rw [List.nil_append] at hO
    have hnx : v'.ownBlock ≠ some x := fun e => absurd ((Blk.typ hrx).one (hO.typ e)) (by decide)
    have hng : v'.ownBlock ≠ some w.heap.size := fun e => absurd (HS5.out.cell.typ.one (hO.typ e)) (by decide)
    have HOk : Keep (∀ k, v'.ownBlock = some k → w.heap.size ≤ k) := ⟨fun k hk => by
      rcases HP.out.moved with e | ⟨k', e, hk'⟩
      · rw [e] at hk; simp [Value.ownBlock] at hk; have := Hgk.out; omega
      · rw [e] at hk
        injection hk with hk
        have : w4.heap.size ≤ k' := hk'
        have := HS4.out.gr.size
        omega⟩
    have HRo : Keep (RowAt (((w5.setCell ⟨x, 1, none⟩ (.int .i64 ((a : Int) + (N : Int)))).setCell ⟨w.heap.size, 0, none⟩ (.int .i64 0)).setCell ⟨w.heap.size, 1, none⟩ (.int .i64 0)) v' ((l.drop a).take N)) := ⟨row_two (hO.row.grown (Grown.setCell w5 x 1 _ (S := fun k => k = x) fun _ => rfl) (fun k hk _ e => hnx (by rw [hk, e]))) hng _ _⟩
    have hne : x ≠ w.heap.size := by have := HS5.out.lt; omega
    have hne' : w.heap.size ≠ x := fun e => hne e.symm
    have k1 := RfAt.c1 HS5.out.rf
    have f1 := Blk.frozen HS5.out.rf 1
    have d0 := HS5.out.d0
    have d1 := HS5.out.d1
    have e0 := HS5.out.cell.frozen 0
    have e1 := HS5.out.cell.frozen 1
    clear hO hnx hng hrx HP HS4 HE HRv g0 g1 hsl HR HRs hp
    go_wp2
    have hf := (HS5.out.step (a + N)).fin (.int .i64 0) (.int .i64 0)
    exact bodyPost_ret (results_tmp_cell_row Try.results40 _ _ w.heap.size 41 _ (0, 0) _ _ rfl rfl hf.1 Try.underlying41 rfl Try.size41) rfl ⟨_, _, .inl ⟨rfl, rfl⟩, rfl, hf.2.1, hf.2.2, HRo.out, HOk.out⟩
set_option maxRecDepth 8000 in
set_option maxHeartbeats 2000000 in
theorem xbytes_bad (x : Nat) (vB : Value) (a : Nat) (why b most : Int) (w : World) (h : RfAt w x vB a why b) (hw : why ≠ 0) (hm1 : -9223372036854775808 ≤ most) (hm2 : most ≤ 9223372036854775807) :
    Calls Try.prog 41 #[ptr x, .int .i64 most] w (RfStuck why b (.slice none 0 0) w) := by
  have HS := Keep.mk (RS.start h)
  have HB := Keep.mk (below_new w (.cells #[.int .i64 0, .int .i64 0] 41))
  have hy1 : (why == 0) = false := by simpa using hw
  have Hw := Keep.mk hw
  have hwm : Keep (0 ≤ most → IntKind.u64.wrap most = most) := ⟨fun h => by rw [IntKind.wrap_u64]; omega⟩
  clear h hw hm1 hm2
  by_cases hneg : most < 0
  all_goals
    go_enter Try.func41, Try.ntmps41
    go_wp2_with (first | (refine wpList_new rfl 41 rfl _ Try.new41 ?_; refine Hid.out ?_))
    refine hid_in ?_
    generalize w.alloc (.cells #[.int .i64 0, .int .i64 0] 41) = w1 at *
    go_wp2_with fail
    refine (xnum_bad x vB a why b _ w1 HS.out.rf Hw.out).mono ?_
    rintro e w2 ⟨rfl, hb2⟩
    have HS2 := Keep.mk (HS.out.later hb2)
    have HB2 := Keep.mk (HB.out.trans (hb2.mono HB.out.size))
    clear hb2 HS HB
    go_wp2_with (first | (refine wpList_new rfl 41 rfl _ Try.new41 ?_; refine Hid.out ?_))
    refine hid_in ?_
    have HN := Keep.mk (Blk.new w2 41 #[.int .i64 0, .int .i64 0])
    have HA := Keep.mk (below_new w2 (.cells #[.int .i64 0, .int .i64 0] 41))
    generalize w2.alloc (.cells #[.int .i64 0, .int .i64 0] 41) = w3 at *
    have n0 : w3.cell? ⟨w2.heap.size, 0, none⟩ = some (.int .i64 0) := by rw [HN.out.cell]; rfl
    have n1 : w3.cell? ⟨w2.heap.size, 1, none⟩ = some (.int .i64 0) := by rw [HN.out.cell]; rfl
    have m0 := HN.out.frozen 0
    have m1 := HN.out.frozen 1
    go_wp2_with fail
    have HN4 := Keep.mk (show Blk ((w3.setCell ⟨w2.heap.size, 0, none⟩ (.int .i64 why)).setCell ⟨w2.heap.size, 1, none⟩ (.int .i64 b)) w2.heap.size 41 #[.int .i64 why, .int .i64 b] from (HN.out.set 0 _).set 1 _)
    have HB4 := Keep.mk (below_two HA.out (Nat.le_refl _) (.int .i64 why) (.int .i64 b))
    clear n0 n1 m0 m1 HN HA
    generalize (w3.setCell ⟨w2.heap.size, 0, none⟩ (.int .i64 why)).setCell ⟨w2.heap.size, 1, none⟩ (.int .i64 b) = w4 at *
    have HS4 := Keep.mk (HS2.out.later HB4.out)
    have HB5 := Keep.mk (HB2.out.trans (HB4.out.mono HB2.out.size))
    have n0 : w4.cell? ⟨w2.heap.size, 0, none⟩ = some (.int .i64 why) := by rw [HN4.out.cell]; rfl
    have n1 : w4.cell? ⟨w2.heap.size, 1, none⟩ = some (.int .i64 b) := by rw [HN4.out.cell]; rfl
    have d0 := HS4.out.d0
    have d1 := HS4.out.d1
    have e0 := HS4.out.cell.frozen 0
    have e1 := HS4.out.cell.frozen 1
    clear HS2 HB2 HB4 HN4
    go_region
    go_wp2
    exact bodyPost_ret (results_tmp_cell_row Try.results41 _ _ w.heap.size 41 _ (0, 0) _ _ rfl rfl (HS4.out.fin (.int .i64 why) (.int .i64 b)).1.drew Try.underlying41 rfl Try.size41) rfl ⟨rfl, (below_two HB5.out (Nat.le_refl _) _ _).drew⟩
set_option maxRecDepth 8000 in
set_option maxHeartbeats 4000000 in
theorem xbytes_good (x : Nat) (vB : Value) (l : List Int) (a : Nat) (w : World) (h : RfAt w x vB a 0 0) (hR : ∀ wx, (Grown w wx fun k => k = x) → RowAt wx vB l) (ha : a ≤ l.length) (hb : l.length ≤ 140737488355328) (hby : Byts l) (D : List Int) (hD : D = l.drop a) (most : Int) (mm : Nat) (hmm : (mm : Int) = max most 0) (hm2 : mm ≤ 9223372036854775807) (W : Int) (hW : W = (byt D (mm : Int)).1) (N : Nat) (hN : N = (byt D (mm : Int)).2.1) (L : List Int) (hL : L = (byt D (mm : Int)).2.2) :
    Calls Try.prog 41 #[ptr x, .int .i64 most] w (RfPostB x vB W (a + N) L w) := by
  have HS := Keep.mk (RS.start h)
  have HR := Keep.mk hR
  have Hb := Keep.mk hb
  have HD := Keep.mk hD
  have hsh := fstM_shape D (mm : Int)
  have hle := fstM_le D (mm : Int) (by rw [hD]; exact fun c hc => hby c (List.mem_of_mem_drop hc))
  have hby2 := byt_eq D (mm : Int)
  have hDl : D.length = l.length - a := by rw [hD, List.length_drop]
  obtain ⟨X, N1, W1, hM⟩ : ∃ X N1 W1, fstM D (mm : Int) = (X, ((N1 : Nat) : Int), W1) := ⟨(fstM D (mm : Int)).1, (fstM D (mm : Int)).2.1.toNat, (fstM D (mm : Int)).2.2, by rw [Int.toNat_of_nonneg hsh.2.1]⟩
  have hC := fun (w1 : World) (hs : RS w x vB a 0 0 w1) => xnum_good x vB l a mm w1 hs.rf (fun wx hg => hR wx (hs.gr.trans hg)) ha hb hby D hD W1 X N1 hM
  rw [hM] at hsh hle hby2
  simp only [Int.toNat_natCast] at hsh hle hby2
  rw [hby2] at hW hN hL
  have HZ : Keep (W1 = 0 → 0 ≤ X ∧ X ≤ 9223372036854775807 ∧ W = nextW (D.drop N1) X ∧ N = N1 + nextN (D.drop N1) X ∧ L = (D.drop N1).take (nextN (D.drop N1) X) ∧ a + N1 ≤ l.length) := ⟨fun h0 => by
    rw [if_pos h0] at hW hN hL
    have := hle h0
    exact ⟨this.1, by omega, hW, hN, hL, by omega⟩⟩
  have HF : Keep (W1 ≠ 0 → W = W1 ∧ N = 0 ∧ L = [] ∧ N1 = 0) := ⟨fun h0 => by
    rw [if_neg h0] at hW hN hL
    exact ⟨hW, hN, hL, by have := (hsh.1 h0).2; omega⟩⟩
  have Hmm := Keep.mk hmm
  have Hm2 := Keep.mk hm2
  clear h hR ha hb hby hD hsh hle hby2 hDl hM hW hN hL hmm hm2
  by_cases hneg : most < 0
  · have HC : Keep (∀ w1, RS w x vB a 0 0 w1 → Calls Try.prog 70 #[ptr x, .int .u64 0] w1 (RfPost x vB W1 (a + N1) (.int .u64 X) w1)) := ⟨fun w1 hs => by
      have := hC w1 hs
      rw [show (mm : Int) = 0 by have := Hmm.out; omega] at this
      exact this⟩
    clear hC
    go_enter Try.func41, Try.ntmps41
    go_wp2_with (first | (refine wpList_new rfl 41 rfl _ Try.new41 ?_; refine Hid.out ?_))
    refine hid_in ?_
    generalize w.alloc (.cells #[.int .i64 0, .int .i64 0] 41) = w1 at *
    go_wp2_with fail
    refine (HC.out w1 HS.out).mono ?_
    rintro e w2 ⟨b, hE, rfl, hr, hg⟩
    have HS2 := Keep.mk (HS.out.turned hr hg)
    clear hr hg HS HC
    rcases hE with ⟨hW, rfl⟩ | ⟨hW, rfl⟩
    · subst hW
      obtain ⟨hX0, hXm, hWe, hNe, hLe, hN1⟩ := HZ.out rfl
      have hXw : IntKind.i64.wrap X = X := by rw [IntKind.wrap_i64]; omega
      have HNe := Keep.mk hNe
      have HXr := Keep.mk (And.intro hX0 hXm)
      have HRaw : Keep (∀ w4, RS w x vB (a + N1) 0 0 w4 → Calls Try.prog 40 #[ptr x, .int .i64 X] w4 (RfPostB x vB W (a + N) L w4)) := ⟨fun w4 hs => by
        have := xraw_good x vB l (a + N1) X w4 hs.rf (fun wx hg => HR.out wx (hs.gr.trans hg)) hN1 Hb.out (D.drop N1) (by rw [HD.out, List.drop_drop]) W hWe (nextN (D.drop N1) X) rfl
        rw [Nat.add_assoc, ← hNe, ← hLe] at this
        exact this⟩
      clear hX0 hXm hWe hNe hLe hN1 HZ HF
      go_wp2_with (first | (refine wpList_new rfl 41 rfl _ Try.new41 ?_; refine Hid.out ?_))
      refine hid_in ?_
      have HN := Keep.mk (Blk.new w2 41 #[.int .i64 0, .int .i64 0])
      have HA := Keep.mk (below_new w2 (.cells #[.int .i64 0, .int .i64 0] 41))
      generalize w2.alloc (.cells #[.int .i64 0, .int .i64 0] 41) = w3 at *
      have n0 : w3.cell? ⟨w2.heap.size, 0, none⟩ = some (.int .i64 0) := by rw [HN.out.cell]; rfl
      have n1 : w3.cell? ⟨w2.heap.size, 1, none⟩ = some (.int .i64 0) := by rw [HN.out.cell]; rfl
      have m0 := HN.out.frozen 0
      have m1 := HN.out.frozen 1
      go_wp2_with fail
      have HN4 := Keep.mk (show Blk ((w3.setCell ⟨w2.heap.size, 0, none⟩ (.int .i64 0)).setCell ⟨w2.heap.size, 1, none⟩ (.int .i64 0)) w2.heap.size 41 #[.int .i64 0, .int .i64 0] from (HN.out.set 0 _).set 1 _)
      have HB4 := Keep.mk (below_two HA.out (Nat.le_refl _) (.int .i64 0) (.int .i64 0))
      clear n0 n1 m0 m1 HN HA
      generalize (w3.setCell ⟨w2.heap.size, 0, none⟩ (.int .i64 0)).setCell ⟨w2.heap.size, 1, none⟩ (.int .i64 0) = w4 at *
      have HS4 := Keep.mk (HS2.out.later HB4.out)
      have n0 : w4.cell? ⟨w2.heap.size, 0, none⟩ = some (.int .i64 0) := by rw [HN4.out.cell]; rfl
      have n1 : w4.cell? ⟨w2.heap.size, 1, none⟩ = some (.int .i64 0) := by rw [HN4.out.cell]; rfl
      have d0 := HS4.out.d0
      have d1 := HS4.out.d1
      have e0 := HS4.out.cell.frozen 0
      have e1 := HS4.out.cell.frozen 1
      clear HB4 HN4 HS2 n0 n1 d0 d1 e0 e1
      go_wp2_with fail
      refine (HRaw.out w4 HS4.out).mono ?_
      rintro e w5 ⟨b, res, hE, rfl, hr, hg, hrow, hok⟩
      have hls : w.heap.size < w4.heap.size := HS4.out.cell.lt
      have HS5 := Keep.mk (HS4.out.turned hr hg)
      have HRo := Keep.mk (row_two (g := w.heap.size) hrow (fun e => by have := hok _ e; omega) (.int .i64 W) (.int .i64 b))
      have HOk : Keep (∀ k, res.ownBlock = some k → w.heap.size ≤ k) := ⟨fun k hk => by have := hok k hk; omega⟩
      have HE := Keep.mk hE
      clear hr hg hrow hok hE hls HS4 HRaw
      have d0 := HS5.out.d0
      have d1 := HS5.out.d1
      have e0 := HS5.out.cell.frozen 0
      have e1 := HS5.out.cell.frozen 1
      go_wp2
      have hf := HS5.out.fin (.int .i64 W) (.int .i64 b)
      exact bodyPost_ret (results_tmp_cell_row Try.results41 _ _ w.heap.size 41 _ (0, 0) _ _ rfl rfl hf.1 Try.underlying41 rfl Try.size41) rfl ⟨_, _, HE.out, rfl, hf.2.1, hf.2.2, HRo.out, HOk.out⟩
    · obtain ⟨rfl, rfl, rfl, rfl⟩ := HF.out hW
      have Hw0 := Keep.mk hW
      have hy1 : (W == 0) = false := by simpa using hW
      clear HZ HF hW
      simp only [Nat.add_zero] at HS2 ⊢
      go_wp2_with (first | (refine wpList_new rfl 41 rfl _ Try.new41 ?_; refine Hid.out ?_))
      refine hid_in ?_
      have HN := Keep.mk (Blk.new w2 41 #[.int .i64 0, .int .i64 0])
      have HA := Keep.mk (below_new w2 (.cells #[.int .i64 0, .int .i64 0] 41))
      generalize w2.alloc (.cells #[.int .i64 0, .int .i64 0] 41) = w3 at *
      have n0 : w3.cell? ⟨w2.heap.size, 0, none⟩ = some (.int .i64 0) := by rw [HN.out.cell]; rfl
      have n1 : w3.cell? ⟨w2.heap.size, 1, none⟩ = some (.int .i64 0) := by rw [HN.out.cell]; rfl
      have m0 := HN.out.frozen 0
      have m1 := HN.out.frozen 1
      go_wp2_with fail
      have HN4 := Keep.mk (show Blk ((w3.setCell ⟨w2.heap.size, 0, none⟩ (.int .i64 W)).setCell ⟨w2.heap.size, 1, none⟩ (.int .i64 (a : Int))) w2.heap.size 41 #[.int .i64 W, .int .i64 (a : Int)] from (HN.out.set 0 _).set 1 _)
      have HB4 := Keep.mk (below_two HA.out (Nat.le_refl _) (.int .i64 W) (.int .i64 (a : Int)))
      clear n0 n1 m0 m1 HN HA
      generalize (w3.setCell ⟨w2.heap.size, 0, none⟩ (.int .i64 W)).setCell ⟨w2.heap.size, 1, none⟩ (.int .i64 (a : Int)) = w4 at *
      have HS4 := Keep.mk (HS2.out.later HB4.out)
      have n0 : w4.cell? ⟨w2.heap.size, 0, none⟩ = some (.int .i64 W) := by rw [HN4.out.cell]; rfl
      have n1 : w4.cell? ⟨w2.heap.size, 1, none⟩ = some (.int .i64 (a : Int)) := by rw [HN4.out.cell]; rfl
      have d0 := HS4.out.d0
      have d1 := HS4.out.d1
      have e0 := HS4.out.cell.frozen 0
      have e1 := HS4.out.cell.frozen 1
      clear HB4 HN4 HS2
      go_region
      go_wp2
      have hf := HS4.out.fin (.int .i64 W) (.int .i64 (a : Int))
      exact bodyPost_ret (results_tmp_cell_row Try.results41 _ _ w.heap.size 41 _ (0, 0) _ _ rfl rfl hf.1.drew Try.underlying41 rfl Try.size41) rfl ⟨_, _, .inr ⟨Hw0.out, rfl⟩, rfl, (Blk.drew hf.2.1), hf.2.2.drew, .inl ⟨rfl, rfl⟩, fun k hk => by simp [Value.ownBlock] at hk⟩
  · have HC : Keep (∀ w1, RS w x vB a 0 0 w1 → Calls Try.prog 70 #[ptr x, .int .u64 most] w1 (RfPost x vB W1 (a + N1) (.int .u64 X) w1)) := ⟨fun w1 hs => by
      have := hC w1 hs
      rw [show (mm : Int) = most by have := Hmm.out; omega] at this
      exact this⟩
    have hwm : IntKind.u64.wrap most = most := by rw [IntKind.wrap_u64]; have := Hmm.out; have := Hm2.out; omega
    clear hC
    go_enter Try.func41, Try.ntmps41
    go_wp2_with (first | (refine wpList_new rfl 41 rfl _ Try.new41 ?_; refine Hid.out ?_))
    refine hid_in ?_
    generalize w.alloc (.cells #[.int .i64 0, .int .i64 0] 41) = w1 at *
    go_wp2_with fail
    refine (HC.out w1 HS.out).mono ?_
    rintro e w2 ⟨b, hE, rfl, hr, hg⟩
    have HS2 := Keep.mk (HS.out.turned hr hg)
    clear hr hg HS HC
    rcases hE with ⟨hW, rfl⟩ | ⟨hW, rfl⟩
    · subst hW
      obtain ⟨hX0, hXm, hWe, hNe, hLe, hN1⟩ := HZ.out rfl
      have hXw : IntKind.i64.wrap X = X := by rw [IntKind.wrap_i64]; omega
      have HNe := Keep.mk hNe
      have HXr := Keep.mk (And.intro hX0 hXm)
      have HRaw : Keep (∀ w4, RS w x vB (a + N1) 0 0 w4 → Calls Try.prog 40 #[ptr x, .int .i64 X] w4 (RfPostB x vB W (a + N) L w4)) := ⟨fun w4 hs => by
        have := xraw_good x vB l (a + N1) X w4 hs.rf (fun wx hg => HR.out wx (hs.gr.trans hg)) hN1 Hb.out (D.drop N1) (by rw [HD.out, List.drop_drop]) W hWe (nextN (D.drop N1) X) rfl
        rw [Nat.add_assoc, ← hNe, ← hLe] at this
        exact this⟩
      clear hX0 hXm hWe hNe hLe hN1 HZ HF
      go_wp2_with (first | (refine wpList_new rfl 41 rfl _ Try.new41 ?_; refine Hid.out ?_))
      refine hid_in ?_
      have HN := Keep.mk (Blk.new w2 41 #[.int .i64 0, .int .i64 0])
      have HA := Keep.mk (below_new w2 (.cells #[.int .i64 0, .int .i64 0] 41))
      generalize w2.alloc (.cells #[.int .i64 0, .int .i64 0] 41) = w3 at *
      have n0 : w3.cell? ⟨w2.heap.size, 0, none⟩ = some (.int .i64 0) := by rw [HN.out.cell]; rfl
      have n1 : w3.cell? ⟨w2.heap.size, 1, none⟩ = some (.int .i64 0) := by rw [HN.out.cell]; rfl
      have m0 := HN.out.frozen 0
      have m1 := HN.out.frozen 1
      go_wp2_with fail
      have HN4 := Keep.mk (show Blk ((w3.setCell ⟨w2.heap.size, 0, none⟩ (.int .i64 0)).setCell ⟨w2.heap.size, 1, none⟩ (.int .i64 0)) w2.heap.size 41 #[.int .i64 0, .int .i64 0] from (HN.out.set 0 _).set 1 _)
      have HB4 := Keep.mk (below_two HA.out (Nat.le_refl _) (.int .i64 0) (.int .i64 0))
      clear n0 n1 m0 m1 HN HA
      generalize (w3.setCell ⟨w2.heap.size, 0, none⟩ (.int .i64 0)).setCell ⟨w2.heap.size, 1, none⟩ (.int .i64 0) = w4 at *
      have HS4 := Keep.mk (HS2.out.later HB4.out)
      have n0 : w4.cell? ⟨w2.heap.size, 0, none⟩ = some (.int .i64 0) := by rw [HN4.out.cell]; rfl
      have n1 : w4.cell? ⟨w2.heap.size, 1, none⟩ = some (.int .i64 0) := by rw [HN4.out.cell]; rfl
      have d0 := HS4.out.d0
      have d1 := HS4.out.d1
      have e0 := HS4.out.cell.frozen 0
      have e1 := HS4.out.cell.frozen 1
      clear HB4 HN4 HS2 n0 n1 d0 d1 e0 e1
      go_wp2_with fail
      refine (HRaw.out w4 HS4.out).mono ?_
      rintro e w5 ⟨b, res, hE, rfl, hr, hg, hrow, hok⟩
      have hls : w.heap.size < w4.heap.size := HS4.out.cell.lt
      have HS5 := Keep.mk (HS4.out.turned hr hg)
      have HRo := Keep.mk (row_two (g := w.heap.size) hrow (fun e => by have := hok _ e; omega) (.int .i64 W) (.int .i64 b))
      have HOk : Keep (∀ k, res.ownBlock = some k → w.heap.size ≤ k) := ⟨fun k hk => by have := hok k hk; omega⟩
      have HE := Keep.mk hE
      clear hr hg hrow hok hE hls HS4 HRaw
      have d0 := HS5.out.d0
      have d1 := HS5.out.d1
      have e0 := HS5.out.cell.frozen 0
      have e1 := HS5.out.cell.frozen 1
      go_wp2
      have hf := HS5.out.fin (.int .i64 W) (.int .i64 b)
      exact bodyPost_ret (results_tmp_cell_row Try.results41 _ _ w.heap.size 41 _ (0, 0) _ _ rfl rfl hf.1 Try.underlying41 rfl Try.size41) rfl ⟨_, _, HE.out, rfl, hf.2.1, hf.2.2, HRo.out, HOk.out⟩
    · obtain ⟨rfl, rfl, rfl, rfl⟩ := HF.out hW
      have Hw0 := Keep.mk hW
      have hy1 : (W == 0) = false := by simpa using hW
      clear HZ HF hW
      simp only [Nat.add_zero] at HS2 ⊢
      go_wp2_with (first | (refine wpList_new rfl 41 rfl _ Try.new41 ?_; refine Hid.out ?_))
      refine hid_in ?_
      have HN := Keep.mk (Blk.new w2 41 #[.int .i64 0, .int .i64 0])
      have HA := Keep.mk (below_new w2 (.cells #[.int .i64 0, .int .i64 0] 41))
      generalize w2.alloc (.cells #[.int .i64 0, .int .i64 0] 41) = w3 at *
      have n0 : w3.cell? ⟨w2.heap.size, 0, none⟩ = some (.int .i64 0) := by rw [HN.out.cell]; rfl
      have n1 : w3.cell? ⟨w2.heap.size, 1, none⟩ = some (.int .i64 0) := by rw [HN.out.cell]; rfl
      have m0 := HN.out.frozen 0
      have m1 := HN.out.frozen 1
      go_wp2_with fail
      have HN4 := Keep.mk (show Blk ((w3.setCell ⟨w2.heap.size, 0, none⟩ (.int .i64 W)).setCell ⟨w2.heap.size, 1, none⟩ (.int .i64 (a : Int))) w2.heap.size 41 #[.int .i64 W, .int .i64 (a : Int)] from (HN.out.set 0 _).set 1 _)
      have HB4 := Keep.mk (below_two HA.out (Nat.le_refl _) (.int .i64 W) (.int .i64 (a : Int)))
      clear n0 n1 m0 m1 HN HA
      generalize (w3.setCell ⟨w2.heap.size, 0, none⟩ (.int .i64 W)).setCell ⟨w2.heap.size, 1, none⟩ (.int .i64 (a : Int)) = w4 at *
      have HS4 := Keep.mk (HS2.out.later HB4.out)
      have n0 : w4.cell? ⟨w2.heap.size, 0, none⟩ = some (.int .i64 W) := by rw [HN4.out.cell]; rfl
      have n1 : w4.cell? ⟨w2.heap.size, 1, none⟩ = some (.int .i64 (a : Int)) := by rw [HN4.out.cell]; rfl
      have d0 := HS4.out.d0
      have d1 := HS4.out.d1
      have e0 := HS4.out.cell.frozen 0
      have e1 := HS4.out.cell.frozen 1
      clear HB4 HN4 HS2
      go_region
      go_wp2
      have hf := HS4.out.fin (.int .i64 W) (.int .i64 (a : Int))
      exact bodyPost_ret (results_tmp_cell_row Try.results41 _ _ w.heap.size 41 _ (0, 0) _ _ rfl rfl hf.1.drew Try.underlying41 rfl Try.size41) rfl ⟨_, _, .inr ⟨Hw0.out, rfl⟩, rfl, (Blk.drew hf.2.1), hf.2.2.drew, .inl ⟨rfl, rfl⟩, fun k hk => by simp [Value.ownBlock] at hk⟩

set_option maxRecDepth 8000 in
set_option maxHeartbeats 1000000 in
theorem xend_bad (x : Nat) (vB : Value) (a : Nat) (why b : Int) (w : World) (h : RfAt w x vB a why b) (hw : why ≠ 0) :
    Calls Try.prog 44 #[ptr x] w fun e w' => e = .returned (.agg #[.int .i64 why, .int .i64 b]) ∧ Below w.heap.size w w' := by
  have HS := Keep.mk (RS.start h)
  have HB := Keep.mk (below_new w (.cells #[.int .i64 0, .int .i64 0] 41))
  have hy1 : (why == 0) = false := by simpa using hw
  clear h
  go_enter Try.func44, Try.ntmps44
  go_wp2_with (first | (refine wpList_new rfl 41 rfl _ Try.new41 ?_; refine Hid.out ?_))
  refine hid_in ?_
  generalize w.alloc (.cells #[.int .i64 0, .int .i64 0] 41) = w1 at *
  have c2 := RfAt.c2 HS.out.rf
  have c3 := RfAt.c3 HS.out.rf
  have d0 := HS.out.d0
  have d1 := HS.out.d1
  have e0 := HS.out.cell.frozen 0
  have e1 := HS.out.cell.frozen 1
  go_wp2
  exact bodyPost_ret (results_cell1_row Try.results44 _ _ w.heap.size 41 _ (0, 0) _ rfl (HS.out.fin (.int .i64 why) (.int .i64 b)).1 Try.underlying41 rfl Try.size41) rfl ⟨rfl, below_two HB.out (Nat.le_refl _) _ _⟩

set_option maxRecDepth 8000 in
set_option maxHeartbeats 1000000 in
theorem xend_good (x : Nat) (va : Option Addr) (n vc a : Nat) (w : World) (h : RfAt w x (.slice va n vc) a 0 0) (ha : a ≤ n) (hb : n ≤ 140737488355328) (W : Int) (hW : W = if a < n then 23 else 0) :
    Calls Try.prog 44 #[ptr x] w fun e w' => ∃ b, ErrB W a b ∧ e = .returned (.agg #[.int .i64 W, .int .i64 b]) ∧ RfAt w' x (.slice va n vc) a W b ∧ Grown w w' fun k => k = x := by
  have HS := Keep.mk (RS.start h)
  have Ha := Keep.mk ha
  have Hb := Keep.mk hb
  by_cases hlt : a < n
  · obtain rfl : W = 23 := by rw [hW, if_pos hlt]
    have hli : (0 : Int) < (n : Int) - (a : Int) := by omega
    clear h ha hb hW
    go_enter Try.func44, Try.ntmps44
    go_wp2_with (first | (refine wpList_new rfl 41 rfl _ Try.new41 ?_; refine Hid.out ?_))
    refine hid_in ?_
    generalize w.alloc (.cells #[.int .i64 0, .int .i64 0] 41) = w1 at *
    have c2 := RfAt.c2 HS.out.rf
    go_wp2_with fail
    refine (xleft_any x _ n vc a 0 0 w1 HS.out.rf Ha.out Hb.out).mono ?_
    rintro e w2 ⟨rfl, qd, hw2⟩
    have HS2 := Keep.mk (HS.out.later (w2 := w2) (by rw [hw2]; exact below_drewN _ _))
    clear hw2 c2 HS
    have c1 := RfAt.c1 HS2.out.rf
    go_wp2_with fail
    refine (xwrong_any x _ a 23 w2 HS2.out.rf).mono ?_
    rintro e w3 ⟨rfl, hr, hg⟩
    have HS3 := Keep.mk (HS2.out.turned hr hg)
    clear hr hg HS2 c1
    have d0 := HS3.out.d0
    have d1 := HS3.out.d1
    have e0 := HS3.out.cell.frozen 0
    have e1 := HS3.out.cell.frozen 1
    go_wp2
    have hf := HS3.out.fin (.int .i64 23) (.int .i64 (a : Int))
    exact bodyPost_ret (results_cell1_row Try.results44 _ _ w.heap.size 41 _ (0, 0) _ rfl hf.1 Try.underlying41 rfl Try.size41) rfl ⟨_, .inr ⟨by decide, rfl⟩, rfl, hf.2.1, hf.2.2⟩
  · obtain rfl : W = 0 := by rw [hW, if_neg hlt]
    have hli : ¬ (0 : Int) < (n : Int) - (a : Int) := by omega
    clear h ha hb hW
    go_enter Try.func44, Try.ntmps44
    go_wp2_with (first | (refine wpList_new rfl 41 rfl _ Try.new41 ?_; refine Hid.out ?_))
    refine hid_in ?_
    generalize w.alloc (.cells #[.int .i64 0, .int .i64 0] 41) = w1 at *
    have c2 := RfAt.c2 HS.out.rf
    go_wp2_with fail
    refine (xleft_any x _ n vc a 0 0 w1 HS.out.rf Ha.out Hb.out).mono ?_
    rintro e w2 ⟨rfl, qd, hw2⟩
    have HS3 := Keep.mk (HS.out.later (w2 := w2) (by rw [hw2]; exact below_drewN _ _))
    clear hw2 c2 HS
    have d0 := HS3.out.d0
    have d1 := HS3.out.d1
    have e0 := HS3.out.cell.frozen 0
    have e1 := HS3.out.cell.frozen 1
    go_wp2
    have hf := HS3.out.fin (.int .i64 0) (.int .i64 0)
    exact bodyPost_ret (results_cell1_row Try.results44 _ _ w.heap.size 41 _ (0, 0) _ rfl hf.1 Try.underlying41 rfl Try.size41) rfl ⟨_, .inl ⟨rfl, rfl⟩, rfl, hf.2.1, hf.2.2⟩
theorem build84 : (#[.int .u8 0, .int .u8 0, .int .u8 0, .int .u8 0, .int .u8 0, .int .u8 0, .int .u8 0, .int .u8 0, .int .u8 0, .int .u8 0, .int .u8 0, .int .u8 0, .int .u8 0, .int .u8 0, .int .u8 0, .int .u8 0, .int .u8 0, .int .u8 0, .int .u8 0, .int .u8 0, .int .u8 0, .int .u8 0, .int .u8 0, .int .u8 0, .int .u8 0, .int .u8 0, .int .u8 0, .int .u8 0, .int .u8 0, .int .u8 0, .int .u8 0, .int .u8 0] : Array Value) = bytesA 32 fun _ => 0 := by kernel_rfl
theorem copy_next (L : List Int) (t : Nat) : ∀ i, (upd (fun i => if i < t then L.getD i 0 else 0) t (L.getD t 0)) i = (fun i => if i < t + 1 then L.getD i 0 else 0) i := by
  intro i
  unfold upd
  by_cases h : i = t
  · subst h; simp
  · simp only [if_neg h]
    by_cases h2 : i < t
    · rw [if_pos h2, if_pos (by omega)]
    · rw [if_neg h2, if_neg (by omega)]

set_option maxRecDepth 8000 in
set_option maxHeartbeats 1000000 in
theorem xhash_core (x : Nat) (w : World) (W b : Int) (L : List Int) (R : World → Prop)
    (hC : ∀ wB, Below w.heap.size w wB → Calls Try.prog 40 #[ptr x, .int .i64 32] wB (fun e w' => ∃ res, e = .returned (.tuple #[res, .agg #[.int .i64 W, .int .i64 b]]) ∧ R w' ∧ RowAt w' res L ∧ (∀ k, res.ownBlock = some k → wB.heap.size ≤ k) ∧ Grown wB w' fun k => k = x))
    (hRk : ∀ wa wb, R wa → (Grown wa wb fun k => w.heap.size ≤ k) → R wb) (hx : x < w.heap.size) (hL : L.length ≤ 32) :
    Calls Try.prog 71 #[ptr x] w (fun e w' => e = .returned (.tuple #[.agg (bytesA 32 fun i => L.getD i 0), .agg #[.int .i64 W, .int .i64 b]]) ∧ R w' ∧ Grown w w' fun k => k = x) := by
  have HC := Keep.mk hC
  have HK := Keep.mk hRk
  have Hx := Keep.mk hx
  have HL := Keep.mk hL
  have hLi : (L.length : Int) ≤ 32 := by omega
  obtain ⟨n, hn⟩ : ∃ n, Keep (n = w.heap.size) := ⟨_, ⟨rfl⟩⟩
  have hA : Blk (((w.alloc (.cells (bytesA 32 fun _ => 0) 101)).alloc (.cells #[.int .i64 0, .int .i64 0] 41)).alloc (.cells (bytesA 32 fun _ => 0) 101)) w.heap.size 101 (bytesA 32 fun _ => 0) := ((Blk.new w 101 _).alloc _).alloc _
  have hB : Blk (((w.alloc (.cells (bytesA 32 fun _ => 0) 101)).alloc (.cells #[.int .i64 0, .int .i64 0] 41)).alloc (.cells (bytesA 32 fun _ => 0) 101)) (w.heap.size + 1) 41 #[.int .i64 0, .int .i64 0] := by
    have h := (Blk.new (w.alloc (.cells (bytesA 32 fun _ => 0) 101)) 41 #[.int .i64 0, .int .i64 0]).alloc (.cells (bytesA 32 fun _ => 0) 101)
    simp only [World.size_alloc] at h
    exact h
  have hH : Blk (((w.alloc (.cells (bytesA 32 fun _ => 0) 101)).alloc (.cells #[.int .i64 0, .int .i64 0] 41)).alloc (.cells (bytesA 32 fun _ => 0) 101)) (w.heap.size + 2) 101 (bytesA 32 fun _ => 0) := by
    have h := Blk.new ((w.alloc (.cells (bytesA 32 fun _ => 0) 101)).alloc (.cells #[.int .i64 0, .int .i64 0] 41)) 101 (bytesA 32 fun _ => 0)
    simp only [World.size_alloc] at h
    exact h
  have hBl : Below w.heap.size w (((w.alloc (.cells (bytesA 32 fun _ => 0) 101)).alloc (.cells #[.int .i64 0, .int .i64 0] 41)).alloc (.cells (bytesA 32 fun _ => 0) 101)) := (((Below.refl _ _).alloc (Nat.le_refl _) _).alloc (by simp) _).alloc (by simp; omega) _
  have hsz : (((w.alloc (.cells (bytesA 32 fun _ => 0) 101)).alloc (.cells #[.int .i64 0, .int .i64 0] 41)).alloc (.cells (bytesA 32 fun _ => 0) 101)).heap.size = w.heap.size + 3 := by simp
  have HH := Keep.mk hH
  have HA := Keep.mk hA
  have HB := Keep.mk hB
  have HBl := Keep.mk hBl
  have Hsz := Keep.mk hsz
  clear hC hRk hx hL hA hB hH hBl hsz
  go_enter Try.func71, Try.ntmps71
  go_wp2_with (first | (refine wpList_new rfl 101 rfl _ Try.new101 ?_; refine Hid.out ?_) | (refine wpList_new rfl 41 rfl _ Try.new41 ?_; refine Hid.out ?_))
  refine hid_in ?_
  go_wp2_with (first | (refine wpList_new rfl 101 rfl _ Try.new101 ?_; refine Hid.out ?_) | (refine wpList_new rfl 41 rfl _ Try.new41 ?_; refine Hid.out ?_))
  refine hid_in ?_
  refine wpList_store_row rfl 101 (.tmp 4) (.tmp 8) rfl (w.heap.size + 1 + 1) (bytesA 32 fun _ => 0) rfl (congrArg Value.agg build84) 101 (bytesA 32 fun _ => 0) HH.out (Try.size101B _) (bytesA_sizes _ _ _) (bytesA_one _ _) ?_
  have HH2 : Keep (Blk ((((w.alloc (.cells (bytesA 32 fun _ => 0) 101)).alloc (.cells #[.int .i64 0, .int .i64 0] 41)).alloc (.cells (bytesA 32 fun _ => 0) 101)).setRow (w.heap.size + 1 + 1) (bytesA 32 fun _ => 0)) (w.heap.size + 1 + 1) 101 (bytesA 32 fun _ => 0)) := ⟨HH.out.setRow (bytesA 32 fun _ => 0)⟩
  have HA2 := Keep.mk (HA.out.setRow_ne (b' := w.heap.size + 1 + 1) (by omega) (bytesA 32 fun _ => 0))
  have HB2 := Keep.mk (HB.out.setRow_ne (b' := w.heap.size + 1 + 1) (by omega) (bytesA 32 fun _ => 0))
  have HBl2 := Keep.mk (below_setRow (b := w.heap.size + 1 + 1) HBl.out (by omega) (bytesA 32 fun _ => 0))
  have Hsz2 : Keep (w.heap.size + 3 ≤ ((((w.alloc (.cells (bytesA 32 fun _ => 0) 101)).alloc (.cells #[.int .i64 0, .int .i64 0] 41)).alloc (.cells (bytesA 32 fun _ => 0) 101)).setRow (w.heap.size + 1 + 1) (bytesA 32 fun _ => 0)).heap.size) := ⟨by
    have := (Grown.setRow (((w.alloc (.cells (bytesA 32 fun _ => 0) 101)).alloc (.cells #[.int .i64 0, .int .i64 0] 41)).alloc (.cells (bytesA 32 fun _ => 0) 101)) (w.heap.size + 1 + 1) (bytesA 32 fun _ => 0) (S := fun _ => True) fun _ => trivial).size
    have := Hsz.out
    omega⟩
  clear HH HA HB HBl Hsz
  generalize (((w.alloc (.cells (bytesA 32 fun _ => 0) 101)).alloc (.cells #[.int .i64 0, .int .i64 0] 41)).alloc (.cells (bytesA 32 fun _ => 0) 101)).setRow (w.heap.size + 1 + 1) (bytesA 32 fun _ => 0) = wB at *
  simp only [Act.put]
  go_wp2_with fail
  refine (HC.out wB HBl2.out).mono ?_
  rintro e w5 ⟨res, rfl, hr, hrow, hok, hg⟩
  obtain ⟨ra, rc, rfl⟩ := row_form hrow
  have HA5 := Keep.mk (hg.blk HA2.out (by have := Hx.out; omega))
  have HB5 := Keep.mk (hg.blk HB2.out (by have := Hx.out; omega))
  have HH5 := Keep.mk (hg.blk HH2.out (by have := Hx.out; omega))
  have HG5 : Keep (Grown w w5 fun k => k = x) := ⟨(Grown.below HBl2.out).trans hg⟩
  have HR5 := Keep.mk hr
  have HRow := Keep.mk hrow
  have HOk : Keep (∀ k, (Value.slice ra L.length rc).ownBlock = some k → w.heap.size + 3 ≤ k) := ⟨fun k hk => Nat.le_trans Hsz2.out (hok k hk)⟩
  have Hg6 : Keep (w.heap.size + 3 ≤ w5.heap.size) := ⟨Nat.le_trans Hsz2.out hg.size⟩
  clear hr hrow hok hg HA2 HB2 HH2 HBl2 Hsz2 HC
  go_wp2_with (first | (refine wpList_new rfl 41 rfl _ Try.new41 ?_; refine Hid.out ?_))
  refine hid_in ?_
  have HN := Keep.mk (Blk.new w5 41 #[.int .i64 0, .int .i64 0])
  have HAl := Keep.mk (below_new w5 (.cells #[.int .i64 0, .int .i64 0] 41))
  generalize w5.alloc (.cells #[.int .i64 0, .int .i64 0] 41) = w6 at *
  have n0 : w6.cell? ⟨w5.heap.size, 0, none⟩ = some (.int .i64 0) := by rw [HN.out.cell]; rfl
  have n1 : w6.cell? ⟨w5.heap.size, 1, none⟩ = some (.int .i64 0) := by rw [HN.out.cell]; rfl
  have m0 := HN.out.frozen 0
  have m1 := HN.out.frozen 1
  go_wp2_with fail
  have HN4 := Keep.mk (show Blk ((w6.setCell ⟨w5.heap.size, 0, none⟩ (.int .i64 W)).setCell ⟨w5.heap.size, 1, none⟩ (.int .i64 b)) w5.heap.size 41 #[.int .i64 W, .int .i64 b] from (HN.out.set 0 _).set 1 _)
  have HB4 := Keep.mk (below_two HAl.out (Nat.le_refl _) (.int .i64 W) (.int .i64 b))
  clear n0 n1 m0 m1 HN HAl
  generalize (w6.setCell ⟨w5.heap.size, 0, none⟩ (.int .i64 W)).setCell ⟨w5.heap.size, 1, none⟩ (.int .i64 b) = w7 at *
  have HA7 := Keep.mk (HA5.out.below HB4.out HA5.out.lt)
  have HB7 := Keep.mk (HB5.out.below HB4.out HB5.out.lt)
  have HH7 := Keep.mk (HH5.out.below HB4.out HH5.out.lt)
  have HG7 : Keep (Grown w w7 fun k => k = x) := ⟨HG5.out.trans (Grown.below HB4.out)⟩
  have HR7 : Keep (R w7) := ⟨HK.out _ _ HR5.out (Grown.below HB4.out)⟩
  have HRow7 := Keep.mk (HRow.out.below HB4.out)
  obtain ⟨g6, hg6⟩ : ∃ g6, Keep (g6 = w5.heap.size) := ⟨_, ⟨rfl⟩⟩
  rw [← hg6.out] at HN4 Hg6 ⊢
  clear HA5 HB5 HH5 HG5 HR5 HRow HB4 hg6
  go_loopw [7] (fun i wr => ∃ t : Nat, t ≤ L.length ∧ i = .int .i64 (t : Int) ∧ Blk wr (w.heap.size + 1 + 1) 101 (bytesA 32 fun i => if i < t then L.getD i 0 else 0) ∧ Grown w7 wr (fun k => k = w.heap.size + 1 + 1)) (fun i _ => L.length - (intOf i).toNat)
  case atStart => exact ⟨0, by omega, rfl, by rw [show (fun i => if i < 0 then L.getD i 0 else 0) = (fun _ => (0 : Int)) from funext fun i => by simp]; exact HH7.out, Grown.refl _ _⟩
  case round =>
    obtain ⟨t, ht, rfl, hH, hG⟩ := hrel
    have HH9 := Keep.mk hH
    have HG9 := Keep.mk hG
    by_cases hlt : t < L.length
    · have hlt' : (t : Int) < (L.length : Int) := by omega
      have hrw : RowAt wr (Value.slice ra L.length rc) L := HRow7.out.grown hG (fun k hk _ e => by have := HOk.out k hk; omega)
      obtain ⟨gb, go, rfl, hc⟩ : ∃ gb go, ra = some ⟨gb, go, none⟩ ∧ wr.cell? ⟨gb, go + t, none⟩ = some (.int .u8 (L.getD t 0)) := by
        rcases hrw with ⟨_, e⟩ | ⟨_, _, _, e⟩ | ⟨g, o, _, e, _, h3⟩
        · have : L.length = 0 := by rw [e]; rfl
          omega
        · have : L.length = 0 := by rw [e]; rfl
          omega
        · injection e with e1 e2
          exact ⟨g, o, e1, h3 t hlt⟩
      have d0 : wr.cell? ⟨w.heap.size + 1 + 1, t, none⟩ = some (.int .u8 (if t < t then L.getD t 0 else 0)) := by rw [hH.cell, bytesA_get _ _ _ (by have := HL.out; omega)]
      rw [if_neg (Nat.lt_irrefl t)] at d0
      have e0 := hH.frozen t
      have ht32 : (t : Int) < 32 := by omega
      obtain ⟨cv, hcv⟩ : ∃ cv, Keep (cv = L.getD t 0) := ⟨_, ⟨rfl⟩⟩
      rw [← hcv.out] at hc
      clear hH hG hrw
      go_wp2
      go_roundw
      case rel =>
        refine ⟨t + 1, by omega, by go_num, ?_, HG9.out.trans (Grown.setCell wr (w.heap.size + 1 + 1) t _ fun _ => rfl)⟩
        have := HH9.out.set t (.int .u8 cv)
        rw [bytesA_set, hcv.out] at this
        rw [hcv.out, ← show bytesA 32 (upd (fun i => if i < t then L.getD i 0 else 0) t (L.getD t 0)) = bytesA 32 (fun i => if i < t + 1 then L.getD i 0 else 0) from bytesA_congr fun i _ => copy_next L t i]
        exact this
      case measure => simp only [intOf]; omega
    · obtain rfl : t = L.length := by omega
      have hlt' : ¬ ((L.length : Int) < (L.length : Int)) := by omega
      have HA9 := Keep.mk (hG.blk HA7.out (by omega))
      have HB9 := Keep.mk (hG.blk HB7.out (by omega))
      have HC9 := Keep.mk (hG.blk HN4.out (by have := Hg6.out; omega))
      obtain ⟨c, hcd⟩ : ∃ c : Nat → Int, Keep (c = fun i => if i < L.length then L.getD i 0 else 0) := ⟨_, ⟨rfl⟩⟩
      rw [← hcd.out] at HH9
      obtain ⟨ca, hca⟩ : ∃ ca, Keep (ca = bytesA 32 c) := ⟨_, ⟨rfl⟩⟩
      have Hca1 : Keep ((Try.prog.info? 101).map (·.size) = some ca.size) := ⟨by rw [hca.out]; exact Try.size101B c⟩
      have Hca2 : Keep ((bytesA 32 fun _ => 0).size = ca.size) := ⟨by rw [hca.out]; exact bytesA_sizes _ _ _⟩
      have Hca3 : Keep (ca.all (·.oneCell') = true) := ⟨by rw [hca.out]; exact bytesA_one _ _⟩
      rw [← hca.out] at HH9
      have hi84 : (Try.prog.info? 101).map (·.size) = some ca.toList.length := by rw [Array.length_toList]; exact Hca1.out
      clear hH hG
      go_wp2_with fail
      refine wp_region_held_drew (S := fun wx => wx.rangeAt (w.heap.size + 1 + 1) 0 ca.toList ∧ wx.rangeAt g6 0 [.int .i64 W, .int .i64 b]) (by kernel_rfl) ⟨blk_range HH9.out.drew, blk_range HC9.out.drew⟩ (fun hHeld => ?_)
      refine wpAnyH_take (i := 0) (oi := ⟨some 26, Op.load 101 (Operand.tmp 4), 101, _, _, none⟩) (v := .agg ca.toList.toArray) rfl (by kernel_rfl) (by kernel_rfl) (by kernel_rfl) (fun _ _ _ h => h) (yieldsIf_load_mid (by rfl) 101 (.tmp 4) rfl (w.heap.size + 1 + 1) 0 rfl ca.toList _ (fun w hS => hS.1) Try.underlying101 rfl hi84) hHeld ?_
      simp only [Act.put, List.setIfInBounds_toArray, List.set_cons_zero, List.set_cons_succ]
      simp only [Array.toArray_toList]
      refine wpAnyH_take (i := 1) (oi := ⟨some 27, Op.load 41 (Operand.tmp 6), 41, _, _, none⟩) (v := .agg [.int .i64 W, .int .i64 b].toArray) rfl (by kernel_rfl) (by kernel_rfl) (by kernel_rfl) (fun _ _ _ h => h) (yieldsIf_load_mid (by rfl) 41 (.tmp 6) rfl g6 0 rfl [.int .i64 W, .int .i64 b] _ (fun w hS => hS.2) Try.underlying41 rfl Try.size41) hHeld ?_
      simp only [Act.put, List.setIfInBounds_toArray, List.set_cons_zero, List.set_cons_succ]
      refine wpAnyH_ready (rs := [2]) (by kernel_rfl) (by simp) ?_
      refine AllReadyH.cons (o := ⟨none, Op.store 101 (Operand.tmp 2) (Operand.tmp 26), 0, _, _, none⟩) rfl (fun K hK => ?_) AllReadyH.nil
      rw [if_pos (by rfl)]
      refine wp_store_row 101 (.tmp 2) (.tmp 26) rfl w.heap.size ca (by simp [Act.eval]) (by simp [Act.eval]) 101 (bytesA 32 fun _ => 0) HA9.out.drew Hca1.out Hca2.out Hca3.out ?_
      refine hK.out _ _ ⟨blk_range (HH9.out.drew.setRow_ne (by omega) _), blk_range (HC9.out.drew.setRow_ne (by have := Hg6.out; omega) _)⟩ fun hHeld5 => ?_
      clear hK
      simp only [Act.put]
      refine wpAnyH_ready (rs := [3]) (by kernel_rfl) (by simp) ?_
      refine AllReadyH.cons (o := ⟨none, Op.store 41 (Operand.tmp 3) (Operand.tmp 27), 0, _, _, none⟩) rfl (fun K hK => ?_) AllReadyH.nil
      rw [if_pos (by rfl)]
      refine wp_store_row 41 (.tmp 3) (.tmp 27) rfl (w.heap.size + 1) #[.int .i64 W, .int .i64 b] (by simp [Act.eval]) (by simp [Act.eval]) 41 #[.int .i64 0, .int .i64 0] (HB9.out.drew.setRow_ne (by omega) _) Try.size41 rfl (all_oneCell_toArray (cs := [.int .i64 W, .int .i64 b]) (fun v hv => by simp at hv; rcases hv with rfl | rfl <;> rfl)) ?_
      refine hK.out _ _ ⟨blk_range ((HH9.out.drew.setRow_ne (by omega) _).setRow_ne (by omega) _), blk_range ((HC9.out.drew.setRow_ne (by have := Hg6.out; omega) _).setRow_ne (by have := Hg6.out; omega) _)⟩ fun hHeld6 => ?_
      clear hK
      refine wpAnyH_done (by kernel_rfl) ?_ _
      go_wp2
      have hfin := bytesA_congr (n := 32) (c := c) (d := fun i => L.getD i 0) (fun i _ => by
        rw [hcd.out]
        by_cases hi : i < L.length
        · simp only [if_pos hi]
        · simp only [if_neg hi]
          rw [List.getD_eq_getElem?_getD, List.getElem?_eq_none (by omega)]; rfl)
      have hgf : Grown wr ((wr.drew.setRow w.heap.size ca).setRow (w.heap.size + 1) #[.int .i64 W, .int .i64 b]) (fun k => w.heap.size ≤ k) := ((Grown.refl wr _).drew.trans (Grown.setRow _ _ _ fun _ => Nat.le_refl _)).trans (Grown.setRow _ _ _ fun _ => Nat.le_succ _)
      refine bodyPost_ret (results_cell_cell_row Try.results71 _ _ w.heap.size (w.heap.size + 1) 101 41 _ _ (0, 0) (0, 0) _ _ rfl rfl ((HA9.out.drew.setRow _).setRow_ne (by omega) _) ((HB9.out.drew.setRow_ne (by omega) _).setRow _) Try.underlying101 rfl Hca1.out Try.underlying41 rfl Try.size41) rfl ⟨by rw [← hfin, hca.out], ?_, ?_⟩
      · exact HK.out _ _ HR7.out ((HG9.out.mono fun k _ e => by omega).trans hgf)
      · exact (HG7.out.next HG9.out fun k hk e => by omega).next hgf fun k hk e => by omega

theorem errB_one {why : Int} {a : Nat} {b : Int} (h : ErrB why a b) : b = if why = 0 then 0 else (a : Int) := by
  rcases h with ⟨h0, h1⟩ | ⟨h0, h1⟩
  · rw [if_pos h0, h1]
  · rw [if_neg h0, h1]
theorem errB_is (why : Int) (a : Nat) : ErrB why a (if why = 0 then 0 else (a : Int)) := by
  by_cases h : why = 0
  · rw [if_pos h]; exact .inl ⟨h, rfl⟩
  · rw [if_neg h]; exact .inr ⟨h, rfl⟩
theorem xhash_good (x : Nat) (vB : Value) (l : List Int) (a : Nat) (w : World) (h : RfAt w x vB a 0 0) (hR : ∀ wx, (Grown w wx fun k => k = x) → RowAt wx vB l) (ha : a ≤ l.length) (hb : l.length ≤ 140737488355328) (D : List Int) (hD : D = l.drop a) (W : Int) (hW : W = nextW D 32) (N : Nat) (hN : N = nextN D 32) :
    Calls Try.prog 71 #[ptr x] w (RfPost x vB W (a + N) (.agg (bytesA 32 (hrd D W))) w) := by
  have hx : x < w.heap.size := Blk.lt h
  have hN32 : N ≤ 32 := by
    by_cases h0 : W = 0
    · rw [hN, (nextN_0 D 32 (by rw [← hW]; exact h0)).1]; decide
    · rw [hN, nextN_1 D 32 (by rw [← hW]; exact h0)]; decide
  have hc := xhash_core x w W (if W = 0 then 0 else ((a + N : Nat) : Int)) (D.take N) (fun w' => RfAt w' x vB (a + N) W (if W = 0 then 0 else ((a + N : Nat) : Int))) (fun wB hB => by
    refine (xraw_good x vB l a 32 wB (Blk.below h hB hx) (fun wx hg => hR wx ((Grown.below hB).trans hg)) ha hb D hD W hW N hN).mono ?_
    rintro e w' ⟨b, res, hE, rfl, hr, hg, hrow, hok⟩
    have e := errB_one hE
    rw [e] at hr
    exact ⟨res, by rw [e], hr, hrow, hok, hg⟩)
    (fun wa wb h1 hg => hg.blk h1 (by omega)) hx (by rw [List.length_take]; omega)
  refine hc.mono ?_
  rintro e w' ⟨rfl, hr, hg⟩
  refine ⟨_, errB_is W (a + N), ?_, hr, hg⟩
  rw [bytesA_congr (n := 32) (c := fun i => (D.take N).getD i 0) (d := hrd D W) (fun i hi => ?_)]
  unfold hrd
  by_cases h0 : W = 0
  · have : N = 32 := by rw [hN, (nextN_0 D 32 (by rw [← hW]; exact h0)).1]; rfl
    rw [if_pos h0, this]
    simp [List.getD_eq_getElem?_getD, hi]
  · have : N = 0 := by rw [hN, nextN_1 D 32 (by rw [← hW]; exact h0)]
    rw [if_neg h0, this]
    simp
end Go.Proofs.Ytlogkojhcccogaa
namespace Go.Proofs.Ytlogkojhcccogaa
open Go.RowKit
set_option linter.unusedSimpArgs false
set_option linter.unusedVariables false

theorem Try.in38 (w : World) (vs : Array Value) : (callFunc 38 vs).run Try.prog w = .ok (.enter 38 vs) w := by kernel_rfl
theorem Try.in70 (w : World) (vs : Array Value) : (callFunc 70 vs).run Try.prog w = .ok (.enter 70 vs) w := by kernel_rfl
theorem Try.in71 (w : World) (vs : Array Value) : (callFunc 71 vs).run Try.prog w = .ok (.enter 71 vs) w := by kernel_rfl
theorem Try.in40 (w : World) (vs : Array Value) : (callFunc 40 vs).run Try.prog w = .ok (.enter 40 vs) w := by kernel_rfl
theorem Try.in41 (w : World) (vs : Array Value) : (callFunc 41 vs).run Try.prog w = .ok (.enter 41 vs) w := by kernel_rfl
theorem Try.in44 (w : World) (vs : Array Value) : (callFunc 44 vs).run Try.prog w = .ok (.enter 44 vs) w := by kernel_rfl
theorem Try.in37 (w : World) (vs : Array Value) : (callFunc 37 vs).run Try.prog w = .ok (.enter 37 vs) w := by kernel_rfl
set_option maxRecDepth 8000 in
theorem xwrongG (x : Nat) (vB : Value) (a q : Nat) (why : Int) (w : World) (h : RfAt w x vB a 0 0) : Calls Try.prog 38 #[ptr x, .int .i64 why, .int .i64 (q : Int)] w fun e w' => e = .returned (.agg (erA why (q : Int))) ∧ RfAt w' x vB q why (q : Int) ∧ Grown w w' fun k => k = x := by
  have HF : Keep (Blk w x 83 #[vB, .int .i64 (a : Int), .int .i64 0, .int .i64 0]) := ⟨h⟩
  clear h
  go_enter Try.func38, Try.ntmps38
  refine wp_seq_k fun K1 hK1 => ?_
  refine wp_region_list (WL.out ?_)
  refine WL.new (by kernel_rfl) 41 rfl _ Try.new41E ?_
  have HZ := Keep.mk (Blk.new w 41 (erA 0 0))
  have HF1 : Keep (Blk (w.alloc (.cells (erA 0 0) 41)) x 83 #[vB, .int .i64 (a : Int), .int .i64 0, .int .i64 0]) := ⟨HF.out.alloc _⟩
  have HG1 : Keep (Grown w (w.alloc (.cells (erA 0 0) 41)) fun k => k = x) := ⟨Grown.alloc w _ _⟩
  generalize w.alloc (.cells (erA 0 0) 41) = w1 at *
  have c2 := HF1.out.c 2 rfl
  simp only [Act.put, List.setIfInBounds_toArray, List.set_cons_zero, List.set_cons_succ]
  refine WL.nil ?_
  refine hK1 _ _ ?_
  refine wp_seq_k fun K2 hK2 => ?_
  refine wp_seq_k fun K3 hK3 => ?_
  refine wp_region_list (WL.out ?_)
  refine WL.val (by kernel_rfl) (.pointer (some ⟨x, 0, none⟩)) (by go_simp) ?_
  simp only [Act.put, List.setIfInBounds_toArray, List.set_cons_zero, List.set_cons_succ]
  refine WL.val (by kernel_rfl) (.pointer (some ⟨x, 0, none⟩)) (by go_simp) ?_
  simp only [Act.put, List.setIfInBounds_toArray, List.set_cons_zero, List.set_cons_succ]
  refine WL.val (by kernel_rfl) (.pointer (some ⟨x, 2, none⟩)) (by go_simp) ?_
  simp only [Act.put, List.setIfInBounds_toArray, List.set_cons_zero, List.set_cons_succ]
  refine WL.val (by kernel_rfl) (.pointer (some ⟨x, 2, none⟩)) (by go_simp) ?_
  simp only [Act.put, List.setIfInBounds_toArray, List.set_cons_zero, List.set_cons_succ]
  refine WL.val (by kernel_rfl) (.int .i64 0) (by go_simp) ?_
  simp only [Act.put, List.setIfInBounds_toArray, List.set_cons_zero, List.set_cons_succ]
  refine WL.val (by kernel_rfl) (.bool true) (by go_simp) ?_
  simp only [Act.put, List.setIfInBounds_toArray, List.set_cons_zero, List.set_cons_succ]
  refine WL.nil ?_
  refine hK3 _ _ ?_
  refine wp_cond_true rfl ?_
  refine wp_seq_k fun K4 hK4 => ?_
  refine wp_region_list (WL.out ?_)
  refine WL.val (by kernel_rfl) (.pointer (some ⟨x, 0, none⟩)) (by go_simp) ?_
  simp only [Act.put, List.setIfInBounds_toArray, List.set_cons_zero, List.set_cons_succ]
  refine WL.val (by kernel_rfl) (.int .i64 why) (by go_simp) ?_
  simp only [Act.put, List.setIfInBounds_toArray, List.set_cons_zero, List.set_cons_succ]
  refine WL.val (by kernel_rfl) (.int .i64 (q : Int)) (by go_simp) ?_
  simp only [Act.put, List.setIfInBounds_toArray, List.set_cons_zero, List.set_cons_succ]
  refine WL.bld (by kernel_rfl) 41 _ rfl [(0, .int .i64 why), (1, .int .i64 (q : Int))] (by simp [Act.eval]) (erA why (q : Int)) (er_built2 _ _) ?_
  simp only [Act.put, List.setIfInBounds_toArray, List.set_cons_zero, List.set_cons_succ]
  refine WL.val (by kernel_rfl) (.pointer (some ⟨x, 0, none⟩)) (by go_simp) ?_
  simp only [Act.put, List.setIfInBounds_toArray, List.set_cons_zero, List.set_cons_succ]
  refine WL.val (by kernel_rfl) (.pointer (some ⟨x, 2, none⟩)) (by go_simp) ?_
  simp only [Act.put, List.setIfInBounds_toArray, List.set_cons_zero, List.set_cons_succ]
  refine WL.part (by kernel_rfl) 41 (.tmp 18) (.tmp 16) rfl x 2 (erA why (q : Int)) rfl rfl 83 #[vB, .int .i64 (a : Int), .int .i64 0, .int .i64 0] HF1.out (Try.size41B _ _) (show 2 + 2 ≤ 4 by decide) (erA_one _ _) #[vB, .int .i64 (a : Int), .int .i64 why, .int .i64 (q : Int)] (by simp [erA]) ?_
  have HF2 := Keep.mk (HF1.out.setRow #[vB, .int .i64 (a : Int), .int .i64 why, .int .i64 (q : Int)])
  have HZ2 := Keep.mk (HZ.out.setRow_ne (b' := x) (blk_ne HZ.out HF1.out (by decide)) #[vB, .int .i64 (a : Int), .int .i64 why, .int .i64 (q : Int)])
  have HG2 : Keep (Grown w (w1.setRow x #[vB, .int .i64 (a : Int), .int .i64 why, .int .i64 (q : Int)]) fun k => k = x) := ⟨HG1.out.trans (Grown.setRow w1 x _ fun _ => rfl)⟩
  generalize w1.setRow x #[vB, .int .i64 (a : Int), .int .i64 why, .int .i64 (q : Int)] = w2 at *
  have d1 := HF2.out.c 1 rfl
  have e1 := HF2.out.frozen 1
  clear c2
  simp only [Act.put]
  refine WL.nil ?_
  refine hK4 _ _ ?_
  refine wp_region_list (WL.out ?_)
  refine WL.val (by kernel_rfl) (.pointer (some ⟨x, 0, none⟩)) (by go_simp) ?_
  simp only [Act.put, List.setIfInBounds_toArray, List.set_cons_zero, List.set_cons_succ]
  refine WL.val (by kernel_rfl) (.int .i64 (q : Int)) (by go_simp) ?_
  simp only [Act.put, List.setIfInBounds_toArray, List.set_cons_zero, List.set_cons_succ]
  refine WL.val (by kernel_rfl) (.pointer (some ⟨x, 0, none⟩)) (by go_simp) ?_
  simp only [Act.put, List.setIfInBounds_toArray, List.set_cons_zero, List.set_cons_succ]
  refine WL.val (by kernel_rfl) (.pointer (some ⟨x, 1, none⟩)) (by go_simp) ?_
  simp only [Act.put, List.setIfInBounds_toArray, List.set_cons_zero, List.set_cons_succ]
  refine WL.cell (by kernel_rfl) (w2.setCell ⟨x, 1, none⟩ (.int .i64 (q : Int))) (by go_simp) ?_
  have HF3 : Keep (Blk (w2.setCell ⟨x, 1, none⟩ (.int .i64 (q : Int))) x 83 #[vB, .int .i64 (q : Int), .int .i64 why, .int .i64 (q : Int)]) := ⟨HF2.out.set 1 (.int .i64 (q : Int))⟩
  have HZ3 := Keep.mk (HZ2.out.set_ne (b' := x) (j := 1) (blk_ne HZ2.out HF2.out (by decide)) (.int .i64 (q : Int)))
  have HG3 : Keep (Grown w (w2.setCell ⟨x, 1, none⟩ (.int .i64 (q : Int))) fun k => k = x) := ⟨HG2.out.trans (Grown.setCell w2 x 1 _ fun _ => rfl)⟩
  generalize w2.setCell ⟨x, 1, none⟩ (.int .i64 (q : Int)) = w3 at *
  clear d1 e1
  simp only [Act.put]
  refine WL.nil ?_
  refine hK2 _ _ ?_
  refine wp_seq_k fun K5 hK5 => ?_
  refine wp_region_list (WL.out ?_)
  refine WL.val (by kernel_rfl) (.pointer (some ⟨x, 0, none⟩)) (by go_simp) ?_
  simp only [Act.put, List.setIfInBounds_toArray, List.set_cons_zero, List.set_cons_succ]
  refine WL.val (by kernel_rfl) (.pointer (some ⟨x, 0, none⟩)) (by go_simp) ?_
  simp only [Act.put, List.setIfInBounds_toArray, List.set_cons_zero, List.set_cons_succ]
  refine WL.val (by kernel_rfl) (.pointer (some ⟨x, 2, none⟩)) (by go_simp) ?_
  simp only [Act.put, List.setIfInBounds_toArray, List.set_cons_zero, List.set_cons_succ]
  refine WL.midA (by kernel_rfl) 41 (.tmp 25) rfl x 2 rfl (erA why (q : Int)) _ (fun j v hv => by
    rw [HF3.out.cell]
    match j with
    | 0 => simpa [erA] using hv
    | 1 => simpa [erA] using hv
    | j + 2 => simp [erA] at hv) Try.underlying41 rfl (Try.size41B _ _) ?_
  simp only [Act.put, List.setIfInBounds_toArray, List.set_cons_zero, List.set_cons_succ]
  refine WL.storeR (by kernel_rfl) 41 (.tmp 6) (.tmp 26) rfl w.heap.size (erA why (q : Int)) rfl rfl 41 (erA 0 0) HZ3.out (Try.size41B _ _) (erA_sizes _ _ _ _) (erA_one _ _) ?_
  simp only [Act.put]
  refine WL.nil ?_
  refine hK5 _ _ ?_
  refine wp_ret ?_
  try simp only [Exit.then]
  refine bodyPost_ret (v := .agg (erA why (q : Int))) (results_cell1_row Try.results38 _ _ w.heap.size 41 _ (0, 0) _ rfl (HZ3.out.setRow _) Try.underlying41 rfl (Try.size41B _ _)) rfl ?_
  exact ⟨rfl, HF3.out.setRow_ne (fun e => blk_ne HZ3.out HF3.out (by decide) e.symm) _, HG3.out.next (Grown.setRow w3 w.heap.size _ (S := fun k => k = w.heap.size) fun _ => rfl) (fun k hk e => by omega)⟩

def bOf (why : Int) (a : Nat) : Int := if why = 0 then 0 else (a : Int)
theorem bOf_is {why b : Int} {a : Nat} (h : ErrB why a b) : b = bOf why a := errB_one h
theorem bOf_1 {why : Int} (h : why ≠ 0) (a : Nat) : bOf why a = (a : Int) := if_neg h
structure RX (w0 : World) (x : Nat) (vB : Value) (L : List Int) (why : Int) (a : Nat) (w : World) : Prop where
  rf : RfAt w x vB a why (bOf why a)
  le : a ≤ L.length
  hx : w0.heap.size ≤ x
  bel : Below w0.heap.size w0 w
  row : RowAt w0 vB L
  len : L.length ≤ 140737488355328
  byts : Byts L
theorem RX.rows {w0 : World} {x : Nat} {vB : Value} {L : List Int} {why : Int} {a : Nat} {w : World} (h : RX w0 x vB L why a w) : ∀ wx, (Grown w wx fun k => k = x) → RowAt wx vB L := fun wx hw =>
  h.row.below (h.bel.trans (hw.to_below (fun k hk e => by have := h.hx; omega) h.bel.size))
theorem RX.keep {w0 : World} {x : Nat} {vB : Value} {L : List Int} {why : Int} {a : Nat} {w w' : World} {S : Nat → Prop} (h : RX w0 x vB L why a w) (hg : Grown w w' S) (hx : ¬ S x) (hs : ∀ k, k < w0.heap.size → ¬ S k) : RX w0 x vB L why a w' :=
  ⟨hg.blk h.rf hx, h.le, h.hx, h.bel.trans (hg.to_below hs h.bel.size), h.row, h.len, h.byts⟩
theorem RX.below {w0 : World} {x : Nat} {vB : Value} {L : List Int} {why : Int} {a : Nat} {w w' : World} (h : RX w0 x vB L why a w) (hb : Below w.heap.size w w') : RX w0 x vB L why a w' := h.keep (Grown.below (S := fun _ => False) hb) (fun h => h) fun _ _ h => h
theorem RX.step {w0 : World} {x : Nat} {vB : Value} {L : List Int} {why why' b : Int} {a a' : Nat} {w w' : World} (h : RX w0 x vB L why a w) (hr : RfAt w' x vB a' why' b) (hb : b = bOf why' a') (hg : Grown w w' fun k => k = x) (hl : a' ≤ L.length) : RX w0 x vB L why' a' w' :=
  ⟨hb ▸ hr, hl, h.hx, h.bel.trans (hg.to_below (fun k hk e => by have := h.hx; omega) h.bel.size), h.row, h.len, h.byts⟩
theorem RX.good {w0 : World} {x : Nat} {vB : Value} {L : List Int} {a : Nat} {w : World} (h : RX w0 x vB L 0 a w) : RfAt w x vB a 0 0 := h.rf
theorem RX.c1 {w0 : World} {x : Nat} {vB : Value} {L : List Int} {why : Int} {a : Nat} {w : World} (h : RX w0 x vB L why a w) : w.cell? ⟨x, 1, none⟩ = some (.int .i64 (a : Int)) := RfAt.c1 h.rf
theorem RX.c2 {w0 : World} {x : Nat} {vB : Value} {L : List Int} {why : Int} {a : Nat} {w : World} (h : RX w0 x vB L why a w) : w.cell? ⟨x, 2, none⟩ = some (.int .i64 why) := RfAt.c2 h.rf
def RXP (w0 : World) (x : Nat) (vB : Value) (L : List Int) (why : Int) (a : Nat) (res : Value) (w : World) (e : Ending) (w' : World) : Prop :=
  e = .returned (.tuple #[res, .agg (erA why (bOf why a))]) ∧ RX w0 x vB L why a w' ∧ Grown w w' fun k => k = x
def RXB (w0 : World) (x : Nat) (vB : Value) (L : List Int) (why : Int) (a : Nat) (l : List Int) (w : World) (e : Ending) (w' : World) : Prop :=
  ∃ va vc, e = .returned (.tuple #[.slice va l.length vc, .agg (erA why (bOf why a))]) ∧ RX w0 x vB L why a w' ∧ (Grown w w' fun k => k = x) ∧ RowAt w' (.slice va l.length vc) l ∧ ∀ k, (Value.slice va l.length vc).ownBlock = some k → w.heap.size ≤ k
theorem rxp {w0 : World} {x : Nat} {vB : Value} {L : List Int} {why : Int} {a a' : Nat} {w w' : World} {W : Int} {res : Value} {e : Ending} (h : RX w0 x vB L why a w) (hl : a' ≤ L.length) (hp : RfPost x vB W a' res w e w') : RXP w0 x vB L W a' res w e w' := by
  obtain ⟨b, h1, rfl, h2, h3⟩ := hp
  have hb := bOf_is h1
  subst hb
  exact ⟨rfl, h.step h2 rfl h3 hl, h3⟩
theorem rxb {w0 : World} {x : Nat} {vB : Value} {L : List Int} {why : Int} {a a' : Nat} {w w' : World} {W : Int} {l : List Int} {e : Ending} (h : RX w0 x vB L why a w) (hl : a' ≤ L.length) (hp : RfPostB x vB W a' l w e w') : RXB w0 x vB L W a' l w e w' := by
  obtain ⟨b, res, h1, rfl, h2, h3, h4, h5⟩ := hp
  have hb := bOf_is h1
  subst hb
  obtain ⟨va, vc, rfl⟩ := row_form h4
  exact ⟨va, vc, rfl, h.step h2 rfl h3 hl, h3, h4, h5⟩
theorem add_le' {L : List Int} {a N : Nat} (ha : a ≤ L.length) (h : N ≤ (L.drop a).length) : a + N ≤ L.length := by rw [List.length_drop] at h; omega
def stRaw (L : List Int) (n why : Int) (a : Nat) : Int × Nat × List Int :=
  if why = 0 then (nextW (L.drop a) n, a + nextN (L.drop a) n, (L.drop a).take (nextN (L.drop a) n)) else (why, a, [])
def stByt (L : List Int) (mm why : Int) (a : Nat) : Int × Nat × List Int :=
  if why = 0 then ((byt (L.drop a) mm).1, a + (byt (L.drop a) mm).2.1, (byt (L.drop a) mm).2.2) else (why, a, [])
theorem rstuck {w0 : World} {x : Nat} {vB : Value} {L : List Int} {why : Int} {a : Nat} {w w' : World} {e : Ending} (h : RX w0 x vB L why a w) (hp : RfStuck why (bOf why a) (.slice none 0 0) w e w') : RXB w0 x vB L why a [] w e w' := by
  obtain ⟨rfl, hb⟩ := hp
  exact ⟨none, 0, rfl, h.below hb, Grown.below hb, .inl ⟨rfl, rfl⟩, fun k hk => by simp [Value.ownBlock] at hk⟩
theorem xraw_x {w0 : World} {x : Nat} {vB : Value} {L : List Int} {why : Int} {a : Nat} {w : World} (n : Int) (h : RX w0 x vB L why a w) :
    Calls Try.prog 40 #[ptr x, .int .i64 n] w (RXB w0 x vB L (stRaw L n why a).1 (stRaw L n why a).2.1 (stRaw L n why a).2.2 w) := by
  unfold stRaw
  by_cases hw : why = 0
  · subst hw
    simp only [if_pos]
    exact (xraw_good x vB L a n w h.good h.rows h.le h.len _ rfl _ rfl _ rfl).mono fun e w' hp => rxb h (add_le' h.le (nextN_le _ _)) hp
  · simp only [if_neg hw]
    exact (xraw_bad x vB a why _ (.int .i64 n) w h.rf hw).mono fun e w' hp => rstuck h hp
theorem xbytes_x {w0 : World} {x : Nat} {vB : Value} {L : List Int} {why : Int} {a : Nat} {w : World} (mm : Nat) (hm : mm ≤ 9223372036854775807) (h : RX w0 x vB L why a w) :
    Calls Try.prog 41 #[ptr x, .int .i64 (mm : Int)] w (RXB w0 x vB L (stByt L mm why a).1 (stByt L mm why a).2.1 (stByt L mm why a).2.2 w) := by
  unfold stByt
  by_cases hw : why = 0
  · subst hw
    simp only [if_pos]
    exact (xbytes_good x vB L a w h.good h.rows h.le h.len h.byts _ rfl (mm : Int) mm (by omega) hm _ rfl _ rfl _ rfl).mono fun e w' hp => rxb h (add_le' h.le (byt_n _ _)) hp
  · simp only [if_neg hw]
    exact (xbytes_bad x vB a why _ (mm : Int) w h.rf hw (by omega) (by omega)).mono fun e w' hp => rstuck h hp
theorem xnum_x {w0 : World} {x : Nat} {vB : Value} {L : List Int} {a : Nat} {w : World} (most : Nat) (h : RX w0 x vB L 0 a w) (W X : Int) (N : Nat) (hM : fstM (L.drop a) most = (X, (N : Int), W)) :
    Calls Try.prog 70 #[ptr x, .int .u64 (most : Int)] w (RXP w0 x vB L W (a + N) (.int .u64 X) w) :=
  (xnum_good x vB L a most w h.good h.rows h.le h.len h.byts _ rfl W X N hM).mono fun e w' hp => rxp h (add_le' h.le (by have := (fstM_shape (L.drop a) most).2.2; rw [hM] at this; simp only at this; omega)) hp
theorem xhash_x {w0 : World} {x : Nat} {vB : Value} {L : List Int} {a : Nat} {w : World} (h : RX w0 x vB L 0 a w) :
    Calls Try.prog 71 #[ptr x] w (RXP w0 x vB L (nextW (L.drop a) 32) (a + nextN (L.drop a) 32) (.agg (bytesA 32 (hrd (L.drop a) (nextW (L.drop a) 32)))) w) :=
  (xhash_good x vB L a w h.good h.rows h.le h.len _ rfl _ rfl _ rfl).mono fun e w' hp => rxp h (add_le' h.le (nextN_le _ _)) hp
theorem xbyte_x {w0 : World} {x : Nat} {vB : Value} {L : List Int} {a : Nat} {w : World} (h : RX w0 x vB L 0 a w) (c : Int) (hc : c = if nextW (L.drop a) 1 = 0 then (L.drop a).getD 0 0 else 0) :
    Calls Try.prog 37 #[ptr x] w (RXP w0 x vB L (nextW (L.drop a) 1) (a + nextN (L.drop a) 1) (.int .u8 c) w) :=
  (xbyte_good x vB L a w h.good h.rows h.le h.len _ rfl _ rfl _ rfl c hc).mono fun e w' hp => rxp h (add_le' h.le (nextN_le _ _)) hp
theorem xwrong_x {w0 : World} {x : Nat} {vB : Value} {L : List Int} {a : Nat} {w : World} (q : Nat) (why : Int) (hw : why ≠ 0) (hq : q ≤ L.length) (h : RX w0 x vB L 0 a w) :
    Calls Try.prog 38 #[ptr x, .int .i64 why, .int .i64 (q : Int)] w fun e w' => e = .returned (.agg (erA why (q : Int))) ∧ RX w0 x vB L why q w' ∧ Grown w w' fun k => k = x :=
  (xwrongG x vB a q why w h.good).mono fun e w' hp => ⟨hp.1, h.step hp.2.1 (bOf_1 hw q).symm hp.2.2 hq, hp.2.2⟩
def stEnd (L : List Int) (why : Int) (a : Nat) : Int := if why = 0 then (if a < L.length then 23 else 0) else why
theorem Try.in39 (w : World) (vs : Array Value) : (callFunc 39 vs).run Try.prog w = .ok (.enter 39 vs) w := by kernel_rfl
theorem Try.in72 (w : World) (vs : Array Value) : (callFunc 72 vs).run Try.prog w = .ok (.enter 72 vs) w := by kernel_rfl
theorem RX.blk {w0 : World} {x : Nat} {vB : Value} {L : List Int} {why : Int} {a : Nat} {w : World} (h : RX w0 x vB L why a w) : Blk w x 83 #[vB, .int .i64 (a : Int), .int .i64 why, .int .i64 (bOf why a)] := h.rf
def ReadX (w0 : World) (x : Nat) (vB : Value) (L : List Int) (R : Int × Nat × List Hs) (w : World) (e : Ending) (w' : World) : Prop :=
  ∃ v, e = .returned v ∧ RX w0 x vB L R.1 R.2.1 w' ∧ (Grown w w' fun k => k = x) ∧ ∃ P, OwnH w' v P ∧ (∀ k, v.ownBlock = some k → w.heap.size ≤ k) ∧ (R.1 = 0 → P = R.2.2)
theorem refCompare_B (x y : Hs) (w : World) : Calls Try.prog 72 #[.agg (bytesA 32 x.f), .agg (bytesA 32 y.f)] w fun e w' => e = .returned (.int .i64 (Sh.cf x y)) ∧ Below w.heap.size w w' :=
  (Sh.refCompare_any x y w).mono fun e w' h => ⟨h.1, by obtain ⟨q, os, rfl⟩ := h.2; exact Sh.grown_below w q os⟩
theorem hrd_bad (D : List Int) (W : Int) (h : W ≠ 0) : bytesA 32 (hrd D W) = bytesA 32 (hs []).f := bytesA_congr fun i hi => by
  rw [hs_f _ (fun c hc => by simp at hc) i hi]; unfold hrd; rw [if_neg h]; rfl
set_option maxRecDepth 8000 in
set_option maxHeartbeats 4000000 in
theorem xread_any (w0 : World) (x : Nat) (vB : Value) (L : List Int) (a most : Nat) (hm : most ≤ 4096) (w : World) (h : RX w0 x vB L 0 a w) :
    Calls Try.prog 39 #[ptr x, .int .u64 (most : Int)] w (ReadX w0 x vB L (hsR L most a) w) := by
  have HX := Keep.mk h
  have JG0 := Keep.mk h.bel.size
  have hrg := fst_rng (L.drop a) (h.byts.drop a) most (by omega)
  have hsh := fstM_shape (L.drop a) most
  obtain ⟨R, hR⟩ : ∃ R, R = hsR L most a := ⟨_, rfl⟩
  rw [← hR]
  unfold hsR at hR
  obtain ⟨M, hM⟩ : ∃ M, M = fstM (L.drop a) most := ⟨_, rfl⟩
  rw [← hM] at hR hrg hsh
  obtain ⟨c, n0, W⟩ := M
  simp only at hR hrg hsh
  obtain ⟨N, rfl⟩ : ∃ N : Nat, n0 = (N : Int) := ⟨n0.toNat, by omega⟩
  obtain ⟨n, rfl⟩ : ∃ n : Nat, c = (n : Int) := ⟨c.toNat, by omega⟩
  rw [Int.toNat_natCast, Int.toNat_natCast] at hR
  have HM0 : Keep (fstM (L.drop a) most = ((n : Int), (N : Int), W)) := ⟨hM.symm⟩
  have hn4 : n ≤ 4096 := by omega
  have HR0 : Keep ((W = 0 ∧ R = getH L (n - 0) [] (a + N)) ∨ (W ≠ 0 ∧ R.1 = W ∧ R.2.1 = a + N)) := ⟨by
    by_cases hW : W = 0
    · exact .inl ⟨hW, by rw [hR, if_neg (by simp [hW])]; rfl⟩
    · exact .inr ⟨hW, by rw [hR, if_pos hW], by rw [hR, if_pos hW]⟩⟩
  clear h hR hM hrg hsh
  go_enter Try.func39, Try.ntmps39
  refine wp_seq_k fun K1 hK1 => ?_
  refine wp_region_list (WL.out ?_)
  refine WL.val (by kernel_rfl) (.slice none 0 0) (by go_simp) ?_
  simp only [Act.put, List.setIfInBounds_toArray, List.set_cons_zero, List.set_cons_succ]
  refine WL.nil ?_
  refine hK1 _ _ ?_
  refine wp_seq_k fun K2 hK2 => ?_
  refine wp_region_list (WL.out ?_)
  refine WL.val (by kernel_rfl) (.pointer (some ⟨x, 0, none⟩)) (by go_simp) ?_
  simp only [Act.put, List.setIfInBounds_toArray, List.set_cons_zero, List.set_cons_succ]
  refine WL.val (by kernel_rfl) (.int .u64 (most : Int)) (by go_simp) ?_
  simp only [Act.put, List.setIfInBounds_toArray, List.set_cons_zero, List.set_cons_succ]
  refine WL.callF (by kernel_rfl) 70 _ _ rfl Try.in70 #[ptr x, .int .u64 (most : Int)] (by simp [Act.eval]) ?_
  refine (xnum_x most HX.out W (n : Int) N HM0.out).mono ?_
  rintro e w1 ⟨rfl, h1, h2⟩
  refine ⟨_, rfl, ?_⟩
  have HX1 := Keep.mk h1
  have HG1 := Keep.mk h2
  clear h1 h2
  simp only [Act.put, List.setIfInBounds_toArray, List.set_cons_zero, List.set_cons_succ]
  refine WL.val (by kernel_rfl) (.tuple #[.int .u64 (n : Int), .agg (erA W (bOf W (a + N)))]) (by go_simp) ?_
  simp only [Act.put, List.setIfInBounds_toArray, List.set_cons_zero, List.set_cons_succ]
  refine WL.val (by kernel_rfl) (.int .u64 (n : Int)) (by go_simp) ?_
  simp only [Act.put, List.setIfInBounds_toArray, List.set_cons_zero, List.set_cons_succ]
  refine WL.val (by kernel_rfl) (.agg (erA W (bOf W (a + N)))) (by go_simp) ?_
  simp only [Act.put, List.setIfInBounds_toArray, List.set_cons_zero, List.set_cons_succ]
  refine WL.new (by kernel_rfl) 41 rfl _ Try.new41E ?_
  have HNg6 := Keep.mk (Blk.new w1 41 (erA 0 0))
  have BNg6 := Keep.mk (below_new w1 (.cells (erA 0 0) 41))
  generalize w1.alloc (.cells (erA 0 0) 41) = w2a at *
  simp only [Act.put, List.setIfInBounds_toArray, List.set_cons_zero, List.set_cons_succ]
  refine WL.val (by kernel_rfl) (.int .u64 (n : Int)) (by go_simp) ?_
  simp only [Act.put, List.setIfInBounds_toArray, List.set_cons_zero, List.set_cons_succ]
  refine WL.storeR (by kernel_rfl) 41 (.tmp 6) (.tmp 17) rfl w1.heap.size (erA W (bOf W (a + N))) rfl rfl 41 (erA 0 0) HNg6.out (Try.size41B _ _) (erA_sizes _ _ _ _) (erA_one _ _) ?_
  have HMg6 := Keep.mk (HNg6.out.setRow (erA W (bOf W (a + N))))
  have Bmg6 : Keep (Below w1.heap.size w1 (w2a.setRow w1.heap.size (erA W (bOf W (a + N))))) := ⟨below_setRow BNg6.out (Nat.le_refl _) _⟩
  generalize w2a.setRow w1.heap.size (erA W (bOf W (a + N))) = w2 at *
  generalize w1.heap.size = g6 at HMg6 ⊢
  clear HNg6 BNg6
  have HX2 := Keep.mk (HX1.out.below Bmg6.out)
  have HG2 : Keep (Grown w w2 fun k => k = x) := ⟨HG1.out.trans (Grown.below Bmg6.out)⟩
  clear HX1 HG1 Bmg6 HMg6
  simp only [Act.put]
  refine WL.nil ?_
  refine hK2 _ _ ?_
  refine wp_seq_k fun K3 hK3 => ?_
  refine wp_region_list (WL.out ?_)
  refine WL.bs (by kernel_rfl) 23 0 _ rfl #[] (by simp) _ _ (bsHE w2) ?_
  have HO3 := Keep.mk (ownH_empty w2)
  have HN3 : Keep (∀ k, (Value.slice (some ⟨w2.heap.size, 0, none⟩) 0 0).ownBlock = some k → w.heap.size ≤ k) := ⟨fun k hk => by simp [Value.ownBlock] at hk; have := HG2.out.size; omega⟩
  have HX3 := Keep.mk (HX2.out.below (below_new w2 (.cells #[] 101)))
  have HG3 : Keep (Grown w (w2.alloc (.cells #[] 101)) fun k => k = x) := ⟨HG2.out.trans (Grown.below (below_new w2 _))⟩
  generalize w2.alloc (.cells #[] 101) = w3 at *
  generalize Value.slice (some ⟨w2.heap.size, 0, none⟩) 0 0 = v3 at *
  clear HX2 HG2
  simp only [Act.put, List.setIfInBounds_toArray, List.set_cons_zero, List.set_cons_succ]
  refine WL.val (by kernel_rfl) (v3) (by go_simp) ?_
  simp only [Act.put, List.setIfInBounds_toArray, List.set_cons_zero, List.set_cons_succ]
  refine WL.nil ?_
  refine hK3 _ _ ?_
  refine wp_seq_k fun K4 hK4 => ?_
  refine wp_seq_k fun K5 hK5 => ?_
  refine wp_region_list (WL.out ?_)
  refine WL.val (by kernel_rfl) (.int .i64 0) (by go_simp) ?_
  simp only [Act.put, List.setIfInBounds_toArray, List.set_cons_zero, List.set_cons_succ]
  refine WL.nil ?_
  refine hK5 _ _ ?_
  refine wp_block ?_
  refine wp_loop (fun ac wr => ∃ (t : Nat) (u7 u9 u10 u11 u19 u20 u21 u22 u23 u24 u25 u26 u27 u28 u29 u30 u31 u32 u33 u34 u35 u36 u37 u38 u39 u40 u41 u42 u43 u44 u45 u46 u47 u48 u49 u50 u51 u52 u53 u54 u55 u56 u57 u58 u59 u60 u61 u62 u63 u64 u65 : Value), ac = { tmps := #[.pointer (some ⟨x, 0, none⟩), .int .u64 (most : Int), undef, undef, .slice none 0 0, .int .u64 (n : Int), .pointer (some ⟨g6, 0, none⟩), u7, .int .i64 (t : Int), u9, u10, u11, .tuple #[.int .u64 (n : Int), .agg (erA W (bOf W (a + N)))], .pointer (some ⟨x, 0, none⟩), .int .u64 (most : Int), .tuple #[.int .u64 (n : Int), .agg (erA W (bOf W (a + N)))], .int .u64 (n : Int), .agg (erA W (bOf W (a + N))), v3, u19, u20, u21, u22, u23, u24, u25, u26, u27, u28, u29, u30, u31, u32, u33, u34, u35, u36, u37, u38, u39, u40, u41, u42, u43, u44, u45, u46, u47, u48, u49, u50, u51, u52, u53, u54, u55, u56, u57, u58, u59, u60, u61, u62, u63, u64, u65, undef], defers := [] } ∧ t ≤ n ∧ ∃ why at_ l, RX w0 x vB L why at_ wr ∧ (Grown w wr fun k => k = x) ∧ OwnH wr u7 l ∧ (∀ k, u7.ownBlock = some k → w.heap.size ≤ k) ∧ l.length = t ∧ ((why = 0 ∧ R = getH L (n - t) l at_) ∨ (why ≠ 0 ∧ R.1 = why ∧ R.2.1 = at_))) (fun a _ => n - (intOf (a.tmps.getD 8 undef)).toNat) ⟨0, v3, undef, undef, undef, undef, undef, undef, undef, undef, undef, undef, undef, undef, undef, undef, undef, undef, undef, undef, undef, undef, undef, undef, undef, undef, undef, undef, undef, undef, undef, undef, undef, undef, undef, undef, undef, undef, undef, undef, undef, undef, undef, undef, undef, undef, undef, undef, undef, undef, undef, undef, rfl, by omega, W, a + N, [], HX3.out, HG3.out, HO3.out, HN3.out, rfl, HR0.out⟩ ?_
  rintro ac wr ⟨t, u7, u9, u10, u11, u19, u20, u21, u22, u23, u24, u25, u26, u27, u28, u29, u30, u31, u32, u33, u34, u35, u36, u37, u38, u39, u40, u41, u42, u43, u44, u45, u46, u47, u48, u49, u50, u51, u52, u53, u54, u55, u56, u57, u58, u59, u60, u61, u62, u63, u64, u65, rfl, ht, why, at_, l, hX, hG, hO, hN, hLn, hC⟩
  obtain ⟨oa, oc, rfl⟩ := hO.sl
  have JX := Keep.mk hX
  have JG := Keep.mk hG
  have JO := Keep.mk hO
  have JN := Keep.mk hN
  have JL := Keep.mk hLn
  have JC := Keep.mk hC
  clear hX hG hO hN hLn hC
  have hcv : IntKind.i64.wrap (n : Int) = (n : Int) := by rw [IntKind.wrap_i64]; omega
  by_cases hlt : t < n
  · have hlt' : (t : Int) < (n : Int) := by omega
    have hwt : IntKind.i64.wrap ((t : Int) + 1) = (t : Int) + 1 := by rw [IntKind.wrap_i64]; omega
    have k2 := JX.out.c2
    by_cases hy : why = 0
    · subst hy
      have k1 := JX.out.c1
      have JR : Keep (R = getH L (n - t) l at_) := ⟨by rcases JC.out with ⟨_, h⟩ | ⟨h, _⟩; exact h; exact absurd rfl h⟩
      clear JC
      obtain ⟨k1', hk1⟩ : ∃ k1, n - t = k1 + 1 := ⟨n - t - 1, by omega⟩
      rw [hk1, getH] at JR
      have hk2 : k1' = n - (t + 1) := by omega
      rw [hk2] at JR
      clear hk1 hk2 k1'
      have HC0 := Keep.mk (xhash_x JX.out)
      obtain ⟨D, hD⟩ : ∃ D, D = L.drop at_ := ⟨_, rfl⟩
      rw [← hD] at HC0 JR
      have HBD : Keep (Byts D) := ⟨by rw [hD]; exact JX.out.byts.drop at_⟩
      obtain ⟨W1, hW1⟩ : ∃ W1, Keep (W1 = nextW D 32) := ⟨_, ⟨rfl⟩⟩
      obtain ⟨N1, hN1⟩ : ∃ N1, Keep (N1 = nextN D 32) := ⟨_, ⟨rfl⟩⟩
      rw [← hW1.out, ← hN1.out] at HC0 JR
      obtain ⟨hh, hhh⟩ : ∃ hh : Hs, Keep (hh = if W1 = 0 then hs (D.take 32) else hs []) := ⟨_, ⟨rfl⟩⟩
      have heq : bytesA 32 (hrd D W1) = bytesA 32 hh.f := by
        by_cases h : W1 = 0
        · rw [hhh.out, if_pos h, h]; exact hrd_hs D (by rw [← hW1.out]; exact h) HBD.out
        · rw [hhh.out, if_neg h]; exact hrd_bad D W1 h
      rw [heq] at HC0
      obtain ⟨b1, hb1⟩ : ∃ b1, Keep (b1 = bOf W1 (at_ + N1)) := ⟨_, ⟨rfl⟩⟩
      unfold RXP at HC0
      rw [← hb1.out] at HC0
      clear hD heq
      refine wp_seq_k fun K6 hK6 => ?_
      refine wp_seq_k fun K7 hK7 => ?_
      refine wp_region_list (WL.out ?_)
      refine WL.val (by kernel_rfl) (.int .i64 (t : Int)) (by go_simp) ?_
      simp only [Act.put, List.setIfInBounds_toArray, List.set_cons_zero, List.set_cons_succ]
      refine WL.val (by kernel_rfl) (.int .u64 (n : Int)) (by go_simp) ?_
      simp only [Act.put, List.setIfInBounds_toArray, List.set_cons_zero, List.set_cons_succ]
      refine WL.val (by kernel_rfl) (.int .i64 (n : Int)) (by go_simp) ?_
      simp only [Act.put, List.setIfInBounds_toArray, List.set_cons_zero, List.set_cons_succ]
      refine WL.val (by kernel_rfl) (.bool true) (by go_simp) ?_
      simp only [Act.put, List.setIfInBounds_toArray, List.set_cons_zero, List.set_cons_succ]
      refine WL.val (by kernel_rfl) (.bool true) (by go_simp) ?_
      simp only [Act.put, List.setIfInBounds_toArray, List.set_cons_zero, List.set_cons_succ]
      refine WL.val (by kernel_rfl) (.pointer (some ⟨x, 0, none⟩)) (by go_simp) ?_
      simp only [Act.put, List.setIfInBounds_toArray, List.set_cons_zero, List.set_cons_succ]
      refine WL.val (by kernel_rfl) (.pointer (some ⟨x, 0, none⟩)) (by go_simp) ?_
      simp only [Act.put, List.setIfInBounds_toArray, List.set_cons_zero, List.set_cons_succ]
      refine WL.val (by kernel_rfl) (.pointer (some ⟨x, 2, none⟩)) (by go_simp) ?_
      simp only [Act.put, List.setIfInBounds_toArray, List.set_cons_zero, List.set_cons_succ]
      refine WL.val (by kernel_rfl) (.pointer (some ⟨x, 2, none⟩)) (by go_simp) ?_
      simp only [Act.put, List.setIfInBounds_toArray, List.set_cons_zero, List.set_cons_succ]
      refine WL.val (by kernel_rfl) (.int .i64 0) (by go_simp) ?_
      simp only [Act.put, List.setIfInBounds_toArray, List.set_cons_zero, List.set_cons_succ]
      refine WL.val (by kernel_rfl) (.bool true) (by go_simp) ?_
      simp only [Act.put, List.setIfInBounds_toArray, List.set_cons_zero, List.set_cons_succ]
      refine WL.val (by kernel_rfl) (.bool true) (by go_simp) ?_
      simp only [Act.put, List.setIfInBounds_toArray, List.set_cons_zero, List.set_cons_succ]
      refine WL.nil ?_
      refine hK7 _ _ ?_
      refine wp_cond_true rfl ?_
      refine wp_skip ?_
      refine hK6 _ _ ?_
      refine wp_seq_k fun K8 hK8 => ?_
      refine wp_block ?_
      refine wp_seq_k fun K9 hK9 => ?_
      refine wp_region_list (WL.out ?_)
      refine WL.val (by kernel_rfl) (.pointer (some ⟨x, 0, none⟩)) (by go_simp) ?_
      simp only [Act.put, List.setIfInBounds_toArray, List.set_cons_zero, List.set_cons_succ]
      refine WL.val (by kernel_rfl) (.pointer (some ⟨x, 0, none⟩)) (by go_simp) ?_
      simp only [Act.put, List.setIfInBounds_toArray, List.set_cons_zero, List.set_cons_succ]
      refine WL.val (by kernel_rfl) (.pointer (some ⟨x, 1, none⟩)) (by go_simp) ?_
      simp only [Act.put, List.setIfInBounds_toArray, List.set_cons_zero, List.set_cons_succ]
      refine WL.val (by kernel_rfl) (.int .i64 (at_ : Int)) (by go_simp) ?_
      simp only [Act.put, List.setIfInBounds_toArray, List.set_cons_zero, List.set_cons_succ]
      refine WL.val (by kernel_rfl) (.int .i64 (at_ : Int)) (by go_simp) ?_
      simp only [Act.put, List.setIfInBounds_toArray, List.set_cons_zero, List.set_cons_succ]
      refine WL.nil ?_
      refine hK9 _ _ ?_
      refine wp_seq_k fun K10 hK10 => ?_
      refine wp_region_list (WL.out ?_)
      refine WL.val (by kernel_rfl) (.pointer (some ⟨x, 0, none⟩)) (by go_simp) ?_
      simp only [Act.put, List.setIfInBounds_toArray, List.set_cons_zero, List.set_cons_succ]
      refine WL.callF (by kernel_rfl) 71 _ _ rfl Try.in71 #[ptr x] (by simp [Act.eval]) ?_
      refine (HC0.out).mono ?_
      rintro e w1 ⟨rfl, h1, h2⟩
      refine ⟨_, rfl, ?_⟩
      have HX4 := Keep.mk h1
      have HG4 : Keep (Grown w w1 fun k => k = x) := ⟨JG.out.trans h2⟩
      have HO4 := Keep.mk (JO.out.grown h2 (fun k hk e => JO.out.ne JX.out.blk (by decide) (e ▸ hk)))
      clear h1 h2 k1 k2 HC0
      simp only [Act.put, List.setIfInBounds_toArray, List.set_cons_zero, List.set_cons_succ]
      refine WL.val (by kernel_rfl) (.tuple #[.agg (bytesA 32 hh.f), .agg (erA W1 b1)]) (by go_simp) ?_
      simp only [Act.put, List.setIfInBounds_toArray, List.set_cons_zero, List.set_cons_succ]
      refine WL.val (by kernel_rfl) (.agg (bytesA 32 hh.f)) (by go_simp) ?_
      simp only [Act.put, List.setIfInBounds_toArray, List.set_cons_zero, List.set_cons_succ]
      refine WL.val (by kernel_rfl) (.agg (erA W1 b1)) (by go_simp) ?_
      simp only [Act.put, List.setIfInBounds_toArray, List.set_cons_zero, List.set_cons_succ]
      refine WL.new (by kernel_rfl) 101 rfl _ Try.new101 ?_
      have HA1 := Keep.mk (Blk.new w1 101 (bytesA 32 fun _ => 0))
      have BA1 := Keep.mk (below_new w1 (.cells (bytesA 32 fun _ => 0) 101))
      generalize w1.alloc (.cells (bytesA 32 fun _ => 0) 101) = w4 at *
      obtain ⟨g10, hg10⟩ : ∃ g, Keep (g = w1.heap.size) := ⟨_, ⟨rfl⟩⟩
      rw [← hg10.out] at HA1 ⊢
      simp only [Act.put, List.setIfInBounds_toArray, List.set_cons_zero, List.set_cons_succ]
      refine WL.new (by kernel_rfl) 41 rfl _ Try.new41E ?_
      have HE1 := Keep.mk (Blk.new w4 41 (erA 0 0))
      have HA2 := Keep.mk (HA1.out.alloc (.cells (erA 0 0) 41))
      have BA2 : Keep (Below w1.heap.size w1 (w4.alloc (.cells (erA 0 0) 41))) := ⟨BA1.out.trans ((below_new w4 _).mono BA1.out.size)⟩
      generalize w4.alloc (.cells (erA 0 0) 41) = w5 at *
      obtain ⟨g11, hg11⟩ : ∃ g, Keep (g = w4.heap.size) := ⟨_, ⟨rfl⟩⟩
      rw [← hg11.out] at HE1 ⊢
      clear HA1
      simp only [Act.put, List.setIfInBounds_toArray, List.set_cons_zero, List.set_cons_succ]
      refine WL.storeR (by kernel_rfl) 101 (.tmp 10) (.tmp 40) rfl g10 (bytesA 32 hh.f) rfl rfl 101 (bytesA 32 fun _ => 0) HA2.out (Try.size101B _) (bytesA_sizes _ _ _) (bytesA_one _ _) ?_
      have HA3 := Keep.mk (HA2.out.setRow (bytesA 32 hh.f))
      have HE3 := Keep.mk (HE1.out.setRow_ne (b' := g10) (blk_ne HE1.out HA2.out (by decide)) (bytesA 32 hh.f))
      have BA3 := Keep.mk (below_setRow BA2.out (b := g10) (by rw [hg10.out]; exact Nat.le_refl _) (bytesA 32 hh.f))
      generalize w5.setRow g10 (bytesA 32 hh.f) = w6 at *
      clear HA2 HE1 BA2
      simp only [Act.put]
      refine WL.storeR (by kernel_rfl) 41 (.tmp 11) (.tmp 41) rfl g11 (erA W1 b1) rfl rfl 41 (erA 0 0) HE3.out (Try.size41B _ _) (erA_sizes _ _ _ _) (erA_one _ _) ?_
      have HE := Keep.mk (HE3.out.setRow (erA W1 b1))
      have HA := Keep.mk (HA3.out.setRow_ne (b' := g11) (blk_ne HA3.out HE3.out (by decide)) (erA W1 b1))
      have BA := Keep.mk (below_setRow BA3.out (b := g11) (by rw [hg11.out]; exact BA1.out.size) (erA W1 b1))
      generalize w6.setRow g11 (erA W1 b1) = w8 at *
      have HX8 := Keep.mk (HX4.out.below BA.out)
      have HG8 : Keep (Grown w w8 fun k => k = x) := ⟨HG4.out.trans (Grown.below BA.out)⟩
      have HO8 := Keep.mk (HO4.out.below BA.out)
      clear HA3 HE3 BA3 BA1 HX4 HG4 HO4 hg10 hg11 BA
      simp only [Act.put]
      refine WL.nil ?_
      refine hK10 _ _ ?_
      refine wp_seq_k fun K11 hK11 => ?_
      refine wp_seq_k fun K12 hK12 => ?_
      have hD0 : Below w8.heap.size w8 w8.drew := (Below.refl _ _).drew
      have HE0 : Keep (∀ wx, Below w8.heap.size w8 wx → wx.cell? ⟨g11, 0, none⟩ = some (.int .i64 W1)) := ⟨fun wx hb => (HE.out.below hb HE.out.lt).c 0 rfl⟩
      by_cases hE1 : W1 = 0
      · have hHH := hhh.out
        rw [if_pos hE1] at hHH
        have JR2 := Keep.mk JR.out
        rw [if_neg (by simp [hE1]), ← hHH] at JR2
        have hNN : N1 = 32 := by rw [hN1.out, (nextN_0 D 32 (by rw [← hW1.out]; exact hE1)).1]; rfl
        rw [hE1, hNN] at HX8
        clear hHH
        by_cases ht0 : 0 < t
        · have ht0' : (0 : Int) < (t : Int) := by omega
          have hlt1 : l.length - 1 < l.length := by have := JL.out; omega
          obtain ⟨gL, cL, hsl, hel⟩ := HO8.out.elem (l.length - 1) hlt1
          injection hsl with hs1 hs2 hs3
          subst hs1 hs3
          obtain ⟨hp, hhp⟩ : ∃ hp, hp = l.getD (l.length - 1) default := ⟨_, rfl⟩
          rw [← hhp] at hel
          have Hcc : Keep (l.getD (l.length - 1) default = hp) := ⟨hhp.symm⟩
          have hsub : IntKind.i64.wrap ((t : Int) - 1) = ((l.length - 1 : Nat) : Int) := by rw [IntKind.wrap_i64]; have := JL.out; omega
          have HS0 : Keep (∀ wx, Below w8.heap.size w8 wx → wx.cell? ⟨g11, 0, none⟩ = some (.int .i64 W1) ∧ wx.rangeAt gL ((l.length - 1) * 32) (Sh.encH hp) ∧ wx.rangeAt g10 0 (bytesA 32 hh.f).toList) := ⟨fun wx hb => ⟨HE0.out wx hb, hel wx (fun cs h => h.below hb h.lt), blk_range (HA.out.below hb HA.out.lt)⟩⟩
          clear hel hhp
          by_cases hcf : 0 ≤ Sh.cf hp hh
          · skip
            have JR3 := Keep.mk (JR2.out.trans (if_pos ⟨by have := JL.out; omega, by rw [Hcc.out]; exact hcf⟩))
            refine wp_region_held_drew (S := fun wx => wx.cell? ⟨g11, 0, none⟩ = some (.int .i64 W1) ∧ wx.rangeAt gL ((l.length - 1) * 32) (Sh.encH hp) ∧ wx.rangeAt g10 0 (bytesA 32 hh.f).toList) (by kernel_rfl) (HS0.out _ hD0) (fun hHeld => ?_)
            refine wpAnyH_take (i := 0) (oi := ⟨some 42, Op.fieldAddr 41 (Operand.tmp 11) 0, 0, _, _, none⟩) (v := .pointer (some ⟨g11, 0, none⟩)) rfl (by kernel_rfl) (by kernel_rfl) (by kernel_rfl) (fun _ _ _ h => h) (Or.inl ⟨by rfl, fun w hS => by obtain ⟨hS1, hS2, hS3⟩ := hS; go_simp⟩) hHeld ?_
            simp only [Act.put, List.setIfInBounds_toArray, List.set_cons_zero, List.set_cons_succ]
            refine wpAnyH_take (i := 1) (oi := ⟨some 43, Op.load 3 (Operand.tmp 42), 3, _, _, none⟩) (v := .int .i64 W1) rfl (by kernel_rfl) (by kernel_rfl) (by kernel_rfl) (fun _ _ _ h => h) (Or.inl ⟨by rfl, fun w hS => by obtain ⟨hS1, hS2, hS3⟩ := hS; go_simp⟩) hHeld ?_
            simp only [Act.put, List.setIfInBounds_toArray, List.set_cons_zero, List.set_cons_succ]
            refine wpAnyH_take (i := 2) (oi := ⟨some 44, Op.binOp BinOp.eql 3 (Operand.tmp 43) (Operand.const (Value.int IntKind.i64 0)) 3, 4, _, _, none⟩) (v := .bool true) rfl (by kernel_rfl) (by kernel_rfl) (by kernel_rfl) (fun _ _ _ h => h) (Or.inl ⟨by rfl, fun w hS => by obtain ⟨hS1, hS2, hS3⟩ := hS; go_simp⟩) hHeld ?_
            simp only [Act.put, List.setIfInBounds_toArray, List.set_cons_zero, List.set_cons_succ]
            refine wpAnyH_take (i := 3) (oi := ⟨some 45, Op.move (Operand.tmp 44), 4, _, _, none⟩) (v := .bool true) rfl (by kernel_rfl) (by kernel_rfl) (by kernel_rfl) (fun _ _ _ h => h) (Or.inl ⟨by rfl, fun w hS => by obtain ⟨hS1, hS2, hS3⟩ := hS; go_simp⟩) hHeld ?_
            simp only [Act.put, List.setIfInBounds_toArray, List.set_cons_zero, List.set_cons_succ]
            refine wpAnyH_take (i := 4) (oi := ⟨some 46, Op.move (Operand.tmp 8), 3, _, _, some (3, true)⟩) (v := .int .i64 (t : Int)) rfl (by kernel_rfl) (by kernel_rfl) (by kernel_rfl) (fun _ _ _ h => h) (Or.inl ⟨by rfl, fun w hS => by obtain ⟨hS1, hS2, hS3⟩ := hS; go_simp⟩) hHeld ?_
            simp only [Act.put, List.setIfInBounds_toArray, List.set_cons_zero, List.set_cons_succ]
            refine wpAnyH_take (i := 5) (oi := ⟨some 47, Op.binOp BinOp.gtr 3 (Operand.tmp 46) (Operand.const (Value.int IntKind.i64 0)) 3, 4, _, _, some (3, true)⟩) (v := .bool true) rfl (by kernel_rfl) (by kernel_rfl) (by kernel_rfl) (fun _ _ _ h => h) (Or.inl ⟨by rfl, fun w hS => by obtain ⟨hS1, hS2, hS3⟩ := hS; go_simp⟩) hHeld ?_
            simp only [Act.put, List.setIfInBounds_toArray, List.set_cons_zero, List.set_cons_succ]
            refine wpAnyH_take (i := 6) (oi := ⟨some 48, Op.pick (Operand.tmp 45) (Operand.tmp 47) (Operand.const (Value.bool false)), 4, _, _, none⟩) (v := .bool true) rfl (by kernel_rfl) (by kernel_rfl) (by kernel_rfl) (fun _ _ _ h => h) (Or.inl ⟨by rfl, fun w hS => by obtain ⟨hS1, hS2, hS3⟩ := hS; go_simp⟩) hHeld ?_
            simp only [Act.put, List.setIfInBounds_toArray, List.set_cons_zero, List.set_cons_succ]
            refine wpAnyH_take (i := 7) (oi := ⟨some 49, Op.move (Operand.tmp 48), 4, _, _, none⟩) (v := .bool true) rfl (by kernel_rfl) (by kernel_rfl) (by kernel_rfl) (fun _ _ _ h => h) (Or.inl ⟨by rfl, fun w hS => by obtain ⟨hS1, hS2, hS3⟩ := hS; go_simp⟩) hHeld ?_
            simp only [Act.put, List.setIfInBounds_toArray, List.set_cons_zero, List.set_cons_succ]
            refine wpAnyH_take (i := 8) (oi := ⟨some 50, Op.move (Operand.tmp 7), 23, _, _, some (7, true)⟩) (v := .slice (some ⟨gL, 0, none⟩) l.length oc) rfl (by kernel_rfl) (by kernel_rfl) (by kernel_rfl) (fun _ _ _ h => h) (Or.inl ⟨by rfl, fun w hS => by obtain ⟨hS1, hS2, hS3⟩ := hS; go_simp⟩) hHeld ?_
            simp only [Act.put, List.setIfInBounds_toArray, List.set_cons_zero, List.set_cons_succ]
            refine wpAnyH_take (i := 9) (oi := ⟨some 51, Op.move (Operand.tmp 8), 3, _, _, some (7, true)⟩) (v := .int .i64 (t : Int)) rfl (by kernel_rfl) (by kernel_rfl) (by kernel_rfl) (fun _ _ _ h => h) (Or.inl ⟨by rfl, fun w hS => by obtain ⟨hS1, hS2, hS3⟩ := hS; go_simp⟩) hHeld ?_
            simp only [Act.put, List.setIfInBounds_toArray, List.set_cons_zero, List.set_cons_succ]
            refine wpAnyH_take (i := 10) (oi := ⟨some 52, Op.binOp BinOp.sub 3 (Operand.tmp 51) (Operand.const (Value.int IntKind.i64 1)) 3, 3, _, _, some (7, true)⟩) (v := .int .i64 ((l.length - 1 : Nat) : Int)) rfl (by kernel_rfl) (by kernel_rfl) (by kernel_rfl) (fun _ _ _ h => h) (Or.inl ⟨by rfl, fun w hS => by obtain ⟨hS1, hS2, hS3⟩ := hS; go_simp⟩) hHeld ?_
            simp only [Act.put, List.setIfInBounds_toArray, List.set_cons_zero, List.set_cons_succ]
            refine wpAnyH_take (i := 11) (oi := ⟨some 53, Op.indexAddr 23 (Operand.tmp 50) (Operand.tmp 52), 0, _, _, some (7, true)⟩) (v := .pointer (some ⟨gL, (l.length - 1) * 32, none⟩)) rfl (by kernel_rfl) (by kernel_rfl) (by kernel_rfl) (fun _ _ _ h => h) (Or.inl ⟨by rfl, fun w hS => by go_simp; try (intro h; omega)⟩) hHeld ?_
            simp only [Act.put, List.setIfInBounds_toArray, List.set_cons_zero, List.set_cons_succ]
            refine wpAnyH_take (i := 12) (oi := ⟨some 54, Op.load 101 (Operand.tmp 53), 101, _, _, some (7, true)⟩) (v := .agg (Sh.encH hp).toArray) rfl (by kernel_rfl) (by kernel_rfl) (by kernel_rfl) (fun _ _ _ h => h) (yieldsIf_load_mid (by rfl) 101 (Operand.tmp 53) rfl gL ((l.length - 1) * 32) rfl (Sh.encH hp) _ (fun w hS => hS.2.1) Try.underlying101 rfl (Try.sizeHL hp)) hHeld ?_
            simp only [Act.put, List.setIfInBounds_toArray, List.set_cons_zero, List.set_cons_succ]
            refine wpAnyH_take (i := 13) (oi := ⟨some 55, Op.load 101 (Operand.tmp 10), 101, _, _, some (7, true)⟩) (v := .agg (bytesA 32 hh.f).toList.toArray) rfl (by kernel_rfl) (by kernel_rfl) (by kernel_rfl) (fun _ _ _ h => h) (yieldsIf_load_mid (by rfl) 101 (Operand.tmp 10) rfl g10 0 rfl (bytesA 32 hh.f).toList _ (fun w hS => hS.2.2) Try.underlying101 rfl (by rw [Array.length_toList]; exact Try.size101B _)) hHeld ?_
            simp only [Act.put, List.setIfInBounds_toArray, List.set_cons_zero, List.set_cons_succ]
            refine wpAnyH_ready (rs := [14]) (by kernel_rfl) (by simp) ?_
            refine AllReadyH.cons (o := ⟨some 56, Op.call { callee := Callee.value (Operand.func 72), args := #[Operand.tmp 54, Operand.tmp 55], argTypes := #[101, 101] }, 3, _, _, some (7, true)⟩) rfl (fun K hK => ?_) AllReadyH.nil
            rw [if_pos (by rfl)]
            refine wp_callF 72 _ _ rfl Try.in72 #[.agg (bytesA 32 hp.f), .agg (bytesA 32 hh.f)] (by simp [Act.eval, enc_load]) (fun vz wz => vz = .int .i64 (Sh.cf hp hh) ∧ Below w8.heap.size w8 wz) ?_ ?_
            · refine (refCompare_B hp hh w8.drew).mono ?_
              rintro e wz ⟨rfl, h⟩
              exact ⟨_, rfl, rfl, hD0.trans (h.mono hD0.size)⟩
            rintro vz w9 ⟨rfl, h9⟩
            have HB9 := Keep.mk h9
            clear h9
            refine hK.out _ _ (HS0.out _ HB9.out) fun hHeld2 => ?_
            clear hK
            simp only [Act.put, List.setIfInBounds_toArray, List.set_cons_zero, List.set_cons_succ]
            refine wpAnyH_take (i := 15) (oi := ⟨some 57, Op.binOp BinOp.geq 3 (Operand.tmp 56) (Operand.const (Value.int IntKind.i64 0)) 3, 4, _, _, some (7, true)⟩) (v := .bool true) rfl (by kernel_rfl) (by kernel_rfl) (by kernel_rfl) (fun _ _ _ h => h) (Or.inl ⟨by rfl, fun w hS => by obtain ⟨hS1, hS2, hS3⟩ := hS; go_simp⟩) hHeld2 ?_
            simp only [Act.put, List.setIfInBounds_toArray, List.set_cons_zero, List.set_cons_succ]
            refine wpAnyH_take (i := 16) (oi := ⟨some 58, Op.pick (Operand.tmp 49) (Operand.tmp 57) (Operand.const (Value.bool false)), 4, _, _, none⟩) (v := .bool true) rfl (by kernel_rfl) (by kernel_rfl) (by kernel_rfl) (fun _ _ _ h => h) (Or.inl ⟨by rfl, fun w hS => by obtain ⟨hS1, hS2, hS3⟩ := hS; go_simp⟩) hHeld2 ?_
            simp only [Act.put, List.setIfInBounds_toArray, List.set_cons_zero, List.set_cons_succ]
            refine wpAnyH_done (by kernel_rfl) ?_ _
            refine hK12 _ _ ?_
            refine wp_cond_true rfl ?_
            refine wp_region_list (WL.out ?_)
            refine WL.val (by kernel_rfl) (.pointer (some ⟨x, 0, none⟩)) (by go_simp) ?_
            simp only [Act.put, List.setIfInBounds_toArray, List.set_cons_zero, List.set_cons_succ]
            refine WL.val (by kernel_rfl) (.int .i64 (at_ : Int)) (by go_simp) ?_
            simp only [Act.put, List.setIfInBounds_toArray, List.set_cons_zero, List.set_cons_succ]
            refine WL.callF (by kernel_rfl) 38 _ _ rfl Try.in38 #[ptr x, .int .i64 130, .int .i64 (at_ : Int)] (by simp [Act.eval]) ?_
            refine (xwrong_x at_ 130 (by decide) JX.out.le (HX8.out.below HB9.out)).mono ?_
            rintro e w10 ⟨rfl, h1, h2⟩
            refine ⟨_, rfl, ?_⟩
            have HXz := Keep.mk h1
            have HGz : Keep (Grown w w10 fun k => k = x) := ⟨(HG8.out.trans (Grown.below HB9.out)).trans h2⟩
            have HOz := Keep.mk ((HO8.out.below HB9.out).grown h2 (fun k hk e => (HO8.out.below HB9.out).ne (HX8.out.below HB9.out).blk (by decide) (e ▸ hk)))
            have HAz := Keep.mk (h2.blk (HA.out.below HB9.out HA.out.lt) (blk_ne (HA.out.below HB9.out HA.out.lt) (HX8.out.below HB9.out).blk (by decide)))
            clear h1 h2
            simp only [Act.put, List.setIfInBounds_toArray, List.set_cons_zero, List.set_cons_succ]
            refine WL.nil ?_
            refine hK11 _ _ ?_
            refine wp_region_list (WL.out ?_)
            refine WL.val (by kernel_rfl) (.slice (some ⟨gL, 0, none⟩) l.length oc) (by go_simp) ?_
            simp only [Act.put, List.setIfInBounds_toArray, List.set_cons_zero, List.set_cons_succ]
            refine WL.row (by kernel_rfl) 101 (.tmp 10) rfl g10 rfl 101 (bytesA 32 hh.f) _ HAz.out Try.underlying101 rfl (Try.size101B _) ?_
            simp only [Act.put, List.setIfInBounds_toArray, List.set_cons_zero, List.set_cons_succ]
            refine WL.bs (by kernel_rfl) 23 1 _ rfl #[(0, .agg (bytesA 32 hh.f))] (by simp [Act.eval]) _ _ (bsH hh w10) ?_
            have HB11 := Keep.mk (Blk.new w10 101 (bytesA 32 hh.f))
            have B11 := Keep.mk (below_new w10 (.cells (bytesA 32 hh.f) 101))
            generalize w10.alloc (.cells (bytesA 32 hh.f) 101) = w11 at *
            simp only [Act.put, List.setIfInBounds_toArray, List.set_cons_zero, List.set_cons_succ]
            refine WL.appH (by kernel_rfl) (.tmp 62) (.tmp 64) rfl (.slice (some ⟨gL, 0, none⟩) l.length oc) l w10.heap.size hh rfl rfl (HOz.out.below B11.out) HB11.out (by have := JL.out; omega) ?_
            intro v4 w12 h1 h2 h3
            have HOy := Keep.mk h1
            have HGy : Keep (Grown w w12 fun k => k = x) := ⟨(HGz.out.trans (Grown.below B11.out)).next h2 (fun k hk e => absurd (JN.out k e) (by omega))⟩
            have HXy := Keep.mk ((HXz.out.below B11.out).keep h2 (fun e => (HOz.out.below B11.out).ne (HXz.out.below B11.out).blk (by decide) e) (fun k hk e => absurd (JN.out k e) (by have := JG0.out; omega)))
            have HNy : Keep (∀ k, v4.ownBlock = some k → w.heap.size ≤ k) := ⟨fun k hk => by
              rcases h3 with e | ⟨j, e, hj⟩
              · rw [e] at hk; exact JN.out k hk
              · rw [e] at hk; injection hk with hk; have := HGz.out.size; have := B11.out.size; omega⟩
            clear h1 h2 h3
            simp only [Act.put, List.setIfInBounds_toArray, List.set_cons_zero, List.set_cons_succ]
            refine WL.val (by kernel_rfl) (v4) (by go_simp) ?_
            simp only [Act.put, List.setIfInBounds_toArray, List.set_cons_zero, List.set_cons_succ]
            refine WL.nil ?_
            refine hK8 _ _ ?_
            refine wp_region_list (WL.out ?_)
            refine WL.val (by kernel_rfl) (.int .i64 (t : Int)) (by go_simp) ?_
            simp only [Act.put, List.setIfInBounds_toArray, List.set_cons_zero, List.set_cons_succ]
            refine WL.val (by kernel_rfl) (.int .i64 ((t : Int) + 1)) (by go_simp) ?_
            simp only [Act.put, List.setIfInBounds_toArray, List.set_cons_zero, List.set_cons_succ]
            refine WL.val (by kernel_rfl) (.int .i64 ((t : Int) + 1)) (by go_simp) ?_
            simp only [Act.put, List.setIfInBounds_toArray, List.set_cons_zero, List.set_cons_succ]
            refine WL.nil ?_
            refine ⟨⟨t + 1, v4, .int .i64 (at_ : Int), .pointer (some ⟨g10, 0, none⟩), .pointer (some ⟨g11, 0, none⟩), .int .i64 (t : Int), .int .u64 (n : Int), .int .i64 (n : Int), .bool true, .bool true, .pointer (some ⟨x, 0, none⟩), .pointer (some ⟨x, 0, none⟩), .pointer (some ⟨x, 2, none⟩), .pointer (some ⟨x, 2, none⟩), .int .i64 0, .bool true, .bool true, .int .i64 (t : Int), .int .i64 ((t : Int) + 1), .pointer (some ⟨x, 0, none⟩), .pointer (some ⟨x, 0, none⟩), .pointer (some ⟨x, 1, none⟩), .int .i64 (at_ : Int), .tuple #[.agg (bytesA 32 hh.f), .agg (erA W1 b1)], .pointer (some ⟨x, 0, none⟩), .tuple #[.agg (bytesA 32 hh.f), .agg (erA W1 b1)], .agg (bytesA 32 hh.f), .agg (erA W1 b1), .pointer (some ⟨g11, 0, none⟩), .int .i64 W1, .bool true, .bool true, .int .i64 (t : Int), .bool true, .bool true, .bool true, .slice (some ⟨gL, 0, none⟩) l.length oc, .int .i64 (t : Int), .int .i64 ((l.length - 1 : Nat) : Int), .pointer (some ⟨gL, (l.length - 1) * 32, none⟩), .agg (Sh.encH hp).toArray, .agg (bytesA 32 hh.f).toList.toArray, .int .i64 (Sh.cf hp hh), .bool true, .bool true, .pointer (some ⟨x, 0, none⟩), .int .i64 (at_ : Int), .agg (erA 130 (at_ : Int)), .slice (some ⟨gL, 0, none⟩) l.length oc, .agg (bytesA 32 hh.f), .slice (some ⟨w10.heap.size, 0, none⟩) 1 1, v4, rfl, by omega, 130, at_, l ++ [hh], HXy.out, HGy.out, HOy.out, HNy.out, by rw [List.length_append]; simp [JL.out], .inr ⟨by decide, by rw [JR3.out], by rw [JR3.out]⟩⟩, ?_⟩
            simp only [intOf]; show n - ((t : Int) + 1).toNat < n - ((t : Int)).toNat; omega
          · skip
            have JR3 := Keep.mk (JR2.out.trans (if_neg (fun h => hcf (by rw [← Hcc.out]; exact h.2))))
            refine wp_region_held_drew (S := fun wx => wx.cell? ⟨g11, 0, none⟩ = some (.int .i64 W1) ∧ wx.rangeAt gL ((l.length - 1) * 32) (Sh.encH hp) ∧ wx.rangeAt g10 0 (bytesA 32 hh.f).toList) (by kernel_rfl) (HS0.out _ hD0) (fun hHeld => ?_)
            refine wpAnyH_take (i := 0) (oi := ⟨some 42, Op.fieldAddr 41 (Operand.tmp 11) 0, 0, _, _, none⟩) (v := .pointer (some ⟨g11, 0, none⟩)) rfl (by kernel_rfl) (by kernel_rfl) (by kernel_rfl) (fun _ _ _ h => h) (Or.inl ⟨by rfl, fun w hS => by obtain ⟨hS1, hS2, hS3⟩ := hS; go_simp⟩) hHeld ?_
            simp only [Act.put, List.setIfInBounds_toArray, List.set_cons_zero, List.set_cons_succ]
            refine wpAnyH_take (i := 1) (oi := ⟨some 43, Op.load 3 (Operand.tmp 42), 3, _, _, none⟩) (v := .int .i64 W1) rfl (by kernel_rfl) (by kernel_rfl) (by kernel_rfl) (fun _ _ _ h => h) (Or.inl ⟨by rfl, fun w hS => by obtain ⟨hS1, hS2, hS3⟩ := hS; go_simp⟩) hHeld ?_
            simp only [Act.put, List.setIfInBounds_toArray, List.set_cons_zero, List.set_cons_succ]
            refine wpAnyH_take (i := 2) (oi := ⟨some 44, Op.binOp BinOp.eql 3 (Operand.tmp 43) (Operand.const (Value.int IntKind.i64 0)) 3, 4, _, _, none⟩) (v := .bool true) rfl (by kernel_rfl) (by kernel_rfl) (by kernel_rfl) (fun _ _ _ h => h) (Or.inl ⟨by rfl, fun w hS => by obtain ⟨hS1, hS2, hS3⟩ := hS; go_simp⟩) hHeld ?_
            simp only [Act.put, List.setIfInBounds_toArray, List.set_cons_zero, List.set_cons_succ]
            refine wpAnyH_take (i := 3) (oi := ⟨some 45, Op.move (Operand.tmp 44), 4, _, _, none⟩) (v := .bool true) rfl (by kernel_rfl) (by kernel_rfl) (by kernel_rfl) (fun _ _ _ h => h) (Or.inl ⟨by rfl, fun w hS => by obtain ⟨hS1, hS2, hS3⟩ := hS; go_simp⟩) hHeld ?_
            simp only [Act.put, List.setIfInBounds_toArray, List.set_cons_zero, List.set_cons_succ]
            refine wpAnyH_take (i := 4) (oi := ⟨some 46, Op.move (Operand.tmp 8), 3, _, _, some (3, true)⟩) (v := .int .i64 (t : Int)) rfl (by kernel_rfl) (by kernel_rfl) (by kernel_rfl) (fun _ _ _ h => h) (Or.inl ⟨by rfl, fun w hS => by obtain ⟨hS1, hS2, hS3⟩ := hS; go_simp⟩) hHeld ?_
            simp only [Act.put, List.setIfInBounds_toArray, List.set_cons_zero, List.set_cons_succ]
            refine wpAnyH_take (i := 5) (oi := ⟨some 47, Op.binOp BinOp.gtr 3 (Operand.tmp 46) (Operand.const (Value.int IntKind.i64 0)) 3, 4, _, _, some (3, true)⟩) (v := .bool true) rfl (by kernel_rfl) (by kernel_rfl) (by kernel_rfl) (fun _ _ _ h => h) (Or.inl ⟨by rfl, fun w hS => by obtain ⟨hS1, hS2, hS3⟩ := hS; go_simp⟩) hHeld ?_
            simp only [Act.put, List.setIfInBounds_toArray, List.set_cons_zero, List.set_cons_succ]
            refine wpAnyH_take (i := 6) (oi := ⟨some 48, Op.pick (Operand.tmp 45) (Operand.tmp 47) (Operand.const (Value.bool false)), 4, _, _, none⟩) (v := .bool true) rfl (by kernel_rfl) (by kernel_rfl) (by kernel_rfl) (fun _ _ _ h => h) (Or.inl ⟨by rfl, fun w hS => by obtain ⟨hS1, hS2, hS3⟩ := hS; go_simp⟩) hHeld ?_
            simp only [Act.put, List.setIfInBounds_toArray, List.set_cons_zero, List.set_cons_succ]
            refine wpAnyH_take (i := 7) (oi := ⟨some 49, Op.move (Operand.tmp 48), 4, _, _, none⟩) (v := .bool true) rfl (by kernel_rfl) (by kernel_rfl) (by kernel_rfl) (fun _ _ _ h => h) (Or.inl ⟨by rfl, fun w hS => by obtain ⟨hS1, hS2, hS3⟩ := hS; go_simp⟩) hHeld ?_
            simp only [Act.put, List.setIfInBounds_toArray, List.set_cons_zero, List.set_cons_succ]
            refine wpAnyH_take (i := 8) (oi := ⟨some 50, Op.move (Operand.tmp 7), 23, _, _, some (7, true)⟩) (v := .slice (some ⟨gL, 0, none⟩) l.length oc) rfl (by kernel_rfl) (by kernel_rfl) (by kernel_rfl) (fun _ _ _ h => h) (Or.inl ⟨by rfl, fun w hS => by obtain ⟨hS1, hS2, hS3⟩ := hS; go_simp⟩) hHeld ?_
            simp only [Act.put, List.setIfInBounds_toArray, List.set_cons_zero, List.set_cons_succ]
            refine wpAnyH_take (i := 9) (oi := ⟨some 51, Op.move (Operand.tmp 8), 3, _, _, some (7, true)⟩) (v := .int .i64 (t : Int)) rfl (by kernel_rfl) (by kernel_rfl) (by kernel_rfl) (fun _ _ _ h => h) (Or.inl ⟨by rfl, fun w hS => by obtain ⟨hS1, hS2, hS3⟩ := hS; go_simp⟩) hHeld ?_
            simp only [Act.put, List.setIfInBounds_toArray, List.set_cons_zero, List.set_cons_succ]
            refine wpAnyH_take (i := 10) (oi := ⟨some 52, Op.binOp BinOp.sub 3 (Operand.tmp 51) (Operand.const (Value.int IntKind.i64 1)) 3, 3, _, _, some (7, true)⟩) (v := .int .i64 ((l.length - 1 : Nat) : Int)) rfl (by kernel_rfl) (by kernel_rfl) (by kernel_rfl) (fun _ _ _ h => h) (Or.inl ⟨by rfl, fun w hS => by obtain ⟨hS1, hS2, hS3⟩ := hS; go_simp⟩) hHeld ?_
            simp only [Act.put, List.setIfInBounds_toArray, List.set_cons_zero, List.set_cons_succ]
            refine wpAnyH_take (i := 11) (oi := ⟨some 53, Op.indexAddr 23 (Operand.tmp 50) (Operand.tmp 52), 0, _, _, some (7, true)⟩) (v := .pointer (some ⟨gL, (l.length - 1) * 32, none⟩)) rfl (by kernel_rfl) (by kernel_rfl) (by kernel_rfl) (fun _ _ _ h => h) (Or.inl ⟨by rfl, fun w hS => by go_simp; try (intro h; omega)⟩) hHeld ?_
            simp only [Act.put, List.setIfInBounds_toArray, List.set_cons_zero, List.set_cons_succ]
            refine wpAnyH_take (i := 12) (oi := ⟨some 54, Op.load 101 (Operand.tmp 53), 101, _, _, some (7, true)⟩) (v := .agg (Sh.encH hp).toArray) rfl (by kernel_rfl) (by kernel_rfl) (by kernel_rfl) (fun _ _ _ h => h) (yieldsIf_load_mid (by rfl) 101 (Operand.tmp 53) rfl gL ((l.length - 1) * 32) rfl (Sh.encH hp) _ (fun w hS => hS.2.1) Try.underlying101 rfl (Try.sizeHL hp)) hHeld ?_
            simp only [Act.put, List.setIfInBounds_toArray, List.set_cons_zero, List.set_cons_succ]
            refine wpAnyH_take (i := 13) (oi := ⟨some 55, Op.load 101 (Operand.tmp 10), 101, _, _, some (7, true)⟩) (v := .agg (bytesA 32 hh.f).toList.toArray) rfl (by kernel_rfl) (by kernel_rfl) (by kernel_rfl) (fun _ _ _ h => h) (yieldsIf_load_mid (by rfl) 101 (Operand.tmp 10) rfl g10 0 rfl (bytesA 32 hh.f).toList _ (fun w hS => hS.2.2) Try.underlying101 rfl (by rw [Array.length_toList]; exact Try.size101B _)) hHeld ?_
            simp only [Act.put, List.setIfInBounds_toArray, List.set_cons_zero, List.set_cons_succ]
            refine wpAnyH_ready (rs := [14]) (by kernel_rfl) (by simp) ?_
            refine AllReadyH.cons (o := ⟨some 56, Op.call { callee := Callee.value (Operand.func 72), args := #[Operand.tmp 54, Operand.tmp 55], argTypes := #[101, 101] }, 3, _, _, some (7, true)⟩) rfl (fun K hK => ?_) AllReadyH.nil
            rw [if_pos (by rfl)]
            refine wp_callF 72 _ _ rfl Try.in72 #[.agg (bytesA 32 hp.f), .agg (bytesA 32 hh.f)] (by simp [Act.eval, enc_load]) (fun vz wz => vz = .int .i64 (Sh.cf hp hh) ∧ Below w8.heap.size w8 wz) ?_ ?_
            · refine (refCompare_B hp hh w8.drew).mono ?_
              rintro e wz ⟨rfl, h⟩
              exact ⟨_, rfl, rfl, hD0.trans (h.mono hD0.size)⟩
            rintro vz w9 ⟨rfl, h9⟩
            have HB9 := Keep.mk h9
            clear h9
            refine hK.out _ _ (HS0.out _ HB9.out) fun hHeld2 => ?_
            clear hK
            simp only [Act.put, List.setIfInBounds_toArray, List.set_cons_zero, List.set_cons_succ]
            refine wpAnyH_take (i := 15) (oi := ⟨some 57, Op.binOp BinOp.geq 3 (Operand.tmp 56) (Operand.const (Value.int IntKind.i64 0)) 3, 4, _, _, some (7, true)⟩) (v := .bool false) rfl (by kernel_rfl) (by kernel_rfl) (by kernel_rfl) (fun _ _ _ h => h) (Or.inl ⟨by rfl, fun w hS => by obtain ⟨hS1, hS2, hS3⟩ := hS; go_simp⟩) hHeld2 ?_
            simp only [Act.put, List.setIfInBounds_toArray, List.set_cons_zero, List.set_cons_succ]
            refine wpAnyH_take (i := 16) (oi := ⟨some 58, Op.pick (Operand.tmp 49) (Operand.tmp 57) (Operand.const (Value.bool false)), 4, _, _, none⟩) (v := .bool false) rfl (by kernel_rfl) (by kernel_rfl) (by kernel_rfl) (fun _ _ _ h => h) (Or.inl ⟨by rfl, fun w hS => by obtain ⟨hS1, hS2, hS3⟩ := hS; go_simp⟩) hHeld2 ?_
            simp only [Act.put, List.setIfInBounds_toArray, List.set_cons_zero, List.set_cons_succ]
            refine wpAnyH_done (by kernel_rfl) ?_ _
            refine hK12 _ _ ?_
            refine wp_cond_false rfl ?_
            refine wp_skip ?_
            refine hK11 _ _ ?_
            have HXz := Keep.mk (HX8.out.below HB9.out)
            have HGz : Keep (Grown w w9 fun k => k = x) := ⟨HG8.out.trans (Grown.below HB9.out)⟩
            have HOz := Keep.mk (HO8.out.below HB9.out)
            have HAz := Keep.mk (HA.out.below HB9.out HA.out.lt)
            refine wp_region_list (WL.out ?_)
            refine WL.val (by kernel_rfl) (.slice (some ⟨gL, 0, none⟩) l.length oc) (by go_simp) ?_
            simp only [Act.put, List.setIfInBounds_toArray, List.set_cons_zero, List.set_cons_succ]
            refine WL.row (by kernel_rfl) 101 (.tmp 10) rfl g10 rfl 101 (bytesA 32 hh.f) _ HAz.out Try.underlying101 rfl (Try.size101B _) ?_
            simp only [Act.put, List.setIfInBounds_toArray, List.set_cons_zero, List.set_cons_succ]
            refine WL.bs (by kernel_rfl) 23 1 _ rfl #[(0, .agg (bytesA 32 hh.f))] (by simp [Act.eval]) _ _ (bsH hh w9) ?_
            have HB11 := Keep.mk (Blk.new w9 101 (bytesA 32 hh.f))
            have B11 := Keep.mk (below_new w9 (.cells (bytesA 32 hh.f) 101))
            generalize w9.alloc (.cells (bytesA 32 hh.f) 101) = w11 at *
            simp only [Act.put, List.setIfInBounds_toArray, List.set_cons_zero, List.set_cons_succ]
            refine WL.appH (by kernel_rfl) (.tmp 62) (.tmp 64) rfl (.slice (some ⟨gL, 0, none⟩) l.length oc) l w9.heap.size hh rfl rfl (HOz.out.below B11.out) HB11.out (by have := JL.out; omega) ?_
            intro v4 w12 h1 h2 h3
            have HOy := Keep.mk h1
            have HGy : Keep (Grown w w12 fun k => k = x) := ⟨(HGz.out.trans (Grown.below B11.out)).next h2 (fun k hk e => absurd (JN.out k e) (by omega))⟩
            have HXy := Keep.mk ((HXz.out.below B11.out).keep h2 (fun e => (HOz.out.below B11.out).ne (HXz.out.below B11.out).blk (by decide) e) (fun k hk e => absurd (JN.out k e) (by have := JG0.out; omega)))
            have HNy : Keep (∀ k, v4.ownBlock = some k → w.heap.size ≤ k) := ⟨fun k hk => by
              rcases h3 with e | ⟨j, e, hj⟩
              · rw [e] at hk; exact JN.out k hk
              · rw [e] at hk; injection hk with hk; have := HGz.out.size; have := B11.out.size; omega⟩
            clear h1 h2 h3
            simp only [Act.put, List.setIfInBounds_toArray, List.set_cons_zero, List.set_cons_succ]
            refine WL.val (by kernel_rfl) (v4) (by go_simp) ?_
            simp only [Act.put, List.setIfInBounds_toArray, List.set_cons_zero, List.set_cons_succ]
            refine WL.nil ?_
            refine hK8 _ _ ?_
            refine wp_region_list (WL.out ?_)
            refine WL.val (by kernel_rfl) (.int .i64 (t : Int)) (by go_simp) ?_
            simp only [Act.put, List.setIfInBounds_toArray, List.set_cons_zero, List.set_cons_succ]
            refine WL.val (by kernel_rfl) (.int .i64 ((t : Int) + 1)) (by go_simp) ?_
            simp only [Act.put, List.setIfInBounds_toArray, List.set_cons_zero, List.set_cons_succ]
            refine WL.val (by kernel_rfl) (.int .i64 ((t : Int) + 1)) (by go_simp) ?_
            simp only [Act.put, List.setIfInBounds_toArray, List.set_cons_zero, List.set_cons_succ]
            refine WL.nil ?_
            refine ⟨⟨t + 1, v4, .int .i64 (at_ : Int), .pointer (some ⟨g10, 0, none⟩), .pointer (some ⟨g11, 0, none⟩), .int .i64 (t : Int), .int .u64 (n : Int), .int .i64 (n : Int), .bool true, .bool true, .pointer (some ⟨x, 0, none⟩), .pointer (some ⟨x, 0, none⟩), .pointer (some ⟨x, 2, none⟩), .pointer (some ⟨x, 2, none⟩), .int .i64 0, .bool true, .bool true, .int .i64 (t : Int), .int .i64 ((t : Int) + 1), .pointer (some ⟨x, 0, none⟩), .pointer (some ⟨x, 0, none⟩), .pointer (some ⟨x, 1, none⟩), .int .i64 (at_ : Int), .tuple #[.agg (bytesA 32 hh.f), .agg (erA W1 b1)], .pointer (some ⟨x, 0, none⟩), .tuple #[.agg (bytesA 32 hh.f), .agg (erA W1 b1)], .agg (bytesA 32 hh.f), .agg (erA W1 b1), .pointer (some ⟨g11, 0, none⟩), .int .i64 W1, .bool true, .bool true, .int .i64 (t : Int), .bool true, .bool true, .bool true, .slice (some ⟨gL, 0, none⟩) l.length oc, .int .i64 (t : Int), .int .i64 ((l.length - 1 : Nat) : Int), .pointer (some ⟨gL, (l.length - 1) * 32, none⟩), .agg (Sh.encH hp).toArray, .agg (bytesA 32 hh.f).toList.toArray, .int .i64 (Sh.cf hp hh), .bool false, .bool false, u59, u60, u61, .slice (some ⟨gL, 0, none⟩) l.length oc, .agg (bytesA 32 hh.f), .slice (some ⟨w9.heap.size, 0, none⟩) 1 1, v4, rfl, by omega, 0, at_ + 32, l ++ [hh], HXy.out, HGy.out, HOy.out, HNy.out, by rw [List.length_append]; simp [JL.out], .inl ⟨rfl, JR3.out⟩⟩, ?_⟩
            simp only [intOf]; show n - ((t : Int) + 1).toNat < n - ((t : Int)).toNat; omega
        · have ht0' : ¬ (0 : Int) < (t : Int) := by omega
          have HB9 : Keep (Below w8.heap.size w8 w8.drew) := ⟨hD0⟩
          have JR3 := Keep.mk (JR2.out.trans (if_neg (fun h => ht0 (by have := h.1; have := JL.out; omega))))
          refine wp_region_held_drew (S := fun wx => wx.cell? ⟨g11, 0, none⟩ = some (.int .i64 W1)) (by kernel_rfl) (HE0.out _ hD0) (fun hHeld => ?_)
          refine wpAnyH_take (i := 0) (oi := ⟨some 42, Op.fieldAddr 41 (Operand.tmp 11) 0, 0, _, _, none⟩) (v := .pointer (some ⟨g11, 0, none⟩)) rfl (by kernel_rfl) (by kernel_rfl) (by kernel_rfl) (fun _ _ _ h => h) (Or.inl ⟨by rfl, fun w hS => by go_simp⟩) hHeld ?_
          simp only [Act.put, List.setIfInBounds_toArray, List.set_cons_zero, List.set_cons_succ]
          refine wpAnyH_take (i := 1) (oi := ⟨some 43, Op.load 3 (Operand.tmp 42), 3, _, _, none⟩) (v := .int .i64 W1) rfl (by kernel_rfl) (by kernel_rfl) (by kernel_rfl) (fun _ _ _ h => h) (Or.inl ⟨by rfl, fun w hS => by go_simp⟩) hHeld ?_
          simp only [Act.put, List.setIfInBounds_toArray, List.set_cons_zero, List.set_cons_succ]
          refine wpAnyH_take (i := 2) (oi := ⟨some 44, Op.binOp BinOp.eql 3 (Operand.tmp 43) (Operand.const (Value.int IntKind.i64 0)) 3, 4, _, _, none⟩) (v := .bool true) rfl (by kernel_rfl) (by kernel_rfl) (by kernel_rfl) (fun _ _ _ h => h) (Or.inl ⟨by rfl, fun w hS => by go_simp⟩) hHeld ?_
          simp only [Act.put, List.setIfInBounds_toArray, List.set_cons_zero, List.set_cons_succ]
          refine wpAnyH_take (i := 3) (oi := ⟨some 45, Op.move (Operand.tmp 44), 4, _, _, none⟩) (v := .bool true) rfl (by kernel_rfl) (by kernel_rfl) (by kernel_rfl) (fun _ _ _ h => h) (Or.inl ⟨by rfl, fun w hS => by go_simp⟩) hHeld ?_
          simp only [Act.put, List.setIfInBounds_toArray, List.set_cons_zero, List.set_cons_succ]
          refine wpAnyH_take (i := 4) (oi := ⟨some 46, Op.move (Operand.tmp 8), 3, _, _, some (3, true)⟩) (v := .int .i64 (t : Int)) rfl (by kernel_rfl) (by kernel_rfl) (by kernel_rfl) (fun _ _ _ h => h) (Or.inl ⟨by rfl, fun w hS => by go_simp⟩) hHeld ?_
          simp only [Act.put, List.setIfInBounds_toArray, List.set_cons_zero, List.set_cons_succ]
          refine wpAnyH_take (i := 5) (oi := ⟨some 47, Op.binOp BinOp.gtr 3 (Operand.tmp 46) (Operand.const (Value.int IntKind.i64 0)) 3, 4, _, _, some (3, true)⟩) (v := .bool false) rfl (by kernel_rfl) (by kernel_rfl) (by kernel_rfl) (fun _ _ _ h => h) (Or.inl ⟨by rfl, fun w hS => by go_simp⟩) hHeld ?_
          simp only [Act.put, List.setIfInBounds_toArray, List.set_cons_zero, List.set_cons_succ]
          refine wpAnyH_take (i := 6) (oi := ⟨some 48, Op.pick (Operand.tmp 45) (Operand.tmp 47) (Operand.const (Value.bool false)), 4, _, _, none⟩) (v := .bool false) rfl (by kernel_rfl) (by kernel_rfl) (by kernel_rfl) (fun _ _ _ h => h) (Or.inl ⟨by rfl, fun w hS => by go_simp⟩) hHeld ?_
          simp only [Act.put, List.setIfInBounds_toArray, List.set_cons_zero, List.set_cons_succ]
          refine wpAnyH_take (i := 7) (oi := ⟨some 49, Op.move (Operand.tmp 48), 4, _, _, none⟩) (v := .bool false) rfl (by kernel_rfl) (by kernel_rfl) (by kernel_rfl) (fun _ _ _ h => h) (Or.inl ⟨by rfl, fun w hS => by go_simp⟩) hHeld ?_
          simp only [Act.put, List.setIfInBounds_toArray, List.set_cons_zero, List.set_cons_succ]
          refine wpAnyH_take (i := 8) (oi := ⟨some 50, Op.move (Operand.tmp 7), 23, _, _, some (7, true)⟩) (v := undef) rfl (by kernel_rfl) (by kernel_rfl) (by kernel_rfl) (fun _ _ _ h => h) (Or.inr ⟨by rfl, rfl⟩) hHeld ?_
          simp only [Act.put, List.setIfInBounds_toArray, List.set_cons_zero, List.set_cons_succ]
          refine wpAnyH_take (i := 9) (oi := ⟨some 51, Op.move (Operand.tmp 8), 3, _, _, some (7, true)⟩) (v := undef) rfl (by kernel_rfl) (by kernel_rfl) (by kernel_rfl) (fun _ _ _ h => h) (Or.inr ⟨by rfl, rfl⟩) hHeld ?_
          simp only [Act.put, List.setIfInBounds_toArray, List.set_cons_zero, List.set_cons_succ]
          refine wpAnyH_take (i := 10) (oi := ⟨some 52, Op.binOp BinOp.sub 3 (Operand.tmp 51) (Operand.const (Value.int IntKind.i64 1)) 3, 3, _, _, some (7, true)⟩) (v := undef) rfl (by kernel_rfl) (by kernel_rfl) (by kernel_rfl) (fun _ _ _ h => h) (Or.inr ⟨by rfl, rfl⟩) hHeld ?_
          simp only [Act.put, List.setIfInBounds_toArray, List.set_cons_zero, List.set_cons_succ]
          refine wpAnyH_take (i := 11) (oi := ⟨some 53, Op.indexAddr 23 (Operand.tmp 50) (Operand.tmp 52), 0, _, _, some (7, true)⟩) (v := undef) rfl (by kernel_rfl) (by kernel_rfl) (by kernel_rfl) (fun _ _ _ h => h) (Or.inr ⟨by rfl, rfl⟩) hHeld ?_
          simp only [Act.put, List.setIfInBounds_toArray, List.set_cons_zero, List.set_cons_succ]
          refine wpAnyH_take (i := 12) (oi := ⟨some 54, Op.load 101 (Operand.tmp 53), 101, _, _, some (7, true)⟩) (v := undef) rfl (by kernel_rfl) (by kernel_rfl) (by kernel_rfl) (fun _ _ _ h => h) (Or.inr ⟨by rfl, rfl⟩) hHeld ?_
          simp only [Act.put, List.setIfInBounds_toArray, List.set_cons_zero, List.set_cons_succ]
          refine wpAnyH_take (i := 13) (oi := ⟨some 55, Op.load 101 (Operand.tmp 10), 101, _, _, some (7, true)⟩) (v := undef) rfl (by kernel_rfl) (by kernel_rfl) (by kernel_rfl) (fun _ _ _ h => h) (Or.inr ⟨by rfl, rfl⟩) hHeld ?_
          simp only [Act.put, List.setIfInBounds_toArray, List.set_cons_zero, List.set_cons_succ]
          refine wpAnyH_take (i := 14) (oi := ⟨some 56, Op.call { callee := Callee.value (Operand.func 72), args := #[Operand.tmp 54, Operand.tmp 55], argTypes := #[101, 101] }, 3, _, _, some (7, true)⟩) (v := undef) rfl (by kernel_rfl) (by kernel_rfl) (by kernel_rfl) (fun _ _ _ h => h) (Or.inr ⟨by rfl, rfl⟩) hHeld ?_
          simp only [Act.put, List.setIfInBounds_toArray, List.set_cons_zero, List.set_cons_succ]
          refine wpAnyH_take (i := 15) (oi := ⟨some 57, Op.binOp BinOp.geq 3 (Operand.tmp 56) (Operand.const (Value.int IntKind.i64 0)) 3, 4, _, _, some (7, true)⟩) (v := undef) rfl (by kernel_rfl) (by kernel_rfl) (by kernel_rfl) (fun _ _ _ h => h) (Or.inr ⟨by rfl, rfl⟩) hHeld ?_
          simp only [Act.put, List.setIfInBounds_toArray, List.set_cons_zero, List.set_cons_succ]
          refine wpAnyH_take (i := 16) (oi := ⟨some 58, Op.pick (Operand.tmp 49) (Operand.tmp 57) (Operand.const (Value.bool false)), 4, _, _, none⟩) (v := .bool false) rfl (by kernel_rfl) (by kernel_rfl) (by kernel_rfl) (fun _ _ _ h => h) (Or.inl ⟨by rfl, fun w hS => by go_simp⟩) hHeld ?_
          simp only [Act.put, List.setIfInBounds_toArray, List.set_cons_zero, List.set_cons_succ]
          refine wpAnyH_done (by kernel_rfl) ?_ _
          refine hK12 _ _ ?_
          refine wp_cond_false rfl ?_
          refine wp_skip ?_
          refine hK11 _ _ ?_
          have HXz := Keep.mk (HX8.out.below HB9.out)
          have HGz : Keep (Grown w w8.drew fun k => k = x) := ⟨HG8.out.trans (Grown.below HB9.out)⟩
          have HOz := Keep.mk (HO8.out.below HB9.out)
          have HAz := Keep.mk (HA.out.below HB9.out HA.out.lt)
          refine wp_region_list (WL.out ?_)
          refine WL.val (by kernel_rfl) (.slice oa l.length oc) (by go_simp) ?_
          simp only [Act.put, List.setIfInBounds_toArray, List.set_cons_zero, List.set_cons_succ]
          refine WL.row (by kernel_rfl) 101 (.tmp 10) rfl g10 rfl 101 (bytesA 32 hh.f) _ HAz.out Try.underlying101 rfl (Try.size101B _) ?_
          simp only [Act.put, List.setIfInBounds_toArray, List.set_cons_zero, List.set_cons_succ]
          refine WL.bs (by kernel_rfl) 23 1 _ rfl #[(0, .agg (bytesA 32 hh.f))] (by simp [Act.eval]) _ _ (bsH hh w8.drew) ?_
          have HB11 := Keep.mk (Blk.new w8.drew 101 (bytesA 32 hh.f))
          have B11 := Keep.mk (below_new w8.drew (.cells (bytesA 32 hh.f) 101))
          generalize w8.drew.alloc (.cells (bytesA 32 hh.f) 101) = w11 at *
          simp only [Act.put, List.setIfInBounds_toArray, List.set_cons_zero, List.set_cons_succ]
          refine WL.appH (by kernel_rfl) (.tmp 62) (.tmp 64) rfl (.slice oa l.length oc) l w8.drew.heap.size hh rfl rfl (HOz.out.below B11.out) HB11.out (by have := JL.out; omega) ?_
          intro v4 w12 h1 h2 h3
          have HOy := Keep.mk h1
          have HGy : Keep (Grown w w12 fun k => k = x) := ⟨(HGz.out.trans (Grown.below B11.out)).next h2 (fun k hk e => absurd (JN.out k e) (by omega))⟩
          have HXy := Keep.mk ((HXz.out.below B11.out).keep h2 (fun e => (HOz.out.below B11.out).ne (HXz.out.below B11.out).blk (by decide) e) (fun k hk e => absurd (JN.out k e) (by have := JG0.out; omega)))
          have HNy : Keep (∀ k, v4.ownBlock = some k → w.heap.size ≤ k) := ⟨fun k hk => by
            rcases h3 with e | ⟨j, e, hj⟩
            · rw [e] at hk; exact JN.out k hk
            · rw [e] at hk; injection hk with hk; have := HGz.out.size; have := B11.out.size; omega⟩
          clear h1 h2 h3
          simp only [Act.put, List.setIfInBounds_toArray, List.set_cons_zero, List.set_cons_succ]
          refine WL.val (by kernel_rfl) (v4) (by go_simp) ?_
          simp only [Act.put, List.setIfInBounds_toArray, List.set_cons_zero, List.set_cons_succ]
          refine WL.nil ?_
          refine hK8 _ _ ?_
          refine wp_region_list (WL.out ?_)
          refine WL.val (by kernel_rfl) (.int .i64 (t : Int)) (by go_simp) ?_
          simp only [Act.put, List.setIfInBounds_toArray, List.set_cons_zero, List.set_cons_succ]
          refine WL.val (by kernel_rfl) (.int .i64 ((t : Int) + 1)) (by go_simp) ?_
          simp only [Act.put, List.setIfInBounds_toArray, List.set_cons_zero, List.set_cons_succ]
          refine WL.val (by kernel_rfl) (.int .i64 ((t : Int) + 1)) (by go_simp) ?_
          simp only [Act.put, List.setIfInBounds_toArray, List.set_cons_zero, List.set_cons_succ]
          refine WL.nil ?_
          refine ⟨⟨t + 1, v4, .int .i64 (at_ : Int), .pointer (some ⟨g10, 0, none⟩), .pointer (some ⟨g11, 0, none⟩), .int .i64 (t : Int), .int .u64 (n : Int), .int .i64 (n : Int), .bool true, .bool true, .pointer (some ⟨x, 0, none⟩), .pointer (some ⟨x, 0, none⟩), .pointer (some ⟨x, 2, none⟩), .pointer (some ⟨x, 2, none⟩), .int .i64 0, .bool true, .bool true, .int .i64 (t : Int), .int .i64 ((t : Int) + 1), .pointer (some ⟨x, 0, none⟩), .pointer (some ⟨x, 0, none⟩), .pointer (some ⟨x, 1, none⟩), .int .i64 (at_ : Int), .tuple #[.agg (bytesA 32 hh.f), .agg (erA W1 b1)], .pointer (some ⟨x, 0, none⟩), .tuple #[.agg (bytesA 32 hh.f), .agg (erA W1 b1)], .agg (bytesA 32 hh.f), .agg (erA W1 b1), .pointer (some ⟨g11, 0, none⟩), .int .i64 W1, .bool true, .bool true, .int .i64 (t : Int), .bool false, .bool false, .bool false, undef, undef, undef, undef, undef, undef, undef, undef, .bool false, u59, u60, u61, .slice oa l.length oc, .agg (bytesA 32 hh.f), .slice (some ⟨w8.drew.heap.size, 0, none⟩) 1 1, v4, rfl, by omega, 0, at_ + 32, l ++ [hh], HXy.out, HGy.out, HOy.out, HNy.out, by rw [List.length_append]; simp [JL.out], .inl ⟨rfl, JR3.out⟩⟩, ?_⟩
          simp only [intOf]; show n - ((t : Int) + 1).toNat < n - ((t : Int)).toNat; omega
      · have HB9 : Keep (Below w8.heap.size w8 w8.drew) := ⟨hD0⟩
        have JR3 := Keep.mk (JR.out.trans (if_pos hE1))
        refine wp_region_held_drew (S := fun wx => wx.cell? ⟨g11, 0, none⟩ = some (.int .i64 W1)) (by kernel_rfl) (HE0.out _ hD0) (fun hHeld => ?_)
        refine wpAnyH_take (i := 0) (oi := ⟨some 42, Op.fieldAddr 41 (Operand.tmp 11) 0, 0, _, _, none⟩) (v := .pointer (some ⟨g11, 0, none⟩)) rfl (by kernel_rfl) (by kernel_rfl) (by kernel_rfl) (fun _ _ _ h => h) (Or.inl ⟨by rfl, fun w hS => by go_simp⟩) hHeld ?_
        simp only [Act.put, List.setIfInBounds_toArray, List.set_cons_zero, List.set_cons_succ]
        refine wpAnyH_take (i := 1) (oi := ⟨some 43, Op.load 3 (Operand.tmp 42), 3, _, _, none⟩) (v := .int .i64 W1) rfl (by kernel_rfl) (by kernel_rfl) (by kernel_rfl) (fun _ _ _ h => h) (Or.inl ⟨by rfl, fun w hS => by go_simp⟩) hHeld ?_
        simp only [Act.put, List.setIfInBounds_toArray, List.set_cons_zero, List.set_cons_succ]
        refine wpAnyH_take (i := 2) (oi := ⟨some 44, Op.binOp BinOp.eql 3 (Operand.tmp 43) (Operand.const (Value.int IntKind.i64 0)) 3, 4, _, _, none⟩) (v := .bool false) rfl (by kernel_rfl) (by kernel_rfl) (by kernel_rfl) (fun _ _ _ h => h) (Or.inl ⟨by rfl, fun w hS => by go_simp⟩) hHeld ?_
        simp only [Act.put, List.setIfInBounds_toArray, List.set_cons_zero, List.set_cons_succ]
        refine wpAnyH_take (i := 3) (oi := ⟨some 45, Op.move (Operand.tmp 44), 4, _, _, none⟩) (v := .bool false) rfl (by kernel_rfl) (by kernel_rfl) (by kernel_rfl) (fun _ _ _ h => h) (Or.inl ⟨by rfl, fun w hS => by go_simp⟩) hHeld ?_
        simp only [Act.put, List.setIfInBounds_toArray, List.set_cons_zero, List.set_cons_succ]
        refine wpAnyH_take (i := 4) (oi := ⟨some 46, Op.move (Operand.tmp 8), 3, _, _, some (3, true)⟩) (v := undef) rfl (by kernel_rfl) (by kernel_rfl) (by kernel_rfl) (fun _ _ _ h => h) (Or.inr ⟨by rfl, rfl⟩) hHeld ?_
        simp only [Act.put, List.setIfInBounds_toArray, List.set_cons_zero, List.set_cons_succ]
        refine wpAnyH_take (i := 5) (oi := ⟨some 47, Op.binOp BinOp.gtr 3 (Operand.tmp 46) (Operand.const (Value.int IntKind.i64 0)) 3, 4, _, _, some (3, true)⟩) (v := undef) rfl (by kernel_rfl) (by kernel_rfl) (by kernel_rfl) (fun _ _ _ h => h) (Or.inr ⟨by rfl, rfl⟩) hHeld ?_
        simp only [Act.put, List.setIfInBounds_toArray, List.set_cons_zero, List.set_cons_succ]
        refine wpAnyH_take (i := 6) (oi := ⟨some 48, Op.pick (Operand.tmp 45) (Operand.tmp 47) (Operand.const (Value.bool false)), 4, _, _, none⟩) (v := .bool false) rfl (by kernel_rfl) (by kernel_rfl) (by kernel_rfl) (fun _ _ _ h => h) (Or.inl ⟨by rfl, fun w hS => by go_simp⟩) hHeld ?_
        simp only [Act.put, List.setIfInBounds_toArray, List.set_cons_zero, List.set_cons_succ]
        refine wpAnyH_take (i := 7) (oi := ⟨some 49, Op.move (Operand.tmp 48), 4, _, _, none⟩) (v := .bool false) rfl (by kernel_rfl) (by kernel_rfl) (by kernel_rfl) (fun _ _ _ h => h) (Or.inl ⟨by rfl, fun w hS => by go_simp⟩) hHeld ?_
        simp only [Act.put, List.setIfInBounds_toArray, List.set_cons_zero, List.set_cons_succ]
        refine wpAnyH_take (i := 8) (oi := ⟨some 50, Op.move (Operand.tmp 7), 23, _, _, some (7, true)⟩) (v := undef) rfl (by kernel_rfl) (by kernel_rfl) (by kernel_rfl) (fun _ _ _ h => h) (Or.inr ⟨by rfl, rfl⟩) hHeld ?_
        simp only [Act.put, List.setIfInBounds_toArray, List.set_cons_zero, List.set_cons_succ]
        refine wpAnyH_take (i := 9) (oi := ⟨some 51, Op.move (Operand.tmp 8), 3, _, _, some (7, true)⟩) (v := undef) rfl (by kernel_rfl) (by kernel_rfl) (by kernel_rfl) (fun _ _ _ h => h) (Or.inr ⟨by rfl, rfl⟩) hHeld ?_
        simp only [Act.put, List.setIfInBounds_toArray, List.set_cons_zero, List.set_cons_succ]
        refine wpAnyH_take (i := 10) (oi := ⟨some 52, Op.binOp BinOp.sub 3 (Operand.tmp 51) (Operand.const (Value.int IntKind.i64 1)) 3, 3, _, _, some (7, true)⟩) (v := undef) rfl (by kernel_rfl) (by kernel_rfl) (by kernel_rfl) (fun _ _ _ h => h) (Or.inr ⟨by rfl, rfl⟩) hHeld ?_
        simp only [Act.put, List.setIfInBounds_toArray, List.set_cons_zero, List.set_cons_succ]
        refine wpAnyH_take (i := 11) (oi := ⟨some 53, Op.indexAddr 23 (Operand.tmp 50) (Operand.tmp 52), 0, _, _, some (7, true)⟩) (v := undef) rfl (by kernel_rfl) (by kernel_rfl) (by kernel_rfl) (fun _ _ _ h => h) (Or.inr ⟨by rfl, rfl⟩) hHeld ?_
        simp only [Act.put, List.setIfInBounds_toArray, List.set_cons_zero, List.set_cons_succ]
        refine wpAnyH_take (i := 12) (oi := ⟨some 54, Op.load 101 (Operand.tmp 53), 101, _, _, some (7, true)⟩) (v := undef) rfl (by kernel_rfl) (by kernel_rfl) (by kernel_rfl) (fun _ _ _ h => h) (Or.inr ⟨by rfl, rfl⟩) hHeld ?_
        simp only [Act.put, List.setIfInBounds_toArray, List.set_cons_zero, List.set_cons_succ]
        refine wpAnyH_take (i := 13) (oi := ⟨some 55, Op.load 101 (Operand.tmp 10), 101, _, _, some (7, true)⟩) (v := undef) rfl (by kernel_rfl) (by kernel_rfl) (by kernel_rfl) (fun _ _ _ h => h) (Or.inr ⟨by rfl, rfl⟩) hHeld ?_
        simp only [Act.put, List.setIfInBounds_toArray, List.set_cons_zero, List.set_cons_succ]
        refine wpAnyH_take (i := 14) (oi := ⟨some 56, Op.call { callee := Callee.value (Operand.func 72), args := #[Operand.tmp 54, Operand.tmp 55], argTypes := #[101, 101] }, 3, _, _, some (7, true)⟩) (v := undef) rfl (by kernel_rfl) (by kernel_rfl) (by kernel_rfl) (fun _ _ _ h => h) (Or.inr ⟨by rfl, rfl⟩) hHeld ?_
        simp only [Act.put, List.setIfInBounds_toArray, List.set_cons_zero, List.set_cons_succ]
        refine wpAnyH_take (i := 15) (oi := ⟨some 57, Op.binOp BinOp.geq 3 (Operand.tmp 56) (Operand.const (Value.int IntKind.i64 0)) 3, 4, _, _, some (7, true)⟩) (v := undef) rfl (by kernel_rfl) (by kernel_rfl) (by kernel_rfl) (fun _ _ _ h => h) (Or.inr ⟨by rfl, rfl⟩) hHeld ?_
        simp only [Act.put, List.setIfInBounds_toArray, List.set_cons_zero, List.set_cons_succ]
        refine wpAnyH_take (i := 16) (oi := ⟨some 58, Op.pick (Operand.tmp 49) (Operand.tmp 57) (Operand.const (Value.bool false)), 4, _, _, none⟩) (v := .bool false) rfl (by kernel_rfl) (by kernel_rfl) (by kernel_rfl) (fun _ _ _ h => h) (Or.inl ⟨by rfl, fun w hS => by go_simp⟩) hHeld ?_
        simp only [Act.put, List.setIfInBounds_toArray, List.set_cons_zero, List.set_cons_succ]
        refine wpAnyH_done (by kernel_rfl) ?_ _
        refine hK12 _ _ ?_
        refine wp_cond_false rfl ?_
        refine wp_skip ?_
        refine hK11 _ _ ?_
        have HXz := Keep.mk (HX8.out.below HB9.out)
        have HGz : Keep (Grown w w8.drew fun k => k = x) := ⟨HG8.out.trans (Grown.below HB9.out)⟩
        have HOz := Keep.mk (HO8.out.below HB9.out)
        have HAz := Keep.mk (HA.out.below HB9.out HA.out.lt)
        refine wp_region_list (WL.out ?_)
        refine WL.val (by kernel_rfl) (.slice oa l.length oc) (by go_simp) ?_
        simp only [Act.put, List.setIfInBounds_toArray, List.set_cons_zero, List.set_cons_succ]
        refine WL.row (by kernel_rfl) 101 (.tmp 10) rfl g10 rfl 101 (bytesA 32 hh.f) _ HAz.out Try.underlying101 rfl (Try.size101B _) ?_
        simp only [Act.put, List.setIfInBounds_toArray, List.set_cons_zero, List.set_cons_succ]
        refine WL.bs (by kernel_rfl) 23 1 _ rfl #[(0, .agg (bytesA 32 hh.f))] (by simp [Act.eval]) _ _ (bsH hh w8.drew) ?_
        have HB11 := Keep.mk (Blk.new w8.drew 101 (bytesA 32 hh.f))
        have B11 := Keep.mk (below_new w8.drew (.cells (bytesA 32 hh.f) 101))
        generalize w8.drew.alloc (.cells (bytesA 32 hh.f) 101) = w11 at *
        simp only [Act.put, List.setIfInBounds_toArray, List.set_cons_zero, List.set_cons_succ]
        refine WL.appH (by kernel_rfl) (.tmp 62) (.tmp 64) rfl (.slice oa l.length oc) l w8.drew.heap.size hh rfl rfl (HOz.out.below B11.out) HB11.out (by have := JL.out; omega) ?_
        intro v4 w12 h1 h2 h3
        have HOy := Keep.mk h1
        have HGy : Keep (Grown w w12 fun k => k = x) := ⟨(HGz.out.trans (Grown.below B11.out)).next h2 (fun k hk e => absurd (JN.out k e) (by omega))⟩
        have HXy := Keep.mk ((HXz.out.below B11.out).keep h2 (fun e => (HOz.out.below B11.out).ne (HXz.out.below B11.out).blk (by decide) e) (fun k hk e => absurd (JN.out k e) (by have := JG0.out; omega)))
        have HNy : Keep (∀ k, v4.ownBlock = some k → w.heap.size ≤ k) := ⟨fun k hk => by
          rcases h3 with e | ⟨j, e, hj⟩
          · rw [e] at hk; exact JN.out k hk
          · rw [e] at hk; injection hk with hk; have := HGz.out.size; have := B11.out.size; omega⟩
        clear h1 h2 h3
        simp only [Act.put, List.setIfInBounds_toArray, List.set_cons_zero, List.set_cons_succ]
        refine WL.val (by kernel_rfl) (v4) (by go_simp) ?_
        simp only [Act.put, List.setIfInBounds_toArray, List.set_cons_zero, List.set_cons_succ]
        refine WL.nil ?_
        refine hK8 _ _ ?_
        refine wp_region_list (WL.out ?_)
        refine WL.val (by kernel_rfl) (.int .i64 (t : Int)) (by go_simp) ?_
        simp only [Act.put, List.setIfInBounds_toArray, List.set_cons_zero, List.set_cons_succ]
        refine WL.val (by kernel_rfl) (.int .i64 ((t : Int) + 1)) (by go_simp) ?_
        simp only [Act.put, List.setIfInBounds_toArray, List.set_cons_zero, List.set_cons_succ]
        refine WL.val (by kernel_rfl) (.int .i64 ((t : Int) + 1)) (by go_simp) ?_
        simp only [Act.put, List.setIfInBounds_toArray, List.set_cons_zero, List.set_cons_succ]
        refine WL.nil ?_
        refine ⟨⟨t + 1, v4, .int .i64 (at_ : Int), .pointer (some ⟨g10, 0, none⟩), .pointer (some ⟨g11, 0, none⟩), .int .i64 (t : Int), .int .u64 (n : Int), .int .i64 (n : Int), .bool true, .bool true, .pointer (some ⟨x, 0, none⟩), .pointer (some ⟨x, 0, none⟩), .pointer (some ⟨x, 2, none⟩), .pointer (some ⟨x, 2, none⟩), .int .i64 0, .bool true, .bool true, .int .i64 (t : Int), .int .i64 ((t : Int) + 1), .pointer (some ⟨x, 0, none⟩), .pointer (some ⟨x, 0, none⟩), .pointer (some ⟨x, 1, none⟩), .int .i64 (at_ : Int), .tuple #[.agg (bytesA 32 hh.f), .agg (erA W1 b1)], .pointer (some ⟨x, 0, none⟩), .tuple #[.agg (bytesA 32 hh.f), .agg (erA W1 b1)], .agg (bytesA 32 hh.f), .agg (erA W1 b1), .pointer (some ⟨g11, 0, none⟩), .int .i64 W1, .bool false, .bool false, undef, undef, .bool false, .bool false, undef, undef, undef, undef, undef, undef, undef, undef, .bool false, u59, u60, u61, .slice oa l.length oc, .agg (bytesA 32 hh.f), .slice (some ⟨w8.drew.heap.size, 0, none⟩) 1 1, v4, rfl, by omega, W1, at_ + N1, l ++ [hh], HXy.out, HGy.out, HOy.out, HNy.out, by rw [List.length_append]; simp [JL.out], .inr ⟨hE1, by rw [JR3.out], by rw [JR3.out]⟩⟩, ?_⟩
        simp only [intOf]; show n - ((t : Int) + 1).toNat < n - ((t : Int)).toNat; omega
    · skip
      refine wp_seq_k fun K13 hK13 => ?_
      refine wp_seq_k fun K14 hK14 => ?_
      refine wp_region_list (WL.out ?_)
      refine WL.val (by kernel_rfl) (.int .i64 (t : Int)) (by go_simp) ?_
      simp only [Act.put, List.setIfInBounds_toArray, List.set_cons_zero, List.set_cons_succ]
      refine WL.val (by kernel_rfl) (.int .u64 (n : Int)) (by go_simp) ?_
      simp only [Act.put, List.setIfInBounds_toArray, List.set_cons_zero, List.set_cons_succ]
      refine WL.val (by kernel_rfl) (.int .i64 (n : Int)) (by go_simp) ?_
      simp only [Act.put, List.setIfInBounds_toArray, List.set_cons_zero, List.set_cons_succ]
      refine WL.val (by kernel_rfl) (.bool true) (by go_simp) ?_
      simp only [Act.put, List.setIfInBounds_toArray, List.set_cons_zero, List.set_cons_succ]
      refine WL.val (by kernel_rfl) (.bool true) (by go_simp) ?_
      simp only [Act.put, List.setIfInBounds_toArray, List.set_cons_zero, List.set_cons_succ]
      refine WL.val (by kernel_rfl) (.pointer (some ⟨x, 0, none⟩)) (by go_simp) ?_
      simp only [Act.put, List.setIfInBounds_toArray, List.set_cons_zero, List.set_cons_succ]
      refine WL.val (by kernel_rfl) (.pointer (some ⟨x, 0, none⟩)) (by go_simp) ?_
      simp only [Act.put, List.setIfInBounds_toArray, List.set_cons_zero, List.set_cons_succ]
      refine WL.val (by kernel_rfl) (.pointer (some ⟨x, 2, none⟩)) (by go_simp) ?_
      simp only [Act.put, List.setIfInBounds_toArray, List.set_cons_zero, List.set_cons_succ]
      refine WL.val (by kernel_rfl) (.pointer (some ⟨x, 2, none⟩)) (by go_simp) ?_
      simp only [Act.put, List.setIfInBounds_toArray, List.set_cons_zero, List.set_cons_succ]
      refine WL.val (by kernel_rfl) (.int .i64 why) (by go_simp) ?_
      simp only [Act.put, List.setIfInBounds_toArray, List.set_cons_zero, List.set_cons_succ]
      refine WL.val (by kernel_rfl) (.bool false) (by go_simp) ?_
      simp only [Act.put, List.setIfInBounds_toArray, List.set_cons_zero, List.set_cons_succ]
      refine WL.val (by kernel_rfl) (.bool false) (by go_simp) ?_
      simp only [Act.put, List.setIfInBounds_toArray, List.set_cons_zero, List.set_cons_succ]
      refine WL.nil ?_
      refine hK14 _ _ ?_
      refine wp_cond_false rfl ?_
      refine wp_exit ?_
      refine hK4 _ _ ?_
      refine wp_seq_k fun K15 hK15 => ?_
      refine wp_region_list (WL.out ?_)
      refine WL.val (by kernel_rfl) (.slice oa l.length oc) (by go_simp) ?_
      simp only [Act.put, List.setIfInBounds_toArray, List.set_cons_zero, List.set_cons_succ]
      refine WL.val (by kernel_rfl) (.slice oa l.length oc) (by go_simp) ?_
      simp only [Act.put, List.setIfInBounds_toArray, List.set_cons_zero, List.set_cons_succ]
      refine WL.nil ?_
      refine hK15 _ _ ?_
      refine wp_ret ?_
      go_ret
      refine ⟨_, rfl, ?_, JG.out, l, JO.out, JN.out, ?_⟩
      · rcases JC.out with ⟨h1, _⟩ | ⟨_, h1, h2⟩
        · exact absurd h1 hy
        · rw [h1, h2]; exact JX.out
      · intro h
        rcases JC.out with ⟨h1, _⟩ | ⟨_, h1, h2⟩
        · exact absurd h1 hy
        · exact absurd (h1.symm.trans h) hy
  · have hte : Keep (t = n) := ⟨by omega⟩
    have hlt' : ¬ (t : Int) < (n : Int) := by omega
    refine wp_seq_k fun K16 hK16 => ?_
    refine wp_seq_k fun K17 hK17 => ?_
    refine wp_region_list (WL.out ?_)
    refine WL.val (by kernel_rfl) (.int .i64 (t : Int)) (by go_simp) ?_
    simp only [Act.put, List.setIfInBounds_toArray, List.set_cons_zero, List.set_cons_succ]
    refine WL.val (by kernel_rfl) (.int .u64 (n : Int)) (by go_simp) ?_
    simp only [Act.put, List.setIfInBounds_toArray, List.set_cons_zero, List.set_cons_succ]
    refine WL.val (by kernel_rfl) (.int .i64 (n : Int)) (by go_simp) ?_
    simp only [Act.put, List.setIfInBounds_toArray, List.set_cons_zero, List.set_cons_succ]
    refine WL.val (by kernel_rfl) (.bool false) (by go_simp) ?_
    simp only [Act.put, List.setIfInBounds_toArray, List.set_cons_zero, List.set_cons_succ]
    refine WL.val (by kernel_rfl) (.bool false) (by go_simp) ?_
    simp only [Act.put, List.setIfInBounds_toArray, List.set_cons_zero, List.set_cons_succ]
    refine WL.skip (by kernel_rfl) ?_
    simp only [Act.put, List.setIfInBounds_toArray, List.set_cons_zero, List.set_cons_succ]
    refine WL.skip (by kernel_rfl) ?_
    simp only [Act.put, List.setIfInBounds_toArray, List.set_cons_zero, List.set_cons_succ]
    refine WL.skip (by kernel_rfl) ?_
    simp only [Act.put, List.setIfInBounds_toArray, List.set_cons_zero, List.set_cons_succ]
    refine WL.skip (by kernel_rfl) ?_
    simp only [Act.put, List.setIfInBounds_toArray, List.set_cons_zero, List.set_cons_succ]
    refine WL.skip (by kernel_rfl) ?_
    simp only [Act.put, List.setIfInBounds_toArray, List.set_cons_zero, List.set_cons_succ]
    refine WL.skip (by kernel_rfl) ?_
    simp only [Act.put, List.setIfInBounds_toArray, List.set_cons_zero, List.set_cons_succ]
    refine WL.val (by kernel_rfl) (.bool false) (by go_simp) ?_
    simp only [Act.put, List.setIfInBounds_toArray, List.set_cons_zero, List.set_cons_succ]
    refine WL.nil ?_
    refine hK17 _ _ ?_
    refine wp_cond_false rfl ?_
    refine wp_exit ?_
    refine hK4 _ _ ?_
    refine wp_seq_k fun K18 hK18 => ?_
    refine wp_region_list (WL.out ?_)
    refine WL.val (by kernel_rfl) (.slice oa l.length oc) (by go_simp) ?_
    simp only [Act.put, List.setIfInBounds_toArray, List.set_cons_zero, List.set_cons_succ]
    refine WL.val (by kernel_rfl) (.slice oa l.length oc) (by go_simp) ?_
    simp only [Act.put, List.setIfInBounds_toArray, List.set_cons_zero, List.set_cons_succ]
    refine WL.nil ?_
    refine hK18 _ _ ?_
    refine wp_ret ?_
    go_ret
    refine ⟨_, rfl, ?_, JG.out, l, JO.out, JN.out, ?_⟩
    · rcases JC.out with ⟨h1, h2⟩ | ⟨_, h1, h2⟩
      · rw [hte.out, Nat.sub_self, getH] at h2
        rw [h2]; have h := JX.out; rw [h1] at h; exact h
      · rw [h1, h2]; exact JX.out
    · intro h
      rcases JC.out with ⟨h1, h2⟩ | ⟨h3, h1, h2⟩
      · rw [hte.out, Nat.sub_self, getH] at h2
        rw [h2]
      · exact absurd (h1.symm.trans h) h3
end Go.Proofs.Ytlogkojhcccogaa
