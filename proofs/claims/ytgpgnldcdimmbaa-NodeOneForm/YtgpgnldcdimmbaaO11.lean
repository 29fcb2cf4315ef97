import Derived.Test.YtgpgnldcdimmbaaO10
import Derived.Test.YtgpgnldcdimmbaaO09
import Derived.Deep.RegionHeld3
namespace Go.Proofs.Ytgpgnldcdimmbaa
open Go.RowKit
set_option linter.unusedSimpArgs false
set_option linter.unusedVariables false

theorem Try.in39 (w : World) (vs : Array Value) : (callFunc 39 vs).run Try.prog w = .ok (.enter 39 vs) w := by kernel_rfl
theorem Try.in40 (w : World) (vs : Array Value) : (callFunc 40 vs).run Try.prog w = .ok (.enter 40 vs) w := by kernel_rfl
theorem Try.in20 (w : World) (vs : Array Value) : (callFunc 20 vs).run Try.prog w = .ok (.enter 20 vs) w := by kernel_rfl
set_option maxRecDepth 8000 in
set_option maxHeartbeats 2000000 in
theorem eqH_any (A B : List Hs) (va vb : Value) (w : World) (hA : Sh.HRow w va A) (hB : Sh.HRow w vb B) (hl : A.length ≤ 4398046511104) : Calls Try.prog 39 #[va, vb] w fun e w' => e = .returned (.bool (decide (A = B))) ∧ Below w.heap.size w w' := by
  obtain ⟨pa, pc, rfl⟩ := hA.form
  obtain ⟨pb, pd, rfl⟩ := hB.form
  have HA := Keep.mk hA
  have HB := Keep.mk hB
  have Hlp := Keep.mk hl
  clear hA hB hl
  go_enter Try.func39, Try.ntmps39
  refine wp_seq_k fun K1 hK1 => ?_
  refine wp_region_list (WL.out ?_)
  refine WL.val (by kernel_rfl) (.bool false) (by go_simp) ?_
  simp only [Act.put, List.setIfInBounds_toArray, List.set_cons_zero, List.set_cons_succ]
  refine WL.nil ?_
  refine hK1 _ _ ?_
  refine wp_seq_k fun K2 hK2 => ?_
  refine wp_seq_k fun K3 hK3 => ?_
  refine wp_region_list (WL.out ?_)
  refine WL.val (by kernel_rfl) (.slice pa A.length pc) (by go_simp) ?_
  simp only [Act.put, List.setIfInBounds_toArray, List.set_cons_zero, List.set_cons_succ]
  refine WL.val (by kernel_rfl) (.int .i64 (A.length : Int)) (by go_simp) ?_
  simp only [Act.put, List.setIfInBounds_toArray, List.set_cons_zero, List.set_cons_succ]
  refine WL.val (by kernel_rfl) (.slice pb B.length pd) (by go_simp) ?_
  simp only [Act.put, List.setIfInBounds_toArray, List.set_cons_zero, List.set_cons_succ]
  refine WL.val (by kernel_rfl) (.int .i64 (B.length : Int)) (by go_simp) ?_
  simp only [Act.put, List.setIfInBounds_toArray, List.set_cons_zero, List.set_cons_succ]
  by_cases h1_4 : A.length = B.length
  · have h1_4i : (A.length : Int) = (B.length : Int) := by omega
    refine WL.val (by kernel_rfl) (.bool false) (by go_simp) ?_
    simp only [Act.put, List.setIfInBounds_toArray, List.set_cons_zero, List.set_cons_succ]
    refine WL.nil ?_
    refine hK3 _ _ ?_
    refine wp_cond_false rfl ?_
    refine wp_skip ?_
    refine hK2 _ _ ?_
    refine wp_seq_k fun K4 hK4 => ?_
    refine wp_seq_k fun K5 hK5 => ?_
    refine wp_region_list (WL.out ?_)
    refine WL.val (by kernel_rfl) (.slice pa A.length pc) (by go_simp) ?_
    simp only [Act.put, List.setIfInBounds_toArray, List.set_cons_zero, List.set_cons_succ]
    refine WL.val (by kernel_rfl) (.int .i64 (A.length : Int)) (by go_simp) ?_
    simp only [Act.put, List.setIfInBounds_toArray, List.set_cons_zero, List.set_cons_succ]
    refine WL.val (by kernel_rfl) (.int .i64 0) (by go_simp) ?_
    simp only [Act.put, List.setIfInBounds_toArray, List.set_cons_zero, List.set_cons_succ]
    refine WL.nil ?_
    refine hK5 _ _ ?_
    refine wp_block ?_
    refine wp_loop (fun ac wr => ∃ (t : Nat) (u4 u5 u14 u15 u16 u17 u18 u19 u20 u21 u22 u23 u24 u25 : Value), ac = { tmps := #[.slice pa A.length pc, .slice pb B.length pd, undef, undef, u4, u5, .slice pa A.length pc, .int .i64 (A.length : Int), .slice pb B.length pd, .int .i64 (B.length : Int), .bool false, .slice pa A.length pc, .int .i64 (A.length : Int), .int .i64 (t : Int), u14, u15, u16, u17, u18, u19, u20, u21, u22, u23, u24, u25], defers := [] } ∧ t ≤ A.length ∧ (∀ i, i < t → A.getD i default = B.getD i default) ∧ Below w.heap.size w wr) (fun a _ => A.length - (intOf (a.tmps.getD 13 undef)).toNat) ⟨0, .bool false, undef, undef, undef, undef, undef, undef, undef, undef, undef, undef, undef, undef, undef, rfl, by omega, (fun i hi => by omega), Below.refl _ _⟩ ?_
    rintro ac wr ⟨t, u4, u5, u14, u15, u16, u17, u18, u19, u20, u21, u22, u23, u24, u25, rfl, ht, hE, hB⟩
    by_cases htl : t < A.length
    · have htl' : (t : Int) < (A.length : Int) := by omega
      have hwr1 : IntKind.i64.wrap ((t : Int) + 1) = (t : Int) + 1 := by rw [IntKind.wrap_i64]; have := Hlp.out; omega
      have htb : t < B.length := by omega
      obtain ⟨ga, fa, rfl, hea⟩ := HRow.elem (HA.out.below hB) htl
      obtain ⟨gb, fb, rfl, heb⟩ := HRow.elem (HB.out.below hB) htb
      obtain ⟨x, hx⟩ : ∃ x, x = A.getD t default := ⟨_, rfl⟩
      obtain ⟨y, hy⟩ : ∃ y, y = B.getD t default := ⟨_, rfl⟩
      rw [← hx] at hea
      rw [← hy] at heb
      have htb' : (t : Int) < (B.length : Int) := by omega
      have HS0 : Keep (∀ wx, Below wr.heap.size wr wx → wx.rangeAt ga (fa + t * 32) (Sh.encH x) ∧ wx.rangeAt gb (fb + t * 32) (Sh.encH y)) := ⟨fun wx hb => ⟨hea wx hb, heb wx hb⟩⟩
      have Jx := Keep.mk hx
      have Jy := Keep.mk hy
      have JB := Keep.mk hB
      have JE := Keep.mk hE
      clear hea heb hx hy hB hE
      refine wp_seq_k fun K6 hK6 => ?_
      refine wp_region_list (WL.out ?_)
      refine WL.val (by kernel_rfl) (.bool true) (by go_simp) ?_
      simp only [Act.put, List.setIfInBounds_toArray, List.set_cons_zero, List.set_cons_succ]
      refine WL.nil ?_
      refine hK6 _ _ ?_
      refine wp_seq_k fun K7 hK7 => ?_
      refine wp_cond_true rfl ?_
      refine wp_skip ?_
      refine hK7 _ _ ?_
      refine wp_seq_k fun K8 hK8 => ?_
      refine wp_block ?_
      refine wp_seq_k fun K9 hK9 => ?_
      refine wp_region_list (WL.out ?_)
      refine WL.val (by kernel_rfl) (.int .i64 (t : Int)) (by go_simp) ?_
      simp only [Act.put, List.setIfInBounds_toArray, List.set_cons_zero, List.set_cons_succ]
      refine WL.val (by kernel_rfl) (.int .i64 (t : Int)) (by go_simp) ?_
      simp only [Act.put, List.setIfInBounds_toArray, List.set_cons_zero, List.set_cons_succ]
      refine WL.nil ?_
      refine hK9 _ _ ?_
      refine wp_seq_k fun K10 hK10 => ?_
      have hD0 : Below wr.heap.size wr wr.drew := (Below.refl _ _).drew
      by_cases hxy : x = y
      · have hnq := neqH_run x y true (decide_eq_true hxy)
        have Hxy := Keep.mk hxy
        clear hxy
        refine wp_region_held_drew (S := fun wx => wx.rangeAt ga (fa + t * 32) (Sh.encH x) ∧ wx.rangeAt gb (fb + t * 32) (Sh.encH y)) (by kernel_rfl) (HS0.out _ hD0) (fun hHeld => ?_)
        refine wpAnyH_take (i := 0) (oi := ⟨some 16, Op.move (Operand.tmp 0), 24, _, _, none⟩) (v := .slice (some ⟨ga, fa, none⟩) A.length pc) rfl (by kernel_rfl) (by kernel_rfl) (by kernel_rfl) (fun _ _ _ h => h) (Or.inl ⟨by rfl, fun w hS => by obtain ⟨hs1, hs2⟩ := hS; go_simp⟩) hHeld ?_
        simp only [Act.put, List.setIfInBounds_toArray, List.set_cons_zero, List.set_cons_succ]
        refine wpAnyH_take (i := 1) (oi := ⟨some 17, Op.move (Operand.tmp 5), 3, _, _, none⟩) (v := .int .i64 (t : Int)) rfl (by kernel_rfl) (by kernel_rfl) (by kernel_rfl) (fun _ _ _ h => h) (Or.inl ⟨by rfl, fun w hS => by obtain ⟨hs1, hs2⟩ := hS; go_simp⟩) hHeld ?_
        simp only [Act.put, List.setIfInBounds_toArray, List.set_cons_zero, List.set_cons_succ]
        refine wpAnyH_take (i := 2) (oi := ⟨some 18, Op.indexAddr 24 (Operand.tmp 16) (Operand.tmp 17), 0, _, _, none⟩) (v := .pointer (some ⟨ga, fa + t * 32, none⟩)) rfl (by kernel_rfl) (by kernel_rfl) (by kernel_rfl) (fun _ _ _ h => h) (Or.inl ⟨by rfl, fun w hS => by obtain ⟨hs1, hs2⟩ := hS; go_simp⟩) hHeld ?_
        simp only [Act.put, List.setIfInBounds_toArray, List.set_cons_zero, List.set_cons_succ]
        refine wpAnyH_take (i := 3) (oi := ⟨some 19, Op.load 40 (Operand.tmp 18), 40, _, _, none⟩) (v := .agg (Sh.encH x).toArray) rfl (by kernel_rfl) (by kernel_rfl) (by kernel_rfl) (fun _ _ _ h => h) (yieldsIf_load_mid (by rfl) 40 (Operand.tmp 18) rfl ga (fa + t * 32) rfl (Sh.encH x) _ (fun w hS => hS.1) Try.underlying40 rfl (Try.sizeHL x)) hHeld ?_
        simp only [Act.put, List.setIfInBounds_toArray, List.set_cons_zero, List.set_cons_succ]
        refine wpAnyH_take (i := 4) (oi := ⟨some 20, Op.move (Operand.tmp 1), 24, _, _, none⟩) (v := .slice (some ⟨gb, fb, none⟩) B.length pd) rfl (by kernel_rfl) (by kernel_rfl) (by kernel_rfl) (fun _ _ _ h => h) (Or.inl ⟨by rfl, fun w hS => by obtain ⟨hs1, hs2⟩ := hS; go_simp⟩) hHeld ?_
        simp only [Act.put, List.setIfInBounds_toArray, List.set_cons_zero, List.set_cons_succ]
        refine wpAnyH_take (i := 5) (oi := ⟨some 21, Op.move (Operand.tmp 5), 3, _, _, none⟩) (v := .int .i64 (t : Int)) rfl (by kernel_rfl) (by kernel_rfl) (by kernel_rfl) (fun _ _ _ h => h) (Or.inl ⟨by rfl, fun w hS => by obtain ⟨hs1, hs2⟩ := hS; go_simp⟩) hHeld ?_
        simp only [Act.put, List.setIfInBounds_toArray, List.set_cons_zero, List.set_cons_succ]
        refine wpAnyH_take (i := 6) (oi := ⟨some 22, Op.indexAddr 24 (Operand.tmp 20) (Operand.tmp 21), 0, _, _, none⟩) (v := .pointer (some ⟨gb, fb + t * 32, none⟩)) rfl (by kernel_rfl) (by kernel_rfl) (by kernel_rfl) (fun _ _ _ h => h) (Or.inl ⟨by rfl, fun w hS => by obtain ⟨hs1, hs2⟩ := hS; go_simp⟩) hHeld ?_
        simp only [Act.put, List.setIfInBounds_toArray, List.set_cons_zero, List.set_cons_succ]
        refine wpAnyH_take (i := 7) (oi := ⟨some 23, Op.load 40 (Operand.tmp 22), 40, _, _, none⟩) (v := .agg (Sh.encH y).toArray) rfl (by kernel_rfl) (by kernel_rfl) (by kernel_rfl) (fun _ _ _ h => h) (yieldsIf_load_mid (by rfl) 40 (Operand.tmp 22) rfl gb (fb + t * 32) rfl (Sh.encH y) _ (fun w hS => hS.2) Try.underlying40 rfl (Try.sizeHL y)) hHeld ?_
        simp only [Act.put, List.setIfInBounds_toArray, List.set_cons_zero, List.set_cons_succ]
        refine wpAnyH_take (i := 8) (oi := ⟨some 24, Op.binOp BinOp.neq 40 (Operand.tmp 19) (Operand.tmp 23) 40, 4, _, _, none⟩) (v := .bool false) rfl (by kernel_rfl) (by kernel_rfl) (by kernel_rfl) (fun _ _ _ h => h) (Or.inl ⟨by rfl, fun w hS => by have hnq' := hnq w; go_simp⟩) hHeld ?_
        simp only [Act.put, List.setIfInBounds_toArray, List.set_cons_zero, List.set_cons_succ]
        refine wpAnyH_done (by kernel_rfl) ?_ _
        refine hK10 _ _ ?_
        refine wp_cond_false rfl ?_
        refine wp_skip ?_
        refine hK8 _ _ ?_
        refine wp_region_list (WL.out ?_)
        refine WL.val (by kernel_rfl) (.int .i64 ((t : Int) + 1)) (by go_simp) ?_
        simp only [Act.put, List.setIfInBounds_toArray, List.set_cons_zero, List.set_cons_succ]
        refine WL.val (by kernel_rfl) (.int .i64 ((t : Int) + 1)) (by go_simp) ?_
        simp only [Act.put, List.setIfInBounds_toArray, List.set_cons_zero, List.set_cons_succ]
        refine WL.nil ?_
        refine ⟨⟨t + 1, u4, .int .i64 (t : Int), .bool true, .int .i64 (t : Int), .slice (some ⟨ga, fa, none⟩) A.length pc, .int .i64 (t : Int), .pointer (some ⟨ga, fa + t * 32, none⟩), .agg (Sh.encH x).toArray, .slice (some ⟨gb, fb, none⟩) B.length pd, .int .i64 (t : Int), .pointer (some ⟨gb, fb + t * 32, none⟩), .agg (Sh.encH y).toArray, .bool false, .int .i64 ((t : Int) + 1), rfl, by omega, fun i hi => ?_, JB.out.trans (hD0.mono JB.out.size)⟩, ?_⟩
        · by_cases hit : i < t
          · exact JE.out i hit
          · rw [show i = t by omega, ← Jx.out, ← Jy.out]; exact Hxy.out
        · simp only [intOf]; show A.length - ((t : Int) + 1).toNat < A.length - ((t : Int)).toNat; omega
      · have hnq := neqH_run x y false (decide_eq_false hxy)
        have Hxy := Keep.mk hxy
        clear hxy
        refine wp_region_held_drew (S := fun wx => wx.rangeAt ga (fa + t * 32) (Sh.encH x) ∧ wx.rangeAt gb (fb + t * 32) (Sh.encH y)) (by kernel_rfl) (HS0.out _ hD0) (fun hHeld => ?_)
        refine wpAnyH_take (i := 0) (oi := ⟨some 16, Op.move (Operand.tmp 0), 24, _, _, none⟩) (v := .slice (some ⟨ga, fa, none⟩) A.length pc) rfl (by kernel_rfl) (by kernel_rfl) (by kernel_rfl) (fun _ _ _ h => h) (Or.inl ⟨by rfl, fun w hS => by obtain ⟨hs1, hs2⟩ := hS; go_simp⟩) hHeld ?_
        simp only [Act.put, List.setIfInBounds_toArray, List.set_cons_zero, List.set_cons_succ]
        refine wpAnyH_take (i := 1) (oi := ⟨some 17, Op.move (Operand.tmp 5), 3, _, _, none⟩) (v := .int .i64 (t : Int)) rfl (by kernel_rfl) (by kernel_rfl) (by kernel_rfl) (fun _ _ _ h => h) (Or.inl ⟨by rfl, fun w hS => by obtain ⟨hs1, hs2⟩ := hS; go_simp⟩) hHeld ?_
        simp only [Act.put, List.setIfInBounds_toArray, List.set_cons_zero, List.set_cons_succ]
        refine wpAnyH_take (i := 2) (oi := ⟨some 18, Op.indexAddr 24 (Operand.tmp 16) (Operand.tmp 17), 0, _, _, none⟩) (v := .pointer (some ⟨ga, fa + t * 32, none⟩)) rfl (by kernel_rfl) (by kernel_rfl) (by kernel_rfl) (fun _ _ _ h => h) (Or.inl ⟨by rfl, fun w hS => by obtain ⟨hs1, hs2⟩ := hS; go_simp⟩) hHeld ?_
        simp only [Act.put, List.setIfInBounds_toArray, List.set_cons_zero, List.set_cons_succ]
        refine wpAnyH_take (i := 3) (oi := ⟨some 19, Op.load 40 (Operand.tmp 18), 40, _, _, none⟩) (v := .agg (Sh.encH x).toArray) rfl (by kernel_rfl) (by kernel_rfl) (by kernel_rfl) (fun _ _ _ h => h) (yieldsIf_load_mid (by rfl) 40 (Operand.tmp 18) rfl ga (fa + t * 32) rfl (Sh.encH x) _ (fun w hS => hS.1) Try.underlying40 rfl (Try.sizeHL x)) hHeld ?_
        simp only [Act.put, List.setIfInBounds_toArray, List.set_cons_zero, List.set_cons_succ]
        refine wpAnyH_take (i := 4) (oi := ⟨some 20, Op.move (Operand.tmp 1), 24, _, _, none⟩) (v := .slice (some ⟨gb, fb, none⟩) B.length pd) rfl (by kernel_rfl) (by kernel_rfl) (by kernel_rfl) (fun _ _ _ h => h) (Or.inl ⟨by rfl, fun w hS => by obtain ⟨hs1, hs2⟩ := hS; go_simp⟩) hHeld ?_
        simp only [Act.put, List.setIfInBounds_toArray, List.set_cons_zero, List.set_cons_succ]
        refine wpAnyH_take (i := 5) (oi := ⟨some 21, Op.move (Operand.tmp 5), 3, _, _, none⟩) (v := .int .i64 (t : Int)) rfl (by kernel_rfl) (by kernel_rfl) (by kernel_rfl) (fun _ _ _ h => h) (Or.inl ⟨by rfl, fun w hS => by obtain ⟨hs1, hs2⟩ := hS; go_simp⟩) hHeld ?_
        simp only [Act.put, List.setIfInBounds_toArray, List.set_cons_zero, List.set_cons_succ]
        refine wpAnyH_take (i := 6) (oi := ⟨some 22, Op.indexAddr 24 (Operand.tmp 20) (Operand.tmp 21), 0, _, _, none⟩) (v := .pointer (some ⟨gb, fb + t * 32, none⟩)) rfl (by kernel_rfl) (by kernel_rfl) (by kernel_rfl) (fun _ _ _ h => h) (Or.inl ⟨by rfl, fun w hS => by obtain ⟨hs1, hs2⟩ := hS; go_simp⟩) hHeld ?_
        simp only [Act.put, List.setIfInBounds_toArray, List.set_cons_zero, List.set_cons_succ]
        refine wpAnyH_take (i := 7) (oi := ⟨some 23, Op.load 40 (Operand.tmp 22), 40, _, _, none⟩) (v := .agg (Sh.encH y).toArray) rfl (by kernel_rfl) (by kernel_rfl) (by kernel_rfl) (fun _ _ _ h => h) (yieldsIf_load_mid (by rfl) 40 (Operand.tmp 22) rfl gb (fb + t * 32) rfl (Sh.encH y) _ (fun w hS => hS.2) Try.underlying40 rfl (Try.sizeHL y)) hHeld ?_
        simp only [Act.put, List.setIfInBounds_toArray, List.set_cons_zero, List.set_cons_succ]
        refine wpAnyH_take (i := 8) (oi := ⟨some 24, Op.binOp BinOp.neq 40 (Operand.tmp 19) (Operand.tmp 23) 40, 4, _, _, none⟩) (v := .bool true) rfl (by kernel_rfl) (by kernel_rfl) (by kernel_rfl) (fun _ _ _ h => h) (Or.inl ⟨by rfl, fun w hS => by have hnq' := hnq w; go_simp⟩) hHeld ?_
        simp only [Act.put, List.setIfInBounds_toArray, List.set_cons_zero, List.set_cons_succ]
        refine wpAnyH_done (by kernel_rfl) ?_ _
        refine hK10 _ _ ?_
        refine wp_cond_true rfl ?_
        refine wp_seq_k fun K11 hK11 => ?_
        refine wp_region_list (WL.out ?_)
        refine WL.val (by kernel_rfl) (.bool false) (by go_simp) ?_
        simp only [Act.put, List.setIfInBounds_toArray, List.set_cons_zero, List.set_cons_succ]
        refine WL.nil ?_
        refine hK11 _ _ ?_
        refine wp_ret ?_
        go_ret
        have hno : decide (A = B) = false := decide_eq_false (fun e => Hxy.out (by rw [Jx.out, Jy.out, e]))
        exact ⟨by rw [hno]; rfl, JB.out.trans ((Below.refl _ _).drew.mono JB.out.size)⟩
    · have htl' : ¬ (t : Int) < (A.length : Int) := by omega
      have hle2 : B.length ≤ t := by omega
      refine wp_seq_k fun K12 hK12 => ?_
      refine wp_region_list (WL.out ?_)
      refine WL.val (by kernel_rfl) (.bool false) (by go_simp) ?_
      simp only [Act.put, List.setIfInBounds_toArray, List.set_cons_zero, List.set_cons_succ]
      refine WL.nil ?_
      refine hK12 _ _ ?_
      refine wp_seq_k fun K13 hK13 => ?_
      refine wp_cond_false rfl ?_
      refine wp_exit ?_
      refine hK4 _ _ ?_
      refine wp_seq_k fun K14 hK14 => ?_
      refine wp_region_list (WL.out ?_)
      refine WL.val (by kernel_rfl) (.bool true) (by go_simp) ?_
      simp only [Act.put, List.setIfInBounds_toArray, List.set_cons_zero, List.set_cons_succ]
      refine WL.nil ?_
      refine hK14 _ _ ?_
      refine wp_ret ?_
      go_ret
      have hyes : decide (A = B) = true := decide_eq_true (ps_eq h1_4 (fun i hi => hE i (by omega)))
      exact ⟨by rw [hyes]; rfl, hB⟩
  · have h1_4i : ¬ (A.length : Int) = (B.length : Int) := by omega
    refine WL.val (by kernel_rfl) (.bool true) (by go_simp) ?_
    simp only [Act.put, List.setIfInBounds_toArray, List.set_cons_zero, List.set_cons_succ]
    refine WL.nil ?_
    refine hK3 _ _ ?_
    refine wp_cond_true rfl ?_
    refine wp_seq_k fun K15 hK15 => ?_
    refine wp_region_list (WL.out ?_)
    refine WL.val (by kernel_rfl) (.bool false) (by go_simp) ?_
    simp only [Act.put, List.setIfInBounds_toArray, List.set_cons_zero, List.set_cons_succ]
    refine WL.nil ?_
    refine hK15 _ _ ?_
    refine wp_ret ?_
    go_ret
    exact ⟨by rw [decide_eq_false (fun e : A = B => h1_4 (by rw [e]))]; rfl, Below.refl _ _⟩
set_option maxRecDepth 8000 in
set_option maxHeartbeats 2000000 in
theorem eqO_any (A B : List OpV) (va vb : Value) (w : World) (hA : OpsAt w va A) (hB : OpsAt w vb B) (hl : A.length ≤ 4398046511104) : Calls Try.prog 40 #[va, vb, .func (.func 41) #[] #[]] w fun e w' => e = .returned (.bool (smL A B)) ∧ Below w.heap.size w w' := by
  obtain ⟨pa, pc, rfl⟩ := hA.form
  obtain ⟨pb, pd, rfl⟩ := hB.form
  have HA := Keep.mk hA
  have HB := Keep.mk hB
  have Hlp := Keep.mk hl
  clear hA hB hl
  go_enter Try.func40, Try.ntmps40
  refine wp_seq_k fun K1 hK1 => ?_
  refine wp_region_list (WL.out ?_)
  refine WL.val (by kernel_rfl) (.bool false) (by go_simp) ?_
  simp only [Act.put, List.setIfInBounds_toArray, List.set_cons_zero, List.set_cons_succ]
  refine WL.nil ?_
  refine hK1 _ _ ?_
  refine wp_seq_k fun K2 hK2 => ?_
  refine wp_seq_k fun K3 hK3 => ?_
  refine wp_region_list (WL.out ?_)
  refine WL.val (by kernel_rfl) (.slice pa A.length pc) (by go_simp) ?_
  simp only [Act.put, List.setIfInBounds_toArray, List.set_cons_zero, List.set_cons_succ]
  refine WL.val (by kernel_rfl) (.int .i64 (A.length : Int)) (by go_simp) ?_
  simp only [Act.put, List.setIfInBounds_toArray, List.set_cons_zero, List.set_cons_succ]
  refine WL.val (by kernel_rfl) (.slice pb B.length pd) (by go_simp) ?_
  simp only [Act.put, List.setIfInBounds_toArray, List.set_cons_zero, List.set_cons_succ]
  refine WL.val (by kernel_rfl) (.int .i64 (B.length : Int)) (by go_simp) ?_
  simp only [Act.put, List.setIfInBounds_toArray, List.set_cons_zero, List.set_cons_succ]
  by_cases h1_4 : A.length = B.length
  · have h1_4i : (A.length : Int) = (B.length : Int) := by omega
    refine WL.val (by kernel_rfl) (.bool false) (by go_simp) ?_
    simp only [Act.put, List.setIfInBounds_toArray, List.set_cons_zero, List.set_cons_succ]
    refine WL.nil ?_
    refine hK3 _ _ ?_
    refine wp_cond_false rfl ?_
    refine wp_skip ?_
    refine hK2 _ _ ?_
    refine wp_seq_k fun K4 hK4 => ?_
    refine wp_seq_k fun K5 hK5 => ?_
    refine wp_region_list (WL.out ?_)
    refine WL.val (by kernel_rfl) (.slice pa A.length pc) (by go_simp) ?_
    simp only [Act.put, List.setIfInBounds_toArray, List.set_cons_zero, List.set_cons_succ]
    refine WL.val (by kernel_rfl) (.int .i64 (A.length : Int)) (by go_simp) ?_
    simp only [Act.put, List.setIfInBounds_toArray, List.set_cons_zero, List.set_cons_succ]
    refine WL.val (by kernel_rfl) (.int .i64 0) (by go_simp) ?_
    simp only [Act.put, List.setIfInBounds_toArray, List.set_cons_zero, List.set_cons_succ]
    refine WL.nil ?_
    refine hK5 _ _ ?_
    refine wp_block ?_
    refine wp_loop (fun ac wr => ∃ (t : Nat) (u6 u7 u8 u9 u18 u19 u20 u21 u22 u23 u24 u25 u26 u27 u28 u29 u30 u31 : Value), ac = { tmps := #[.slice pa A.length pc, .slice pb B.length pd, .func (.func 41) #[] #[], undef, undef, undef, u6, u7, u8, u9, .slice pa A.length pc, .int .i64 (A.length : Int), .slice pb B.length pd, .int .i64 (B.length : Int), .bool false, .slice pa A.length pc, .int .i64 (A.length : Int), .int .i64 (t : Int), u18, u19, u20, u21, u22, u23, u24, u25, u26, u27, u28, u29, u30, u31], defers := [] } ∧ t ≤ A.length ∧ (∀ i, i < t → sm (A.getD i zeroOp) (B.getD i zeroOp) = true) ∧ Below w.heap.size w wr) (fun a _ => A.length - (intOf (a.tmps.getD 17 undef)).toNat) ⟨0, .bool false, undef, undef, undef, undef, undef, undef, undef, undef, undef, undef, undef, undef, undef, undef, undef, undef, undef, rfl, by omega, (fun i hi => by omega), Below.refl _ _⟩ ?_
    rintro ac wr ⟨t, u6, u7, u8, u9, u18, u19, u20, u21, u22, u23, u24, u25, u26, u27, u28, u29, u30, u31, rfl, ht, hE, hB⟩
    by_cases htl : t < A.length
    · have htl' : (t : Int) < (A.length : Int) := by omega
      have hwr1 : IntKind.i64.wrap ((t : Int) + 1) = (t : Int) + 1 := by rw [IntKind.wrap_i64]; have := Hlp.out; omega
      have htb : t < B.length := by omega
      have htb' : (t : Int) < (B.length : Int) := by omega
      obtain ⟨ga, fa, rfl, hea⟩ := (HA.out.below hB).at htl
      obtain ⟨gb, fb, rfl, heb⟩ := (HB.out.below hB).at htb
      obtain ⟨x, hx⟩ : ∃ x, x = A.getD t zeroOp := ⟨_, rfl⟩
      obtain ⟨y, hy⟩ : ∃ y, y = B.getD t zeroOp := ⟨_, rfl⟩
      rw [← hx] at hea
      rw [← hy] at heb
      have Jx := Keep.mk hx
      have Jy := Keep.mk hy
      have JB := Keep.mk hB
      have JE := Keep.mk hE
      have Jeb := Keep.mk heb
      clear heb hx hy hB hE
      refine wp_seq_k fun K6 hK6 => ?_
      refine wp_region_list (WL.out ?_)
      refine WL.val (by kernel_rfl) (.bool true) (by go_simp) ?_
      simp only [Act.put, List.setIfInBounds_toArray, List.set_cons_zero, List.set_cons_succ]
      refine WL.nil ?_
      refine hK6 _ _ ?_
      refine wp_seq_k fun K7 hK7 => ?_
      refine wp_cond_true rfl ?_
      refine wp_skip ?_
      refine hK7 _ _ ?_
      refine wp_seq_k fun K8 hK8 => ?_
      refine wp_block ?_
      refine wp_seq_k fun K9 hK9 => ?_
      refine wp_region_list (WL.out ?_)
      refine WL.val (by kernel_rfl) (.int .i64 (t : Int)) (by go_simp) ?_
      simp only [Act.put, List.setIfInBounds_toArray, List.set_cons_zero, List.set_cons_succ]
      refine WL.val (by kernel_rfl) (.pointer (some ⟨ga, fa + t * 37, none⟩)) (by go_simp) ?_
      simp only [Act.put, List.setIfInBounds_toArray, List.set_cons_zero, List.set_cons_succ]
      refine WL.mid (by kernel_rfl) 79 (.tmp 20) rfl ga (fa + t * 37) rfl (opL x) _ hea Try.underlying79 rfl (Try.size79L x) ?_
      rw [rng_load]
      simp only [Act.put, List.setIfInBounds_toArray, List.set_cons_zero, List.set_cons_succ]
      refine WL.new (by kernel_rfl) 79 rfl _ Try.new79 ?_
      simp only [Act.put, List.setIfInBounds_toArray, List.set_cons_zero, List.set_cons_succ]
      refine WL.val (by kernel_rfl) (.int .i64 (t : Int)) (by go_simp) ?_
      simp only [Act.put, List.setIfInBounds_toArray, List.set_cons_zero, List.set_cons_succ]
      refine WL.storeR (by kernel_rfl) 79 (.tmp 8) (.tmp 21) rfl wr.heap.size (opA x) rfl rfl 79 (opA zeroOp) (Blk.new wr 79 _) (Try.size79B x) (opA_sizes _ _) (opA_one x) ?_
      have HX := Keep.mk ((Blk.new wr 79 (opA zeroOp)).setRow (opA x))
      have BX : Keep (Below wr.heap.size wr ((wr.alloc (.cells (opA zeroOp) 79)).setRow wr.heap.size (opA x))) := ⟨below_setRow (below_new wr _) (Nat.le_refl _) _⟩
      generalize (wr.alloc (.cells (opA zeroOp) 79)).setRow wr.heap.size (opA x) = w5 at *
      have heb := range_grown Jeb.out (Grown.below (S := fun _ => False) BX.out) (fun h => h)
      clear hea
      simp only [Act.put]
      refine WL.nil ?_
      refine hK9 _ _ ?_
      refine wp_seq_k fun K10 hK10 => ?_
      refine wp_region_list (WL.out ?_)
      refine WL.val (by kernel_rfl) (.slice (some ⟨gb, fb, none⟩) B.length pd) (by go_simp) ?_
      simp only [Act.put, List.setIfInBounds_toArray, List.set_cons_zero, List.set_cons_succ]
      refine WL.val (by kernel_rfl) (.int .i64 (t : Int)) (by go_simp) ?_
      simp only [Act.put, List.setIfInBounds_toArray, List.set_cons_zero, List.set_cons_succ]
      refine WL.val (by kernel_rfl) (.pointer (some ⟨gb, fb + t * 37, none⟩)) (by go_simp) ?_
      simp only [Act.put, List.setIfInBounds_toArray, List.set_cons_zero, List.set_cons_succ]
      refine WL.mid (by kernel_rfl) 79 (.tmp 24) rfl gb (fb + t * 37) rfl (opL y) _ heb Try.underlying79 rfl (Try.size79L y) ?_
      rw [rng_load]
      simp only [Act.put, List.setIfInBounds_toArray, List.set_cons_zero, List.set_cons_succ]
      refine WL.new (by kernel_rfl) 79 rfl _ Try.new79 ?_
      simp only [Act.put, List.setIfInBounds_toArray, List.set_cons_zero, List.set_cons_succ]
      refine WL.storeR (by kernel_rfl) 79 (.tmp 9) (.tmp 25) rfl w5.heap.size (opA y) rfl rfl 79 (opA zeroOp) (Blk.new w5 79 _) (Try.size79B y) (opA_sizes _ _) (opA_one y) ?_
      have HY := Keep.mk ((Blk.new w5 79 (opA zeroOp)).setRow (opA y))
      have BY : Keep (Below w5.heap.size w5 ((w5.alloc (.cells (opA zeroOp) 79)).setRow w5.heap.size (opA y))) := ⟨below_setRow (below_new w5 _) (Nat.le_refl _) _⟩
      generalize (w5.alloc (.cells (opA zeroOp) 79)).setRow w5.heap.size (opA y) = w6 at *
      have HX6 := Keep.mk (HX.out.below BY.out HX.out.lt)
      have B6 : Keep (Below w.heap.size w w6) := ⟨JB.out.trans ((BX.out.mono JB.out.size).trans (BY.out.mono (Nat.le_trans JB.out.size BX.out.size)))⟩
      clear heb
      simp only [Act.put]
      refine WL.nil ?_
      refine hK10 _ _ ?_
      refine wp_seq_k fun K11 hK11 => ?_
      rcases Bool.eq_false_or_eq_true (sm x y) with hxy | hxy
      · skip
        refine wp_region_list (WL.out ?_)
        refine WL.val (by kernel_rfl) (.func (.func 41) #[] #[]) (by go_simp) ?_
        simp only [Act.put, List.setIfInBounds_toArray, List.set_cons_zero, List.set_cons_succ]
        refine WL.row (by kernel_rfl) 79 (.tmp 8) rfl wr.heap.size rfl 79 (opA x) _ HX6.out Try.underlying79 rfl (Try.size79B _) ?_
        simp only [Act.put, List.setIfInBounds_toArray, List.set_cons_zero, List.set_cons_succ]
        refine WL.row (by kernel_rfl) 79 (.tmp 9) rfl w5.heap.size rfl 79 (opA y) _ HY.out Try.underlying79 rfl (Try.size79B _) ?_
        simp only [Act.put, List.setIfInBounds_toArray, List.set_cons_zero, List.set_cons_succ]
        refine WL.callV (by kernel_rfl) 41 (.tmp 26) _ _ rfl rfl Try.in41 #[.agg (opA x), .agg (opA y)] (by simp [Act.eval]) ?_
        refine (same_any x y w6).mono ?_
        rintro e w7 ⟨rfl, hb7⟩
        refine ⟨_, rfl, ?_⟩
        rw [hxy]
        have B7 : Keep (Below w.heap.size w w7) := ⟨B6.out.trans (hb7.mono B6.out.size)⟩
        clear hb7
        simp only [Act.put, List.setIfInBounds_toArray, List.set_cons_zero, List.set_cons_succ]
        refine WL.val (by kernel_rfl) (.bool false) (by go_simp) ?_
        simp only [Act.put, List.setIfInBounds_toArray, List.set_cons_zero, List.set_cons_succ]
        refine WL.nil ?_
        refine hK11 _ _ ?_
        refine wp_cond_false rfl ?_
        refine wp_skip ?_
        refine hK8 _ _ ?_
        refine wp_region_list (WL.out ?_)
        refine WL.val (by kernel_rfl) (.int .i64 ((t : Int) + 1)) (by go_simp) ?_
        simp only [Act.put, List.setIfInBounds_toArray, List.set_cons_zero, List.set_cons_succ]
        refine WL.val (by kernel_rfl) (.int .i64 ((t : Int) + 1)) (by go_simp) ?_
        simp only [Act.put, List.setIfInBounds_toArray, List.set_cons_zero, List.set_cons_succ]
        refine WL.nil ?_
        refine ⟨⟨t + 1, u6, .int .i64 (t : Int), .pointer (some ⟨wr.heap.size, 0, none⟩), .pointer (some ⟨w5.heap.size, 0, none⟩), .bool true, .int .i64 (t : Int), .pointer (some ⟨ga, fa + t * 37, none⟩), .agg (opA x), .slice (some ⟨gb, fb, none⟩) B.length pd, .int .i64 (t : Int), .pointer (some ⟨gb, fb + t * 37, none⟩), .agg (opA y), .func (.func 41) #[] #[], .agg (opA x), .agg (opA y), .bool true, .bool false, .int .i64 ((t : Int) + 1), rfl, by omega, fun i hi => ?_, B7.out⟩, ?_⟩
        · by_cases hit : i < t
          · exact JE.out i hit
          · rw [show i = t by omega, ← Jx.out, ← Jy.out]; exact hxy
        · simp only [intOf]; show A.length - ((t : Int) + 1).toNat < A.length - ((t : Int)).toNat; omega
      · skip
        refine wp_region_list (WL.out ?_)
        refine WL.val (by kernel_rfl) (.func (.func 41) #[] #[]) (by go_simp) ?_
        simp only [Act.put, List.setIfInBounds_toArray, List.set_cons_zero, List.set_cons_succ]
        refine WL.row (by kernel_rfl) 79 (.tmp 8) rfl wr.heap.size rfl 79 (opA x) _ HX6.out Try.underlying79 rfl (Try.size79B _) ?_
        simp only [Act.put, List.setIfInBounds_toArray, List.set_cons_zero, List.set_cons_succ]
        refine WL.row (by kernel_rfl) 79 (.tmp 9) rfl w5.heap.size rfl 79 (opA y) _ HY.out Try.underlying79 rfl (Try.size79B _) ?_
        simp only [Act.put, List.setIfInBounds_toArray, List.set_cons_zero, List.set_cons_succ]
        refine WL.callV (by kernel_rfl) 41 (.tmp 26) _ _ rfl rfl Try.in41 #[.agg (opA x), .agg (opA y)] (by simp [Act.eval]) ?_
        refine (same_any x y w6).mono ?_
        rintro e w7 ⟨rfl, hb7⟩
        refine ⟨_, rfl, ?_⟩
        rw [hxy]
        have B7 : Keep (Below w.heap.size w w7) := ⟨B6.out.trans (hb7.mono B6.out.size)⟩
        clear hb7
        simp only [Act.put, List.setIfInBounds_toArray, List.set_cons_zero, List.set_cons_succ]
        refine WL.val (by kernel_rfl) (.bool true) (by go_simp) ?_
        simp only [Act.put, List.setIfInBounds_toArray, List.set_cons_zero, List.set_cons_succ]
        refine WL.nil ?_
        refine hK11 _ _ ?_
        refine wp_cond_true rfl ?_
        refine wp_seq_k fun K12 hK12 => ?_
        refine wp_region_list (WL.out ?_)
        refine WL.val (by kernel_rfl) (.bool false) (by go_simp) ?_
        simp only [Act.put, List.setIfInBounds_toArray, List.set_cons_zero, List.set_cons_succ]
        refine WL.nil ?_
        refine hK12 _ _ ?_
        refine wp_ret ?_
        go_ret
        have hno : smL A B = false := by
          rw [Bool.eq_false_iff]; intro h
          simp only [smL, Bool.and_eq_true, List.all_eq_true, List.mem_range] at h
          have := h.2 t htl
          rw [← Jx.out, ← Jy.out, hxy] at this; cases this
        exact ⟨by rw [hno]; rfl, B7.out⟩
    · have htl' : ¬ (t : Int) < (A.length : Int) := by omega
      have hle2 : B.length ≤ t := by omega
      refine wp_seq_k fun K13 hK13 => ?_
      refine wp_region_list (WL.out ?_)
      refine WL.val (by kernel_rfl) (.bool false) (by go_simp) ?_
      simp only [Act.put, List.setIfInBounds_toArray, List.set_cons_zero, List.set_cons_succ]
      refine WL.nil ?_
      refine hK13 _ _ ?_
      refine wp_seq_k fun K14 hK14 => ?_
      refine wp_cond_false rfl ?_
      refine wp_exit ?_
      refine hK4 _ _ ?_
      refine wp_seq_k fun K15 hK15 => ?_
      refine wp_region_list (WL.out ?_)
      refine WL.val (by kernel_rfl) (.bool true) (by go_simp) ?_
      simp only [Act.put, List.setIfInBounds_toArray, List.set_cons_zero, List.set_cons_succ]
      refine WL.nil ?_
      refine hK15 _ _ ?_
      refine wp_ret ?_
      go_ret
      have hyes : smL A B = true := by
        simp only [smL, Bool.and_eq_true, List.all_eq_true, List.mem_range, decide_eq_true_eq]
        exact ⟨h1_4, fun i hi => hE i (by omega)⟩
      exact ⟨by rw [hyes]; rfl, hB⟩
  · have h1_4i : ¬ (A.length : Int) = (B.length : Int) := by omega
    refine WL.val (by kernel_rfl) (.bool true) (by go_simp) ?_
    simp only [Act.put, List.setIfInBounds_toArray, List.set_cons_zero, List.set_cons_succ]
    refine WL.nil ?_
    refine hK3 _ _ ?_
    refine wp_cond_true rfl ?_
    refine wp_seq_k fun K16 hK16 => ?_
    refine wp_region_list (WL.out ?_)
    refine WL.val (by kernel_rfl) (.bool false) (by go_simp) ?_
    simp only [Act.put, List.setIfInBounds_toArray, List.set_cons_zero, List.set_cons_succ]
    refine WL.nil ?_
    refine hK16 _ _ ?_
    refine wp_ret ?_
    go_ret
    exact ⟨by rw [show smL A B = false by simp [smL, h1_4]]; rfl, Below.refl _ _⟩
set_option maxRecDepth 8000 in
set_option maxHeartbeats 2000000 in
theorem same_node (A B : NodeV) (vp vo vq vr : Value) (w : World) (hA : NdAt w A vp vo) (hB : NdAt w B vq vr) : Calls Try.prog 20 #[.agg (ndA A.au A.ck vp vo), .agg (ndA B.au B.ck vq vr)] w fun e w' => e = .returned (.bool (sameN A B)) ∧ Below w.heap.size w w' := by
  obtain ⟨pa, pc, rfl⟩ := hA.ps.form
  obtain ⟨oa, oc, rfl⟩ := hA.ops.form
  obtain ⟨pb, pd, rfl⟩ := hB.ps.form
  obtain ⟨ob, od, rfl⟩ := hB.ops.form
  have HA := Keep.mk hA
  have HB := Keep.mk hB
  clear hA hB
  go_enter Try.func20, Try.ntmps20
  refine wp_seq_k fun K1 hK1 => ?_
  refine wp_region_list (WL.out ?_)
  refine WL.box (by kernel_rfl) 27 (.tmp 0) rfl _ rfl ?_
  have HX0 := Keep.mk (Blk.new w 27 (ndA A.au A.ck (.slice pa A.ps.length pc) (.slice oa A.ops.length oc)))
  have B0 := Keep.mk (below_new w (.cells (ndA A.au A.ck (.slice pa A.ps.length pc) (.slice oa A.ops.length oc)) 27))
  generalize w.alloc (.cells (ndA A.au A.ck (.slice pa A.ps.length pc) (.slice oa A.ops.length oc)) 27) = w1 at *
  have B0x : Keep (w.heap.size ≤ w1.heap.size) := ⟨B0.out.size⟩
  generalize hgg : w.heap.size = g at *
  simp only [Act.put, List.setIfInBounds_toArray, List.set_cons_zero, List.set_cons_succ]
  refine WL.box (by kernel_rfl) 27 (.tmp 1) rfl _ rfl ?_
  have HXa := Keep.mk (HX0.out.alloc (.cells (ndA B.au B.ck (.slice pb B.ps.length pd) (.slice ob B.ops.length od)) 27))
  have HXb := Keep.mk (Blk.new w1 27 (ndA B.au B.ck (.slice pb B.ps.length pd) (.slice ob B.ops.length od)))
  have B2 : Keep (Below g w (w1.alloc (.cells (ndA B.au B.ck (.slice pb B.ps.length pd) (.slice ob B.ops.length od)) 27))) := ⟨B0.out.trans ((below_new w1 _).mono B0x.out)⟩
  generalize w1.alloc (.cells (ndA B.au B.ck (.slice pb B.ps.length pd) (.slice ob B.ops.length od)) 27) = w2 at *
  have HA2 := Keep.mk (HA.out.below (by rw [hgg]; exact B2.out))
  have HB2 := Keep.mk (HB.out.below (by rw [hgg]; exact B2.out))
  have B2x : Keep (g ≤ w2.heap.size) := ⟨by have := B2.out.size; omega⟩
  generalize w1.heap.size = k at *
  have a0 := HXa.out.c 0 (nd_0 _ _ _ _)
  have a1 := HXa.out.c 1 (nd_1 _ _ _ _)
  have a2 := HXa.out.c 2 (nd_2 _ _ _ _)
  have b0 := HXb.out.c 0 (nd_0 _ _ _ _)
  have b1 := HXb.out.c 1 (nd_1 _ _ _ _)
  have b2 := HXb.out.c 2 (nd_2 _ _ _ _)
  simp only [Act.put, List.setIfInBounds_toArray, List.set_cons_zero, List.set_cons_succ]
  refine WL.val (by kernel_rfl) (.bool false) (by go_simp) ?_
  simp only [Act.put, List.setIfInBounds_toArray, List.set_cons_zero, List.set_cons_succ]
  refine WL.nil ?_
  refine hK1 _ _ ?_
  refine wp_seq_k fun K2 hK2 => ?_
  rcases Bool.eq_false_or_eq_true (decide (A.ps = B.ps)) with hps | hps
  · rcases Bool.eq_false_or_eq_true (smL A.ops B.ops) with hos | hos
    · skip
      refine wp_region_list (WL.out ?_)
      refine WL.val (by kernel_rfl) (.pointer (some ⟨g, 0, none⟩)) (by go_simp) ?_
      simp only [Act.put, List.setIfInBounds_toArray, List.set_cons_zero, List.set_cons_succ]
      refine WL.val (by kernel_rfl) (.int .i64 A.au) (by go_simp) ?_
      simp only [Act.put, List.setIfInBounds_toArray, List.set_cons_zero, List.set_cons_succ]
      refine WL.val (by kernel_rfl) (.pointer (some ⟨k, 0, none⟩)) (by go_simp) ?_
      simp only [Act.put, List.setIfInBounds_toArray, List.set_cons_zero, List.set_cons_succ]
      refine WL.val (by kernel_rfl) (.int .i64 B.au) (by go_simp) ?_
      simp only [Act.put, List.setIfInBounds_toArray, List.set_cons_zero, List.set_cons_succ]
      by_cases h1_4 : A.au = B.au
      · skip
        refine WL.val (by kernel_rfl) (.bool true) (by go_simp) ?_
        simp only [Act.put, List.setIfInBounds_toArray, List.set_cons_zero, List.set_cons_succ]
        refine WL.val (by kernel_rfl) (.bool true) (by go_simp) ?_
        simp only [Act.put, List.setIfInBounds_toArray, List.set_cons_zero, List.set_cons_succ]
        refine WL.val (by kernel_rfl) (.pointer (some ⟨g, 1, none⟩)) (by go_simp) ?_
        simp only [Act.put, List.setIfInBounds_toArray, List.set_cons_zero, List.set_cons_succ]
        refine WL.val (by kernel_rfl) (.int .i64 A.ck) (by go_simp) ?_
        simp only [Act.put, List.setIfInBounds_toArray, List.set_cons_zero, List.set_cons_succ]
        refine WL.val (by kernel_rfl) (.pointer (some ⟨k, 1, none⟩)) (by go_simp) ?_
        simp only [Act.put, List.setIfInBounds_toArray, List.set_cons_zero, List.set_cons_succ]
        refine WL.val (by kernel_rfl) (.int .i64 B.ck) (by go_simp) ?_
        simp only [Act.put, List.setIfInBounds_toArray, List.set_cons_zero, List.set_cons_succ]
        by_cases h1_10 : A.ck = B.ck
        · skip
          refine WL.val (by kernel_rfl) (.bool true) (by go_simp) ?_
          simp only [Act.put, List.setIfInBounds_toArray, List.set_cons_zero, List.set_cons_succ]
          refine WL.val (by kernel_rfl) (.bool true) (by go_simp) ?_
          simp only [Act.put, List.setIfInBounds_toArray, List.set_cons_zero, List.set_cons_succ]
          refine WL.val (by kernel_rfl) (.bool true) (by go_simp) ?_
          simp only [Act.put, List.setIfInBounds_toArray, List.set_cons_zero, List.set_cons_succ]
          refine WL.val (by kernel_rfl) (.pointer (some ⟨g, 2, none⟩)) (by go_simp) ?_
          simp only [Act.put, List.setIfInBounds_toArray, List.set_cons_zero, List.set_cons_succ]
          refine WL.val (by kernel_rfl) (.slice pa A.ps.length pc) (by go_simp) ?_
          simp only [Act.put, List.setIfInBounds_toArray, List.set_cons_zero, List.set_cons_succ]
          refine WL.val (by kernel_rfl) (.pointer (some ⟨k, 2, none⟩)) (by go_simp) ?_
          simp only [Act.put, List.setIfInBounds_toArray, List.set_cons_zero, List.set_cons_succ]
          refine WL.val (by kernel_rfl) (.slice pb B.ps.length pd) (by go_simp) ?_
          simp only [Act.put, List.setIfInBounds_toArray, List.set_cons_zero, List.set_cons_succ]
          refine WL.callF (by kernel_rfl) 39 _ _ rfl Try.in39 #[.slice pa A.ps.length pc, .slice pb B.ps.length pd] (by simp [Act.eval]) ?_
          refine (eqH_any A.ps B.ps _ _ w2 HA2.out.ps HB2.out.ps HA.out.lp).mono ?_
          rintro e w3 ⟨rfl, hb3⟩
          refine ⟨_, rfl, ?_⟩
          rw [hps]
          have B3 : Keep (Below g w w3) := ⟨B2.out.trans (hb3.mono B2x.out)⟩
          have a3 := (HXa.out.below hb3 HXa.out.lt).c 3 (nd_3 _ _ _ _)
          have b3 := (HXb.out.below hb3 HXb.out.lt).c 3 (nd_3 _ _ _ _)
          have B3z := Keep.mk hb3
          clear hb3
          simp only [Act.put, List.setIfInBounds_toArray, List.set_cons_zero, List.set_cons_succ]
          refine WL.val (by kernel_rfl) (.bool true) (by go_simp) ?_
          simp only [Act.put, List.setIfInBounds_toArray, List.set_cons_zero, List.set_cons_succ]
          refine WL.val (by kernel_rfl) (.bool true) (by go_simp) ?_
          simp only [Act.put, List.setIfInBounds_toArray, List.set_cons_zero, List.set_cons_succ]
          refine WL.val (by kernel_rfl) (.pointer (some ⟨g, 3, none⟩)) (by go_simp) ?_
          simp only [Act.put, List.setIfInBounds_toArray, List.set_cons_zero, List.set_cons_succ]
          refine WL.val (by kernel_rfl) (.slice oa A.ops.length oc) (by go_simp) ?_
          simp only [Act.put, List.setIfInBounds_toArray, List.set_cons_zero, List.set_cons_succ]
          refine WL.val (by kernel_rfl) (.pointer (some ⟨k, 3, none⟩)) (by go_simp) ?_
          simp only [Act.put, List.setIfInBounds_toArray, List.set_cons_zero, List.set_cons_succ]
          refine WL.val (by kernel_rfl) (.slice ob B.ops.length od) (by go_simp) ?_
          simp only [Act.put, List.setIfInBounds_toArray, List.set_cons_zero, List.set_cons_succ]
          refine WL.callF (by kernel_rfl) 40 _ _ rfl Try.in40 #[.slice oa A.ops.length oc, .slice ob B.ops.length od, .func (.func 41) #[] #[]] (by simp [Act.eval]) ?_
          refine (eqO_any A.ops B.ops _ _ w3 (HA2.out.below B3z.out).ops (HB2.out.below B3z.out).ops HA.out.lo).mono ?_
          rintro e w4 ⟨rfl, hb4⟩
          refine ⟨_, rfl, ?_⟩
          rw [hos]
          have B4 : Keep (Below g w w4) := ⟨B3.out.trans (hb4.mono (Nat.le_trans B2x.out B3z.out.size))⟩
          clear hb4
          simp only [Act.put, List.setIfInBounds_toArray, List.set_cons_zero, List.set_cons_succ]
          refine WL.val (by kernel_rfl) (.bool true) (by go_simp) ?_
          simp only [Act.put, List.setIfInBounds_toArray, List.set_cons_zero, List.set_cons_succ]
          refine WL.val (by kernel_rfl) (.bool true) (by go_simp) ?_
          simp only [Act.put, List.setIfInBounds_toArray, List.set_cons_zero, List.set_cons_succ]
          refine WL.nil ?_
          refine hK2 _ _ ?_
          refine wp_ret ?_
          go_ret
          have hv : sameN A B = true := by
            unfold sameN; rw [hps, hos, decide_eq_true h1_4, decide_eq_true h1_10]; rfl
          exact ⟨by rw [hv]; rfl, B4.out⟩
        · skip
          refine WL.val (by kernel_rfl) (.bool false) (by go_simp) ?_
          simp only [Act.put, List.setIfInBounds_toArray, List.set_cons_zero, List.set_cons_succ]
          refine WL.val (by kernel_rfl) (.bool false) (by go_simp) ?_
          simp only [Act.put, List.setIfInBounds_toArray, List.set_cons_zero, List.set_cons_succ]
          refine WL.val (by kernel_rfl) (.bool false) (by go_simp) ?_
          simp only [Act.put, List.setIfInBounds_toArray, List.set_cons_zero, List.set_cons_succ]
          refine WL.skip (by kernel_rfl) ?_
          simp only [Act.put, List.setIfInBounds_toArray, List.set_cons_zero, List.set_cons_succ]
          refine WL.skip (by kernel_rfl) ?_
          simp only [Act.put, List.setIfInBounds_toArray, List.set_cons_zero, List.set_cons_succ]
          refine WL.skip (by kernel_rfl) ?_
          simp only [Act.put, List.setIfInBounds_toArray, List.set_cons_zero, List.set_cons_succ]
          refine WL.skip (by kernel_rfl) ?_
          simp only [Act.put, List.setIfInBounds_toArray, List.set_cons_zero, List.set_cons_succ]
          refine WL.skip (by kernel_rfl) ?_
          simp only [Act.put, List.setIfInBounds_toArray, List.set_cons_zero, List.set_cons_succ]
          refine WL.val (by kernel_rfl) (.bool false) (by go_simp) ?_
          simp only [Act.put, List.setIfInBounds_toArray, List.set_cons_zero, List.set_cons_succ]
          refine WL.val (by kernel_rfl) (.bool false) (by go_simp) ?_
          simp only [Act.put, List.setIfInBounds_toArray, List.set_cons_zero, List.set_cons_succ]
          refine WL.skip (by kernel_rfl) ?_
          simp only [Act.put, List.setIfInBounds_toArray, List.set_cons_zero, List.set_cons_succ]
          refine WL.skip (by kernel_rfl) ?_
          simp only [Act.put, List.setIfInBounds_toArray, List.set_cons_zero, List.set_cons_succ]
          refine WL.skip (by kernel_rfl) ?_
          simp only [Act.put, List.setIfInBounds_toArray, List.set_cons_zero, List.set_cons_succ]
          refine WL.skip (by kernel_rfl) ?_
          simp only [Act.put, List.setIfInBounds_toArray, List.set_cons_zero, List.set_cons_succ]
          refine WL.skip (by kernel_rfl) ?_
          simp only [Act.put, List.setIfInBounds_toArray, List.set_cons_zero, List.set_cons_succ]
          refine WL.val (by kernel_rfl) (.bool false) (by go_simp) ?_
          simp only [Act.put, List.setIfInBounds_toArray, List.set_cons_zero, List.set_cons_succ]
          refine WL.val (by kernel_rfl) (.bool false) (by go_simp) ?_
          simp only [Act.put, List.setIfInBounds_toArray, List.set_cons_zero, List.set_cons_succ]
          refine WL.nil ?_
          refine hK2 _ _ ?_
          refine wp_ret ?_
          go_ret
          have hv : sameN A B = false := by
            simp [sameN, h1_10]
          exact ⟨by rw [hv]; rfl, B2.out⟩
      · skip
        refine WL.val (by kernel_rfl) (.bool false) (by go_simp) ?_
        simp only [Act.put, List.setIfInBounds_toArray, List.set_cons_zero, List.set_cons_succ]
        refine WL.val (by kernel_rfl) (.bool false) (by go_simp) ?_
        simp only [Act.put, List.setIfInBounds_toArray, List.set_cons_zero, List.set_cons_succ]
        refine WL.skip (by kernel_rfl) ?_
        simp only [Act.put, List.setIfInBounds_toArray, List.set_cons_zero, List.set_cons_succ]
        refine WL.skip (by kernel_rfl) ?_
        simp only [Act.put, List.setIfInBounds_toArray, List.set_cons_zero, List.set_cons_succ]
        refine WL.skip (by kernel_rfl) ?_
        simp only [Act.put, List.setIfInBounds_toArray, List.set_cons_zero, List.set_cons_succ]
        refine WL.skip (by kernel_rfl) ?_
        simp only [Act.put, List.setIfInBounds_toArray, List.set_cons_zero, List.set_cons_succ]
        refine WL.skip (by kernel_rfl) ?_
        simp only [Act.put, List.setIfInBounds_toArray, List.set_cons_zero, List.set_cons_succ]
        refine WL.val (by kernel_rfl) (.bool false) (by go_simp) ?_
        simp only [Act.put, List.setIfInBounds_toArray, List.set_cons_zero, List.set_cons_succ]
        refine WL.val (by kernel_rfl) (.bool false) (by go_simp) ?_
        simp only [Act.put, List.setIfInBounds_toArray, List.set_cons_zero, List.set_cons_succ]
        refine WL.skip (by kernel_rfl) ?_
        simp only [Act.put, List.setIfInBounds_toArray, List.set_cons_zero, List.set_cons_succ]
        refine WL.skip (by kernel_rfl) ?_
        simp only [Act.put, List.setIfInBounds_toArray, List.set_cons_zero, List.set_cons_succ]
        refine WL.skip (by kernel_rfl) ?_
        simp only [Act.put, List.setIfInBounds_toArray, List.set_cons_zero, List.set_cons_succ]
        refine WL.skip (by kernel_rfl) ?_
        simp only [Act.put, List.setIfInBounds_toArray, List.set_cons_zero, List.set_cons_succ]
        refine WL.skip (by kernel_rfl) ?_
        simp only [Act.put, List.setIfInBounds_toArray, List.set_cons_zero, List.set_cons_succ]
        refine WL.val (by kernel_rfl) (.bool false) (by go_simp) ?_
        simp only [Act.put, List.setIfInBounds_toArray, List.set_cons_zero, List.set_cons_succ]
        refine WL.val (by kernel_rfl) (.bool false) (by go_simp) ?_
        simp only [Act.put, List.setIfInBounds_toArray, List.set_cons_zero, List.set_cons_succ]
        refine WL.skip (by kernel_rfl) ?_
        simp only [Act.put, List.setIfInBounds_toArray, List.set_cons_zero, List.set_cons_succ]
        refine WL.skip (by kernel_rfl) ?_
        simp only [Act.put, List.setIfInBounds_toArray, List.set_cons_zero, List.set_cons_succ]
        refine WL.skip (by kernel_rfl) ?_
        simp only [Act.put, List.setIfInBounds_toArray, List.set_cons_zero, List.set_cons_succ]
        refine WL.skip (by kernel_rfl) ?_
        simp only [Act.put, List.setIfInBounds_toArray, List.set_cons_zero, List.set_cons_succ]
        refine WL.skip (by kernel_rfl) ?_
        simp only [Act.put, List.setIfInBounds_toArray, List.set_cons_zero, List.set_cons_succ]
        refine WL.val (by kernel_rfl) (.bool false) (by go_simp) ?_
        simp only [Act.put, List.setIfInBounds_toArray, List.set_cons_zero, List.set_cons_succ]
        refine WL.val (by kernel_rfl) (.bool false) (by go_simp) ?_
        simp only [Act.put, List.setIfInBounds_toArray, List.set_cons_zero, List.set_cons_succ]
        refine WL.nil ?_
        refine hK2 _ _ ?_
        refine wp_ret ?_
        go_ret
        have hv : sameN A B = false := by
          simp [sameN, h1_4]
        exact ⟨by rw [hv]; rfl, B2.out⟩
    · skip
      refine wp_region_list (WL.out ?_)
      refine WL.val (by kernel_rfl) (.pointer (some ⟨g, 0, none⟩)) (by go_simp) ?_
      simp only [Act.put, List.setIfInBounds_toArray, List.set_cons_zero, List.set_cons_succ]
      refine WL.val (by kernel_rfl) (.int .i64 A.au) (by go_simp) ?_
      simp only [Act.put, List.setIfInBounds_toArray, List.set_cons_zero, List.set_cons_succ]
      refine WL.val (by kernel_rfl) (.pointer (some ⟨k, 0, none⟩)) (by go_simp) ?_
      simp only [Act.put, List.setIfInBounds_toArray, List.set_cons_zero, List.set_cons_succ]
      refine WL.val (by kernel_rfl) (.int .i64 B.au) (by go_simp) ?_
      simp only [Act.put, List.setIfInBounds_toArray, List.set_cons_zero, List.set_cons_succ]
      by_cases h1_4 : A.au = B.au
      · skip
        refine WL.val (by kernel_rfl) (.bool true) (by go_simp) ?_
        simp only [Act.put, List.setIfInBounds_toArray, List.set_cons_zero, List.set_cons_succ]
        refine WL.val (by kernel_rfl) (.bool true) (by go_simp) ?_
        simp only [Act.put, List.setIfInBounds_toArray, List.set_cons_zero, List.set_cons_succ]
        refine WL.val (by kernel_rfl) (.pointer (some ⟨g, 1, none⟩)) (by go_simp) ?_
        simp only [Act.put, List.setIfInBounds_toArray, List.set_cons_zero, List.set_cons_succ]
        refine WL.val (by kernel_rfl) (.int .i64 A.ck) (by go_simp) ?_
        simp only [Act.put, List.setIfInBounds_toArray, List.set_cons_zero, List.set_cons_succ]
        refine WL.val (by kernel_rfl) (.pointer (some ⟨k, 1, none⟩)) (by go_simp) ?_
        simp only [Act.put, List.setIfInBounds_toArray, List.set_cons_zero, List.set_cons_succ]
        refine WL.val (by kernel_rfl) (.int .i64 B.ck) (by go_simp) ?_
        simp only [Act.put, List.setIfInBounds_toArray, List.set_cons_zero, List.set_cons_succ]
        by_cases h1_10 : A.ck = B.ck
        · skip
          refine WL.val (by kernel_rfl) (.bool true) (by go_simp) ?_
          simp only [Act.put, List.setIfInBounds_toArray, List.set_cons_zero, List.set_cons_succ]
          refine WL.val (by kernel_rfl) (.bool true) (by go_simp) ?_
          simp only [Act.put, List.setIfInBounds_toArray, List.set_cons_zero, List.set_cons_succ]
          refine WL.val (by kernel_rfl) (.bool true) (by go_simp) ?_
          simp only [Act.put, List.setIfInBounds_toArray, List.set_cons_zero, List.set_cons_succ]
          refine WL.val (by kernel_rfl) (.pointer (some ⟨g, 2, none⟩)) (by go_simp) ?_
          simp only [Act.put, List.setIfInBounds_toArray, List.set_cons_zero, List.set_cons_succ]
          refine WL.val (by kernel_rfl) (.slice pa A.ps.length pc) (by go_simp) ?_
          simp only [Act.put, List.setIfInBounds_toArray, List.set_cons_zero, List.set_cons_succ]
          refine WL.val (by kernel_rfl) (.pointer (some ⟨k, 2, none⟩)) (by go_simp) ?_
          simp only [Act.put, List.setIfInBounds_toArray, List.set_cons_zero, List.set_cons_succ]
          refine WL.val (by kernel_rfl) (.slice pb B.ps.length pd) (by go_simp) ?_
          simp only [Act.put, List.setIfInBounds_toArray, List.set_cons_zero, List.set_cons_succ]
          refine WL.callF (by kernel_rfl) 39 _ _ rfl Try.in39 #[.slice pa A.ps.length pc, .slice pb B.ps.length pd] (by simp [Act.eval]) ?_
          refine (eqH_any A.ps B.ps _ _ w2 HA2.out.ps HB2.out.ps HA.out.lp).mono ?_
          rintro e w3 ⟨rfl, hb3⟩
          refine ⟨_, rfl, ?_⟩
          rw [hps]
          have B3 : Keep (Below g w w3) := ⟨B2.out.trans (hb3.mono B2x.out)⟩
          have a3 := (HXa.out.below hb3 HXa.out.lt).c 3 (nd_3 _ _ _ _)
          have b3 := (HXb.out.below hb3 HXb.out.lt).c 3 (nd_3 _ _ _ _)
          have B3z := Keep.mk hb3
          clear hb3
          simp only [Act.put, List.setIfInBounds_toArray, List.set_cons_zero, List.set_cons_succ]
          refine WL.val (by kernel_rfl) (.bool true) (by go_simp) ?_
          simp only [Act.put, List.setIfInBounds_toArray, List.set_cons_zero, List.set_cons_succ]
          refine WL.val (by kernel_rfl) (.bool true) (by go_simp) ?_
          simp only [Act.put, List.setIfInBounds_toArray, List.set_cons_zero, List.set_cons_succ]
          refine WL.val (by kernel_rfl) (.pointer (some ⟨g, 3, none⟩)) (by go_simp) ?_
          simp only [Act.put, List.setIfInBounds_toArray, List.set_cons_zero, List.set_cons_succ]
          refine WL.val (by kernel_rfl) (.slice oa A.ops.length oc) (by go_simp) ?_
          simp only [Act.put, List.setIfInBounds_toArray, List.set_cons_zero, List.set_cons_succ]
          refine WL.val (by kernel_rfl) (.pointer (some ⟨k, 3, none⟩)) (by go_simp) ?_
          simp only [Act.put, List.setIfInBounds_toArray, List.set_cons_zero, List.set_cons_succ]
          refine WL.val (by kernel_rfl) (.slice ob B.ops.length od) (by go_simp) ?_
          simp only [Act.put, List.setIfInBounds_toArray, List.set_cons_zero, List.set_cons_succ]
          refine WL.callF (by kernel_rfl) 40 _ _ rfl Try.in40 #[.slice oa A.ops.length oc, .slice ob B.ops.length od, .func (.func 41) #[] #[]] (by simp [Act.eval]) ?_
          refine (eqO_any A.ops B.ops _ _ w3 (HA2.out.below B3z.out).ops (HB2.out.below B3z.out).ops HA.out.lo).mono ?_
          rintro e w4 ⟨rfl, hb4⟩
          refine ⟨_, rfl, ?_⟩
          rw [hos]
          have B4 : Keep (Below g w w4) := ⟨B3.out.trans (hb4.mono (Nat.le_trans B2x.out B3z.out.size))⟩
          clear hb4
          simp only [Act.put, List.setIfInBounds_toArray, List.set_cons_zero, List.set_cons_succ]
          refine WL.val (by kernel_rfl) (.bool false) (by go_simp) ?_
          simp only [Act.put, List.setIfInBounds_toArray, List.set_cons_zero, List.set_cons_succ]
          refine WL.val (by kernel_rfl) (.bool false) (by go_simp) ?_
          simp only [Act.put, List.setIfInBounds_toArray, List.set_cons_zero, List.set_cons_succ]
          refine WL.nil ?_
          refine hK2 _ _ ?_
          refine wp_ret ?_
          go_ret
          have hv : sameN A B = false := by
            unfold sameN; rw [hps, hos, decide_eq_true h1_4, decide_eq_true h1_10]; rfl
          exact ⟨by rw [hv]; rfl, B4.out⟩
        · skip
          refine WL.val (by kernel_rfl) (.bool false) (by go_simp) ?_
          simp only [Act.put, List.setIfInBounds_toArray, List.set_cons_zero, List.set_cons_succ]
          refine WL.val (by kernel_rfl) (.bool false) (by go_simp) ?_
          simp only [Act.put, List.setIfInBounds_toArray, List.set_cons_zero, List.set_cons_succ]
          refine WL.val (by kernel_rfl) (.bool false) (by go_simp) ?_
          simp only [Act.put, List.setIfInBounds_toArray, List.set_cons_zero, List.set_cons_succ]
          refine WL.skip (by kernel_rfl) ?_
          simp only [Act.put, List.setIfInBounds_toArray, List.set_cons_zero, List.set_cons_succ]
          refine WL.skip (by kernel_rfl) ?_
          simp only [Act.put, List.setIfInBounds_toArray, List.set_cons_zero, List.set_cons_succ]
          refine WL.skip (by kernel_rfl) ?_
          simp only [Act.put, List.setIfInBounds_toArray, List.set_cons_zero, List.set_cons_succ]
          refine WL.skip (by kernel_rfl) ?_
          simp only [Act.put, List.setIfInBounds_toArray, List.set_cons_zero, List.set_cons_succ]
          refine WL.skip (by kernel_rfl) ?_
          simp only [Act.put, List.setIfInBounds_toArray, List.set_cons_zero, List.set_cons_succ]
          refine WL.val (by kernel_rfl) (.bool false) (by go_simp) ?_
          simp only [Act.put, List.setIfInBounds_toArray, List.set_cons_zero, List.set_cons_succ]
          refine WL.val (by kernel_rfl) (.bool false) (by go_simp) ?_
          simp only [Act.put, List.setIfInBounds_toArray, List.set_cons_zero, List.set_cons_succ]
          refine WL.skip (by kernel_rfl) ?_
          simp only [Act.put, List.setIfInBounds_toArray, List.set_cons_zero, List.set_cons_succ]
          refine WL.skip (by kernel_rfl) ?_
          simp only [Act.put, List.setIfInBounds_toArray, List.set_cons_zero, List.set_cons_succ]
          refine WL.skip (by kernel_rfl) ?_
          simp only [Act.put, List.setIfInBounds_toArray, List.set_cons_zero, List.set_cons_succ]
          refine WL.skip (by kernel_rfl) ?_
          simp only [Act.put, List.setIfInBounds_toArray, List.set_cons_zero, List.set_cons_succ]
          refine WL.skip (by kernel_rfl) ?_
          simp only [Act.put, List.setIfInBounds_toArray, List.set_cons_zero, List.set_cons_succ]
          refine WL.val (by kernel_rfl) (.bool false) (by go_simp) ?_
          simp only [Act.put, List.setIfInBounds_toArray, List.set_cons_zero, List.set_cons_succ]
          refine WL.val (by kernel_rfl) (.bool false) (by go_simp) ?_
          simp only [Act.put, List.setIfInBounds_toArray, List.set_cons_zero, List.set_cons_succ]
          refine WL.nil ?_
          refine hK2 _ _ ?_
          refine wp_ret ?_
          go_ret
          have hv : sameN A B = false := by
            simp [sameN, h1_10]
          exact ⟨by rw [hv]; rfl, B2.out⟩
      · skip
        refine WL.val (by kernel_rfl) (.bool false) (by go_simp) ?_
        simp only [Act.put, List.setIfInBounds_toArray, List.set_cons_zero, List.set_cons_succ]
        refine WL.val (by kernel_rfl) (.bool false) (by go_simp) ?_
        simp only [Act.put, List.setIfInBounds_toArray, List.set_cons_zero, List.set_cons_succ]
        refine WL.skip (by kernel_rfl) ?_
        simp only [Act.put, List.setIfInBounds_toArray, List.set_cons_zero, List.set_cons_succ]
        refine WL.skip (by kernel_rfl) ?_
        simp only [Act.put, List.setIfInBounds_toArray, List.set_cons_zero, List.set_cons_succ]
        refine WL.skip (by kernel_rfl) ?_
        simp only [Act.put, List.setIfInBounds_toArray, List.set_cons_zero, List.set_cons_succ]
        refine WL.skip (by kernel_rfl) ?_
        simp only [Act.put, List.setIfInBounds_toArray, List.set_cons_zero, List.set_cons_succ]
        refine WL.skip (by kernel_rfl) ?_
        simp only [Act.put, List.setIfInBounds_toArray, List.set_cons_zero, List.set_cons_succ]
        refine WL.val (by kernel_rfl) (.bool false) (by go_simp) ?_
        simp only [Act.put, List.setIfInBounds_toArray, List.set_cons_zero, List.set_cons_succ]
        refine WL.val (by kernel_rfl) (.bool false) (by go_simp) ?_
        simp only [Act.put, List.setIfInBounds_toArray, List.set_cons_zero, List.set_cons_succ]
        refine WL.skip (by kernel_rfl) ?_
        simp only [Act.put, List.setIfInBounds_toArray, List.set_cons_zero, List.set_cons_succ]
        refine WL.skip (by kernel_rfl) ?_
        simp only [Act.put, List.setIfInBounds_toArray, List.set_cons_zero, List.set_cons_succ]
        refine WL.skip (by kernel_rfl) ?_
        simp only [Act.put, List.setIfInBounds_toArray, List.set_cons_zero, List.set_cons_succ]
        refine WL.skip (by kernel_rfl) ?_
        simp only [Act.put, List.setIfInBounds_toArray, List.set_cons_zero, List.set_cons_succ]
        refine WL.skip (by kernel_rfl) ?_
        simp only [Act.put, List.setIfInBounds_toArray, List.set_cons_zero, List.set_cons_succ]
        refine WL.val (by kernel_rfl) (.bool false) (by go_simp) ?_
        simp only [Act.put, List.setIfInBounds_toArray, List.set_cons_zero, List.set_cons_succ]
        refine WL.val (by kernel_rfl) (.bool false) (by go_simp) ?_
        simp only [Act.put, List.setIfInBounds_toArray, List.set_cons_zero, List.set_cons_succ]
        refine WL.skip (by kernel_rfl) ?_
        simp only [Act.put, List.setIfInBounds_toArray, List.set_cons_zero, List.set_cons_succ]
        refine WL.skip (by kernel_rfl) ?_
        simp only [Act.put, List.setIfInBounds_toArray, List.set_cons_zero, List.set_cons_succ]
        refine WL.skip (by kernel_rfl) ?_
        simp only [Act.put, List.setIfInBounds_toArray, List.set_cons_zero, List.set_cons_succ]
        refine WL.skip (by kernel_rfl) ?_
        simp only [Act.put, List.setIfInBounds_toArray, List.set_cons_zero, List.set_cons_succ]
        refine WL.skip (by kernel_rfl) ?_
        simp only [Act.put, List.setIfInBounds_toArray, List.set_cons_zero, List.set_cons_succ]
        refine WL.val (by kernel_rfl) (.bool false) (by go_simp) ?_
        simp only [Act.put, List.setIfInBounds_toArray, List.set_cons_zero, List.set_cons_succ]
        refine WL.val (by kernel_rfl) (.bool false) (by go_simp) ?_
        simp only [Act.put, List.setIfInBounds_toArray, List.set_cons_zero, List.set_cons_succ]
        refine WL.nil ?_
        refine hK2 _ _ ?_
        refine wp_ret ?_
        go_ret
        have hv : sameN A B = false := by
          simp [sameN, h1_4]
        exact ⟨by rw [hv]; rfl, B2.out⟩
  · rcases Bool.eq_false_or_eq_true (smL A.ops B.ops) with hos | hos
    · skip
      refine wp_region_list (WL.out ?_)
      refine WL.val (by kernel_rfl) (.pointer (some ⟨g, 0, none⟩)) (by go_simp) ?_
      simp only [Act.put, List.setIfInBounds_toArray, List.set_cons_zero, List.set_cons_succ]
      refine WL.val (by kernel_rfl) (.int .i64 A.au) (by go_simp) ?_
      simp only [Act.put, List.setIfInBounds_toArray, List.set_cons_zero, List.set_cons_succ]
      refine WL.val (by kernel_rfl) (.pointer (some ⟨k, 0, none⟩)) (by go_simp) ?_
      simp only [Act.put, List.setIfInBounds_toArray, List.set_cons_zero, List.set_cons_succ]
      refine WL.val (by kernel_rfl) (.int .i64 B.au) (by go_simp) ?_
      simp only [Act.put, List.setIfInBounds_toArray, List.set_cons_zero, List.set_cons_succ]
      by_cases h1_4 : A.au = B.au
      · skip
        refine WL.val (by kernel_rfl) (.bool true) (by go_simp) ?_
        simp only [Act.put, List.setIfInBounds_toArray, List.set_cons_zero, List.set_cons_succ]
        refine WL.val (by kernel_rfl) (.bool true) (by go_simp) ?_
        simp only [Act.put, List.setIfInBounds_toArray, List.set_cons_zero, List.set_cons_succ]
        refine WL.val (by kernel_rfl) (.pointer (some ⟨g, 1, none⟩)) (by go_simp) ?_
        simp only [Act.put, List.setIfInBounds_toArray, List.set_cons_zero, List.set_cons_succ]
        refine WL.val (by kernel_rfl) (.int .i64 A.ck) (by go_simp) ?_
        simp only [Act.put, List.setIfInBounds_toArray, List.set_cons_zero, List.set_cons_succ]
        refine WL.val (by kernel_rfl) (.pointer (some ⟨k, 1, none⟩)) (by go_simp) ?_
        simp only [Act.put, List.setIfInBounds_toArray, List.set_cons_zero, List.set_cons_succ]
        refine WL.val (by kernel_rfl) (.int .i64 B.ck) (by go_simp) ?_
        simp only [Act.put, List.setIfInBounds_toArray, List.set_cons_zero, List.set_cons_succ]
        by_cases h1_10 : A.ck = B.ck
        · skip
          refine WL.val (by kernel_rfl) (.bool true) (by go_simp) ?_
          simp only [Act.put, List.setIfInBounds_toArray, List.set_cons_zero, List.set_cons_succ]
          refine WL.val (by kernel_rfl) (.bool true) (by go_simp) ?_
          simp only [Act.put, List.setIfInBounds_toArray, List.set_cons_zero, List.set_cons_succ]
          refine WL.val (by kernel_rfl) (.bool true) (by go_simp) ?_
          simp only [Act.put, List.setIfInBounds_toArray, List.set_cons_zero, List.set_cons_succ]
          refine WL.val (by kernel_rfl) (.pointer (some ⟨g, 2, none⟩)) (by go_simp) ?_
          simp only [Act.put, List.setIfInBounds_toArray, List.set_cons_zero, List.set_cons_succ]
          refine WL.val (by kernel_rfl) (.slice pa A.ps.length pc) (by go_simp) ?_
          simp only [Act.put, List.setIfInBounds_toArray, List.set_cons_zero, List.set_cons_succ]
          refine WL.val (by kernel_rfl) (.pointer (some ⟨k, 2, none⟩)) (by go_simp) ?_
          simp only [Act.put, List.setIfInBounds_toArray, List.set_cons_zero, List.set_cons_succ]
          refine WL.val (by kernel_rfl) (.slice pb B.ps.length pd) (by go_simp) ?_
          simp only [Act.put, List.setIfInBounds_toArray, List.set_cons_zero, List.set_cons_succ]
          refine WL.callF (by kernel_rfl) 39 _ _ rfl Try.in39 #[.slice pa A.ps.length pc, .slice pb B.ps.length pd] (by simp [Act.eval]) ?_
          refine (eqH_any A.ps B.ps _ _ w2 HA2.out.ps HB2.out.ps HA.out.lp).mono ?_
          rintro e w3 ⟨rfl, hb3⟩
          refine ⟨_, rfl, ?_⟩
          rw [hps]
          have B3 : Keep (Below g w w3) := ⟨B2.out.trans (hb3.mono B2x.out)⟩
          have a3 := (HXa.out.below hb3 HXa.out.lt).c 3 (nd_3 _ _ _ _)
          have b3 := (HXb.out.below hb3 HXb.out.lt).c 3 (nd_3 _ _ _ _)
          have B3z := Keep.mk hb3
          clear hb3
          simp only [Act.put, List.setIfInBounds_toArray, List.set_cons_zero, List.set_cons_succ]
          refine WL.val (by kernel_rfl) (.bool false) (by go_simp) ?_
          simp only [Act.put, List.setIfInBounds_toArray, List.set_cons_zero, List.set_cons_succ]
          refine WL.val (by kernel_rfl) (.bool false) (by go_simp) ?_
          simp only [Act.put, List.setIfInBounds_toArray, List.set_cons_zero, List.set_cons_succ]
          refine WL.skip (by kernel_rfl) ?_
          simp only [Act.put, List.setIfInBounds_toArray, List.set_cons_zero, List.set_cons_succ]
          refine WL.skip (by kernel_rfl) ?_
          simp only [Act.put, List.setIfInBounds_toArray, List.set_cons_zero, List.set_cons_succ]
          refine WL.skip (by kernel_rfl) ?_
          simp only [Act.put, List.setIfInBounds_toArray, List.set_cons_zero, List.set_cons_succ]
          refine WL.skip (by kernel_rfl) ?_
          simp only [Act.put, List.setIfInBounds_toArray, List.set_cons_zero, List.set_cons_succ]
          refine WL.skip (by kernel_rfl) ?_
          simp only [Act.put, List.setIfInBounds_toArray, List.set_cons_zero, List.set_cons_succ]
          refine WL.val (by kernel_rfl) (.bool false) (by go_simp) ?_
          simp only [Act.put, List.setIfInBounds_toArray, List.set_cons_zero, List.set_cons_succ]
          refine WL.val (by kernel_rfl) (.bool false) (by go_simp) ?_
          simp only [Act.put, List.setIfInBounds_toArray, List.set_cons_zero, List.set_cons_succ]
          refine WL.nil ?_
          refine hK2 _ _ ?_
          refine wp_ret ?_
          go_ret
          have hv : sameN A B = false := by
            unfold sameN; rw [hps, hos, decide_eq_true h1_4, decide_eq_true h1_10]; rfl
          exact ⟨by rw [hv]; rfl, B3.out⟩
        · skip
          refine WL.val (by kernel_rfl) (.bool false) (by go_simp) ?_
          simp only [Act.put, List.setIfInBounds_toArray, List.set_cons_zero, List.set_cons_succ]
          refine WL.val (by kernel_rfl) (.bool false) (by go_simp) ?_
          simp only [Act.put, List.setIfInBounds_toArray, List.set_cons_zero, List.set_cons_succ]
          refine WL.val (by kernel_rfl) (.bool false) (by go_simp) ?_
          simp only [Act.put, List.setIfInBounds_toArray, List.set_cons_zero, List.set_cons_succ]
          refine WL.skip (by kernel_rfl) ?_
          simp only [Act.put, List.setIfInBounds_toArray, List.set_cons_zero, List.set_cons_succ]
          refine WL.skip (by kernel_rfl) ?_
          simp only [Act.put, List.setIfInBounds_toArray, List.set_cons_zero, List.set_cons_succ]
          refine WL.skip (by kernel_rfl) ?_
          simp only [Act.put, List.setIfInBounds_toArray, List.set_cons_zero, List.set_cons_succ]
          refine WL.skip (by kernel_rfl) ?_
          simp only [Act.put, List.setIfInBounds_toArray, List.set_cons_zero, List.set_cons_succ]
          refine WL.skip (by kernel_rfl) ?_
          simp only [Act.put, List.setIfInBounds_toArray, List.set_cons_zero, List.set_cons_succ]
          refine WL.val (by kernel_rfl) (.bool false) (by go_simp) ?_
          simp only [Act.put, List.setIfInBounds_toArray, List.set_cons_zero, List.set_cons_succ]
          refine WL.val (by kernel_rfl) (.bool false) (by go_simp) ?_
          simp only [Act.put, List.setIfInBounds_toArray, List.set_cons_zero, List.set_cons_succ]
          refine WL.skip (by kernel_rfl) ?_
          simp only [Act.put, List.setIfInBounds_toArray, List.set_cons_zero, List.set_cons_succ]
          refine WL.skip (by kernel_rfl) ?_
          simp only [Act.put, List.setIfInBounds_toArray, List.set_cons_zero, List.set_cons_succ]
          refine WL.skip (by kernel_rfl) ?_
          simp only [Act.put, List.setIfInBounds_toArray, List.set_cons_zero, List.set_cons_succ]
          refine WL.skip (by kernel_rfl) ?_
          simp only [Act.put, List.setIfInBounds_toArray, List.set_cons_zero, List.set_cons_succ]
          refine WL.skip (by kernel_rfl) ?_
          simp only [Act.put, List.setIfInBounds_toArray, List.set_cons_zero, List.set_cons_succ]
          refine WL.val (by kernel_rfl) (.bool false) (by go_simp) ?_
          simp only [Act.put, List.setIfInBounds_toArray, List.set_cons_zero, List.set_cons_succ]
          refine WL.val (by kernel_rfl) (.bool false) (by go_simp) ?_
          simp only [Act.put, List.setIfInBounds_toArray, List.set_cons_zero, List.set_cons_succ]
          refine WL.nil ?_
          refine hK2 _ _ ?_
          refine wp_ret ?_
          go_ret
          have hv : sameN A B = false := by
            simp [sameN, h1_10]
          exact ⟨by rw [hv]; rfl, B2.out⟩
      · skip
        refine WL.val (by kernel_rfl) (.bool false) (by go_simp) ?_
        simp only [Act.put, List.setIfInBounds_toArray, List.set_cons_zero, List.set_cons_succ]
        refine WL.val (by kernel_rfl) (.bool false) (by go_simp) ?_
        simp only [Act.put, List.setIfInBounds_toArray, List.set_cons_zero, List.set_cons_succ]
        refine WL.skip (by kernel_rfl) ?_
        simp only [Act.put, List.setIfInBounds_toArray, List.set_cons_zero, List.set_cons_succ]
        refine WL.skip (by kernel_rfl) ?_
        simp only [Act.put, List.setIfInBounds_toArray, List.set_cons_zero, List.set_cons_succ]
        refine WL.skip (by kernel_rfl) ?_
        simp only [Act.put, List.setIfInBounds_toArray, List.set_cons_zero, List.set_cons_succ]
        refine WL.skip (by kernel_rfl) ?_
        simp only [Act.put, List.setIfInBounds_toArray, List.set_cons_zero, List.set_cons_succ]
        refine WL.skip (by kernel_rfl) ?_
        simp only [Act.put, List.setIfInBounds_toArray, List.set_cons_zero, List.set_cons_succ]
        refine WL.val (by kernel_rfl) (.bool false) (by go_simp) ?_
        simp only [Act.put, List.setIfInBounds_toArray, List.set_cons_zero, List.set_cons_succ]
        refine WL.val (by kernel_rfl) (.bool false) (by go_simp) ?_
        simp only [Act.put, List.setIfInBounds_toArray, List.set_cons_zero, List.set_cons_succ]
        refine WL.skip (by kernel_rfl) ?_
        simp only [Act.put, List.setIfInBounds_toArray, List.set_cons_zero, List.set_cons_succ]
        refine WL.skip (by kernel_rfl) ?_
        simp only [Act.put, List.setIfInBounds_toArray, List.set_cons_zero, List.set_cons_succ]
        refine WL.skip (by kernel_rfl) ?_
        simp only [Act.put, List.setIfInBounds_toArray, List.set_cons_zero, List.set_cons_succ]
        refine WL.skip (by kernel_rfl) ?_
        simp only [Act.put, List.setIfInBounds_toArray, List.set_cons_zero, List.set_cons_succ]
        refine WL.skip (by kernel_rfl) ?_
        simp only [Act.put, List.setIfInBounds_toArray, List.set_cons_zero, List.set_cons_succ]
        refine WL.val (by kernel_rfl) (.bool false) (by go_simp) ?_
        simp only [Act.put, List.setIfInBounds_toArray, List.set_cons_zero, List.set_cons_succ]
        refine WL.val (by kernel_rfl) (.bool false) (by go_simp) ?_
        simp only [Act.put, List.setIfInBounds_toArray, List.set_cons_zero, List.set_cons_succ]
        refine WL.skip (by kernel_rfl) ?_
        simp only [Act.put, List.setIfInBounds_toArray, List.set_cons_zero, List.set_cons_succ]
        refine WL.skip (by kernel_rfl) ?_
        simp only [Act.put, List.setIfInBounds_toArray, List.set_cons_zero, List.set_cons_succ]
        refine WL.skip (by kernel_rfl) ?_
        simp only [Act.put, List.setIfInBounds_toArray, List.set_cons_zero, List.set_cons_succ]
        refine WL.skip (by kernel_rfl) ?_
        simp only [Act.put, List.setIfInBounds_toArray, List.set_cons_zero, List.set_cons_succ]
        refine WL.skip (by kernel_rfl) ?_
        simp only [Act.put, List.setIfInBounds_toArray, List.set_cons_zero, List.set_cons_succ]
        refine WL.val (by kernel_rfl) (.bool false) (by go_simp) ?_
        simp only [Act.put, List.setIfInBounds_toArray, List.set_cons_zero, List.set_cons_succ]
        refine WL.val (by kernel_rfl) (.bool false) (by go_simp) ?_
        simp only [Act.put, List.setIfInBounds_toArray, List.set_cons_zero, List.set_cons_succ]
        refine WL.nil ?_
        refine hK2 _ _ ?_
        refine wp_ret ?_
        go_ret
        have hv : sameN A B = false := by
          simp [sameN, h1_4]
        exact ⟨by rw [hv]; rfl, B2.out⟩
    · skip
      refine wp_region_list (WL.out ?_)
      refine WL.val (by kernel_rfl) (.pointer (some ⟨g, 0, none⟩)) (by go_simp) ?_
      simp only [Act.put, List.setIfInBounds_toArray, List.set_cons_zero, List.set_cons_succ]
      refine WL.val (by kernel_rfl) (.int .i64 A.au) (by go_simp) ?_
      simp only [Act.put, List.setIfInBounds_toArray, List.set_cons_zero, List.set_cons_succ]
      refine WL.val (by kernel_rfl) (.pointer (some ⟨k, 0, none⟩)) (by go_simp) ?_
      simp only [Act.put, List.setIfInBounds_toArray, List.set_cons_zero, List.set_cons_succ]
      refine WL.val (by kernel_rfl) (.int .i64 B.au) (by go_simp) ?_
      simp only [Act.put, List.setIfInBounds_toArray, List.set_cons_zero, List.set_cons_succ]
      by_cases h1_4 : A.au = B.au
      · skip
        refine WL.val (by kernel_rfl) (.bool true) (by go_simp) ?_
        simp only [Act.put, List.setIfInBounds_toArray, List.set_cons_zero, List.set_cons_succ]
        refine WL.val (by kernel_rfl) (.bool true) (by go_simp) ?_
        simp only [Act.put, List.setIfInBounds_toArray, List.set_cons_zero, List.set_cons_succ]
        refine WL.val (by kernel_rfl) (.pointer (some ⟨g, 1, none⟩)) (by go_simp) ?_
        simp only [Act.put, List.setIfInBounds_toArray, List.set_cons_zero, List.set_cons_succ]
        refine WL.val (by kernel_rfl) (.int .i64 A.ck) (by go_simp) ?_
        simp only [Act.put, List.setIfInBounds_toArray, List.set_cons_zero, List.set_cons_succ]
        refine WL.val (by kernel_rfl) (.pointer (some ⟨k, 1, none⟩)) (by go_simp) ?_
        simp only [Act.put, List.setIfInBounds_toArray, List.set_cons_zero, List.set_cons_succ]
        refine WL.val (by kernel_rfl) (.int .i64 B.ck) (by go_simp) ?_
        simp only [Act.put, List.setIfInBounds_toArray, List.set_cons_zero, List.set_cons_succ]
        by_cases h1_10 : A.ck = B.ck
        · skip
          refine WL.val (by kernel_rfl) (.bool true) (by go_simp) ?_
          simp only [Act.put, List.setIfInBounds_toArray, List.set_cons_zero, List.set_cons_succ]
          refine WL.val (by kernel_rfl) (.bool true) (by go_simp) ?_
          simp only [Act.put, List.setIfInBounds_toArray, List.set_cons_zero, List.set_cons_succ]
          refine WL.val (by kernel_rfl) (.bool true) (by go_simp) ?_
          simp only [Act.put, List.setIfInBounds_toArray, List.set_cons_zero, List.set_cons_succ]
          refine WL.val (by kernel_rfl) (.pointer (some ⟨g, 2, none⟩)) (by go_simp) ?_
          simp only [Act.put, List.setIfInBounds_toArray, List.set_cons_zero, List.set_cons_succ]
          refine WL.val (by kernel_rfl) (.slice pa A.ps.length pc) (by go_simp) ?_
          simp only [Act.put, List.setIfInBounds_toArray, List.set_cons_zero, List.set_cons_succ]
          refine WL.val (by kernel_rfl) (.pointer (some ⟨k, 2, none⟩)) (by go_simp) ?_
          simp only [Act.put, List.setIfInBounds_toArray, List.set_cons_zero, List.set_cons_succ]
          refine WL.val (by kernel_rfl) (.slice pb B.ps.length pd) (by go_simp) ?_
          simp only [Act.put, List.setIfInBounds_toArray, List.set_cons_zero, List.set_cons_succ]
          refine WL.callF (by kernel_rfl) 39 _ _ rfl Try.in39 #[.slice pa A.ps.length pc, .slice pb B.ps.length pd] (by simp [Act.eval]) ?_
          refine (eqH_any A.ps B.ps _ _ w2 HA2.out.ps HB2.out.ps HA.out.lp).mono ?_
          rintro e w3 ⟨rfl, hb3⟩
          refine ⟨_, rfl, ?_⟩
          rw [hps]
          have B3 : Keep (Below g w w3) := ⟨B2.out.trans (hb3.mono B2x.out)⟩
          have a3 := (HXa.out.below hb3 HXa.out.lt).c 3 (nd_3 _ _ _ _)
          have b3 := (HXb.out.below hb3 HXb.out.lt).c 3 (nd_3 _ _ _ _)
          have B3z := Keep.mk hb3
          clear hb3
          simp only [Act.put, List.setIfInBounds_toArray, List.set_cons_zero, List.set_cons_succ]
          refine WL.val (by kernel_rfl) (.bool false) (by go_simp) ?_
          simp only [Act.put, List.setIfInBounds_toArray, List.set_cons_zero, List.set_cons_succ]
          refine WL.val (by kernel_rfl) (.bool false) (by go_simp) ?_
          simp only [Act.put, List.setIfInBounds_toArray, List.set_cons_zero, List.set_cons_succ]
          refine WL.skip (by kernel_rfl) ?_
          simp only [Act.put, List.setIfInBounds_toArray, List.set_cons_zero, List.set_cons_succ]
          refine WL.skip (by kernel_rfl) ?_
          simp only [Act.put, List.setIfInBounds_toArray, List.set_cons_zero, List.set_cons_succ]
          refine WL.skip (by kernel_rfl) ?_
          simp only [Act.put, List.setIfInBounds_toArray, List.set_cons_zero, List.set_cons_succ]
          refine WL.skip (by kernel_rfl) ?_
          simp only [Act.put, List.setIfInBounds_toArray, List.set_cons_zero, List.set_cons_succ]
          refine WL.skip (by kernel_rfl) ?_
          simp only [Act.put, List.setIfInBounds_toArray, List.set_cons_zero, List.set_cons_succ]
          refine WL.val (by kernel_rfl) (.bool false) (by go_simp) ?_
          simp only [Act.put, List.setIfInBounds_toArray, List.set_cons_zero, List.set_cons_succ]
          refine WL.val (by kernel_rfl) (.bool false) (by go_simp) ?_
          simp only [Act.put, List.setIfInBounds_toArray, List.set_cons_zero, List.set_cons_succ]
          refine WL.nil ?_
          refine hK2 _ _ ?_
          refine wp_ret ?_
          go_ret
          have hv : sameN A B = false := by
            unfold sameN; rw [hps, hos, decide_eq_true h1_4, decide_eq_true h1_10]; rfl
          exact ⟨by rw [hv]; rfl, B3.out⟩
        · skip
          refine WL.val (by kernel_rfl) (.bool false) (by go_simp) ?_
          simp only [Act.put, List.setIfInBounds_toArray, List.set_cons_zero, List.set_cons_succ]
          refine WL.val (by kernel_rfl) (.bool false) (by go_simp) ?_
          simp only [Act.put, List.setIfInBounds_toArray, List.set_cons_zero, List.set_cons_succ]
          refine WL.val (by kernel_rfl) (.bool false) (by go_simp) ?_
          simp only [Act.put, List.setIfInBounds_toArray, List.set_cons_zero, List.set_cons_succ]
          refine WL.skip (by kernel_rfl) ?_
          simp only [Act.put, List.setIfInBounds_toArray, List.set_cons_zero, List.set_cons_succ]
          refine WL.skip (by kernel_rfl) ?_
          simp only [Act.put, List.setIfInBounds_toArray, List.set_cons_zero, List.set_cons_succ]
          refine WL.skip (by kernel_rfl) ?_
          simp only [Act.put, List.setIfInBounds_toArray, List.set_cons_zero, List.set_cons_succ]
          refine WL.skip (by kernel_rfl) ?_
          simp only [Act.put, List.setIfInBounds_toArray, List.set_cons_zero, List.set_cons_succ]
          refine WL.skip (by kernel_rfl) ?_
          simp only [Act.put, List.setIfInBounds_toArray, List.set_cons_zero, List.set_cons_succ]
          refine WL.val (by kernel_rfl) (.bool false) (by go_simp) ?_
          simp only [Act.put, List.setIfInBounds_toArray, List.set_cons_zero, List.set_cons_succ]
          refine WL.val (by kernel_rfl) (.bool false) (by go_simp) ?_
          simp only [Act.put, List.setIfInBounds_toArray, List.set_cons_zero, List.set_cons_succ]
          refine WL.skip (by kernel_rfl) ?_
          simp only [Act.put, List.setIfInBounds_toArray, List.set_cons_zero, List.set_cons_succ]
          refine WL.skip (by kernel_rfl) ?_
          simp only [Act.put, List.setIfInBounds_toArray, List.set_cons_zero, List.set_cons_succ]
          refine WL.skip (by kernel_rfl) ?_
          simp only [Act.put, List.setIfInBounds_toArray, List.set_cons_zero, List.set_cons_succ]
          refine WL.skip (by kernel_rfl) ?_
          simp only [Act.put, List.setIfInBounds_toArray, List.set_cons_zero, List.set_cons_succ]
          refine WL.skip (by kernel_rfl) ?_
          simp only [Act.put, List.setIfInBounds_toArray, List.set_cons_zero, List.set_cons_succ]
          refine WL.val (by kernel_rfl) (.bool false) (by go_simp) ?_
          simp only [Act.put, List.setIfInBounds_toArray, List.set_cons_zero, List.set_cons_succ]
          refine WL.val (by kernel_rfl) (.bool false) (by go_simp) ?_
          simp only [Act.put, List.setIfInBounds_toArray, List.set_cons_zero, List.set_cons_succ]
          refine WL.nil ?_
          refine hK2 _ _ ?_
          refine wp_ret ?_
          go_ret
          have hv : sameN A B = false := by
            simp [sameN, h1_10]
          exact ⟨by rw [hv]; rfl, B2.out⟩
      · skip
        refine WL.val (by kernel_rfl) (.bool false) (by go_simp) ?_
        simp only [Act.put, List.setIfInBounds_toArray, List.set_cons_zero, List.set_cons_succ]
        refine WL.val (by kernel_rfl) (.bool false) (by go_simp) ?_
        simp only [Act.put, List.setIfInBounds_toArray, List.set_cons_zero, List.set_cons_succ]
        refine WL.skip (by kernel_rfl) ?_
        simp only [Act.put, List.setIfInBounds_toArray, List.set_cons_zero, List.set_cons_succ]
        refine WL.skip (by kernel_rfl) ?_
        simp only [Act.put, List.setIfInBounds_toArray, List.set_cons_zero, List.set_cons_succ]
        refine WL.skip (by kernel_rfl) ?_
        simp only [Act.put, List.setIfInBounds_toArray, List.set_cons_zero, List.set_cons_succ]
        refine WL.skip (by kernel_rfl) ?_
        simp only [Act.put, List.setIfInBounds_toArray, List.set_cons_zero, List.set_cons_succ]
        refine WL.skip (by kernel_rfl) ?_
        simp only [Act.put, List.setIfInBounds_toArray, List.set_cons_zero, List.set_cons_succ]
        refine WL.val (by kernel_rfl) (.bool false) (by go_simp) ?_
        simp only [Act.put, List.setIfInBounds_toArray, List.set_cons_zero, List.set_cons_succ]
        refine WL.val (by kernel_rfl) (.bool false) (by go_simp) ?_
        simp only [Act.put, List.setIfInBounds_toArray, List.set_cons_zero, List.set_cons_succ]
        refine WL.skip (by kernel_rfl) ?_
        simp only [Act.put, List.setIfInBounds_toArray, List.set_cons_zero, List.set_cons_succ]
        refine WL.skip (by kernel_rfl) ?_
        simp only [Act.put, List.setIfInBounds_toArray, List.set_cons_zero, List.set_cons_succ]
        refine WL.skip (by kernel_rfl) ?_
        simp only [Act.put, List.setIfInBounds_toArray, List.set_cons_zero, List.set_cons_succ]
        refine WL.skip (by kernel_rfl) ?_
        simp only [Act.put, List.setIfInBounds_toArray, List.set_cons_zero, List.set_cons_succ]
        refine WL.skip (by kernel_rfl) ?_
        simp only [Act.put, List.setIfInBounds_toArray, List.set_cons_zero, List.set_cons_succ]
        refine WL.val (by kernel_rfl) (.bool false) (by go_simp) ?_
        simp only [Act.put, List.setIfInBounds_toArray, List.set_cons_zero, List.set_cons_succ]
        refine WL.val (by kernel_rfl) (.bool false) (by go_simp) ?_
        simp only [Act.put, List.setIfInBounds_toArray, List.set_cons_zero, List.set_cons_succ]
        refine WL.skip (by kernel_rfl) ?_
        simp only [Act.put, List.setIfInBounds_toArray, List.set_cons_zero, List.set_cons_succ]
        refine WL.skip (by kernel_rfl) ?_
        simp only [Act.put, List.setIfInBounds_toArray, List.set_cons_zero, List.set_cons_succ]
        refine WL.skip (by kernel_rfl) ?_
        simp only [Act.put, List.setIfInBounds_toArray, List.set_cons_zero, List.set_cons_succ]
        refine WL.skip (by kernel_rfl) ?_
        simp only [Act.put, List.setIfInBounds_toArray, List.set_cons_zero, List.set_cons_succ]
        refine WL.skip (by kernel_rfl) ?_
        simp only [Act.put, List.setIfInBounds_toArray, List.set_cons_zero, List.set_cons_succ]
        refine WL.val (by kernel_rfl) (.bool false) (by go_simp) ?_
        simp only [Act.put, List.setIfInBounds_toArray, List.set_cons_zero, List.set_cons_succ]
        refine WL.val (by kernel_rfl) (.bool false) (by go_simp) ?_
        simp only [Act.put, List.setIfInBounds_toArray, List.set_cons_zero, List.set_cons_succ]
        refine WL.nil ?_
        refine hK2 _ _ ?_
        refine wp_ret ?_
        go_ret
        have hv : sameN A B = false := by
          simp [sameN, h1_4]
        exact ⟨by rw [hv]; rfl, B2.out⟩
theorem Try.in5 (w : World) (vs : Array Value) : (callFunc 5 vs).run Try.prog w = .ok (.enter 5 vs) w := by kernel_rfl
set_option maxRecDepth 8000 in
set_option maxHeartbeats 4000000 in
theorem returns_any (N : NodeV) (vp vo : Value) (w : World) (hN : NdAt w N vp vo) : Calls Try.prog 5 #[.agg (ndA N.au N.ck vp vo)] w fun e w' => e = .returned (.bool true) ∧ Below w.heap.size w w' := by
  obtain ⟨pa, pc, rfl⟩ := hN.ps.form
  have HN := Keep.mk hN
  clear hN
  go_enter Try.func5, Try.ntmps5
  refine wp_seq_k fun K1 hK1 => ?_
  refine wp_region_list (WL.out ?_)
  refine WL.box (by kernel_rfl) 27 (.tmp 0) rfl _ rfl ?_
  have HX1 := Keep.mk (Blk.new w 27 (ndA N.au N.ck (.slice pa N.ps.length pc) vo))
  have B1 := Keep.mk (below_new w (.cells (ndA N.au N.ck (.slice pa N.ps.length pc) vo) 27))
  generalize w.alloc (.cells (ndA N.au N.ck (.slice pa N.ps.length pc) vo) 27) = w1 at *
  have HN1 := Keep.mk (HN.out.below B1.out)
  have Hs1 : Keep (w.heap.size < w1.heap.size) := ⟨HX1.out.lt⟩
  have B1x : Keep (w.heap.size ≤ w1.heap.size) := ⟨B1.out.size⟩
  generalize hgg : w.heap.size = g at *
  simp only [Act.put, List.setIfInBounds_toArray, List.set_cons_zero, List.set_cons_succ]
  refine WL.val (by kernel_rfl) (.bool false) (by go_simp) ?_
  simp only [Act.put, List.setIfInBounds_toArray, List.set_cons_zero, List.set_cons_succ]
  refine WL.nil ?_
  refine hK1 _ _ ?_
  refine wp_seq_k fun K2 hK2 => ?_
  refine wp_seq_k fun K3 hK3 => ?_
  refine wp_region_list (WL.out ?_)
  refine WL.callF (by kernel_rfl) 9 _ _ rfl Try.in9 #[] (by simp) ?_
  refine (awake_any w1).mono ?_
  rintro e w2 ⟨rfl, hb2⟩
  refine ⟨_, rfl, ?_⟩
  have B2 := Keep.mk hb2
  have HN2 := Keep.mk (HN1.out.below hb2)
  have HX2 := Keep.mk (HX1.out.below hb2 HX1.out.lt)
  clear hb2
  simp only [Act.put, List.setIfInBounds_toArray, List.set_cons_zero, List.set_cons_succ]
  refine WL.val (by kernel_rfl) (.bool false) (by go_simp) ?_
  simp only [Act.put, List.setIfInBounds_toArray, List.set_cons_zero, List.set_cons_succ]
  refine WL.nil ?_
  refine hK3 _ _ ?_
  refine wp_cond_false rfl ?_
  refine wp_skip ?_
  refine hK2 _ _ ?_
  refine wp_seq_k fun K4 hK4 => ?_
  refine wp_region_list (WL.out ?_)
  refine WL.row (by kernel_rfl) 27 (.tmp 1) rfl g rfl 27 (ndA N.au N.ck (.slice pa N.ps.length pc) vo) _ HX2.out Try.underlying27 rfl (Try.size27B _ _ _ _) ?_
  simp only [Act.put, List.setIfInBounds_toArray, List.set_cons_zero, List.set_cons_succ]
  refine WL.callF (by kernel_rfl) 10 _ _ rfl Try.in10 #[.agg (ndA N.au N.ck (.slice pa N.ps.length pc) vo)] (by simp [Act.eval]) ?_
  refine (encode_any N _ vo w2 HN2.out).mono ?_
  rintro e w3 ⟨hb3, (⟨hch, rfl⟩ | ⟨hch, hlong, rfl⟩ | ⟨hch, hlen, gb, hgb, rfl, hblk⟩)⟩
  · refine ⟨_, rfl, ?_⟩
    have B3 : Keep (Below w1.heap.size w1 w3) := ⟨B2.out.trans (hb3.mono B2.out.size)⟩
    have HN3 := Keep.mk (HN1.out.below B3.out)
    have HX3 := Keep.mk (HX1.out.below B3.out HX1.out.lt)
    have Hsz : Keep (sizeN N = 0) := ⟨if_neg hch⟩
    clear hb3
    simp only [Act.put, List.setIfInBounds_toArray, List.set_cons_zero, List.set_cons_succ]
    refine WL.val (by kernel_rfl) (.tuple #[.slice none 0 0, .int .i64 (chkN N)]) (by go_simp) ?_
    simp only [Act.put, List.setIfInBounds_toArray, List.set_cons_zero, List.set_cons_succ]
    refine WL.val (by kernel_rfl) (.slice none 0 0) (by go_simp) ?_
    simp only [Act.put, List.setIfInBounds_toArray, List.set_cons_zero, List.set_cons_succ]
    refine WL.val (by kernel_rfl) (.int .i64 (chkN N)) (by go_simp) ?_
    simp only [Act.put, List.setIfInBounds_toArray, List.set_cons_zero, List.set_cons_succ]
    refine WL.val (by kernel_rfl) (.slice none 0 0) (by go_simp) ?_
    simp only [Act.put, List.setIfInBounds_toArray, List.set_cons_zero, List.set_cons_succ]
    refine WL.val (by kernel_rfl) (.int .i64 (chkN N)) (by go_simp) ?_
    simp only [Act.put, List.setIfInBounds_toArray, List.set_cons_zero, List.set_cons_succ]
    refine WL.nil ?_
    refine hK4 _ _ ?_
    refine wp_seq_k fun K5 hK5 => ?_
    refine wp_region_list (WL.out ?_)
    refine WL.row (by kernel_rfl) 27 (.tmp 1) rfl g rfl 27 (ndA N.au N.ck (.slice pa N.ps.length pc) vo) _ HX3.out Try.underlying27 rfl (Try.size27B _ _ _ _) ?_
    simp only [Act.put, List.setIfInBounds_toArray, List.set_cons_zero, List.set_cons_succ]
    refine WL.callF (by kernel_rfl) 12 _ _ rfl Try.in12 #[.agg (ndA N.au N.ck (.slice pa N.ps.length pc) vo)] (by simp [Act.eval]) ?_
    refine (check_node N _ vo w3 HN3.out).mono ?_
    rintro e w4 ⟨rfl, hb4⟩
    refine ⟨_, rfl, ?_⟩
    have B4 : Keep (Below w1.heap.size w1 w4) := ⟨B3.out.trans (hb4.mono B3.out.size)⟩
    have HN4 := Keep.mk (HN1.out.below B4.out)
    have HX4 := Keep.mk (HX1.out.below B4.out HX1.out.lt)
    have BB4 := Keep.mk hb4
    clear hb4
    simp only [Act.put, List.setIfInBounds_toArray, List.set_cons_zero, List.set_cons_succ]
    refine WL.val (by kernel_rfl) (.int .i64 (chkN N)) (by go_simp) ?_
    simp only [Act.put, List.setIfInBounds_toArray, List.set_cons_zero, List.set_cons_succ]
    refine WL.nil ?_
    refine hK5 _ _ ?_
    refine wp_seq_k fun K6 hK6 => ?_
    refine wp_seq_k fun K7 hK7 => ?_
    refine wp_region_list (WL.out ?_)
    refine WL.val (by kernel_rfl) (.int .i64 (chkN N)) (by go_simp) ?_
    simp only [Act.put, List.setIfInBounds_toArray, List.set_cons_zero, List.set_cons_succ]
    refine WL.val (by kernel_rfl) (.bool true) (by go_simp) ?_
    simp only [Act.put, List.setIfInBounds_toArray, List.set_cons_zero, List.set_cons_succ]
    refine WL.nil ?_
    refine hK7 _ _ ?_
    refine wp_cond_true rfl ?_
    refine wp_seq_k fun K8 hK8 => ?_
    refine wp_region_list (WL.out ?_)
    refine WL.val (by kernel_rfl) (.slice none 0 0) (by go_simp) ?_
    simp only [Act.put, List.setIfInBounds_toArray, List.set_cons_zero, List.set_cons_succ]
    refine WL.val (by kernel_rfl) (.int .i64 0) (by go_simp) ?_
    simp only [Act.put, List.setIfInBounds_toArray, List.set_cons_zero, List.set_cons_succ]
    refine WL.val (by kernel_rfl) (.bool true) (by go_simp) ?_
    simp only [Act.put, List.setIfInBounds_toArray, List.set_cons_zero, List.set_cons_succ]
    refine WL.val (by kernel_rfl) (.bool true) (by go_simp) ?_
    simp only [Act.put, List.setIfInBounds_toArray, List.set_cons_zero, List.set_cons_succ]
    refine WL.val (by kernel_rfl) (.int .i64 (chkN N)) (by go_simp) ?_
    simp only [Act.put, List.setIfInBounds_toArray, List.set_cons_zero, List.set_cons_succ]
    refine WL.val (by kernel_rfl) (.int .i64 (chkN N)) (by go_simp) ?_
    simp only [Act.put, List.setIfInBounds_toArray, List.set_cons_zero, List.set_cons_succ]
    refine WL.val (by kernel_rfl) (.bool true) (by go_simp) ?_
    simp only [Act.put, List.setIfInBounds_toArray, List.set_cons_zero, List.set_cons_succ]
    refine WL.val (by kernel_rfl) (.bool true) (by go_simp) ?_
    simp only [Act.put, List.setIfInBounds_toArray, List.set_cons_zero, List.set_cons_succ]
    refine WL.row (by kernel_rfl) 27 (.tmp 1) rfl g rfl 27 (ndA N.au N.ck (.slice pa N.ps.length pc) vo) _ HX4.out Try.underlying27 rfl (Try.size27B _ _ _ _) ?_
    simp only [Act.put, List.setIfInBounds_toArray, List.set_cons_zero, List.set_cons_succ]
    refine WL.callF (by kernel_rfl) 14 _ _ rfl Try.in14 #[.agg (ndA N.au N.ck (.slice pa N.ps.length pc) vo)] (by simp [Act.eval]) ?_
    refine (size_any N _ vo w4 HN4.out).mono ?_
    rintro e w5 ⟨rfl, hb5⟩
    refine ⟨_, rfl, ?_⟩
    rw [Hsz.out]
    have B5 : Keep (Below w1.heap.size w1 w5) := ⟨B4.out.trans (hb5.mono B4.out.size)⟩
    clear hb5
    simp only [Act.put, List.setIfInBounds_toArray, List.set_cons_zero, List.set_cons_succ]
    refine WL.val (by kernel_rfl) (.bool true) (by go_simp) ?_
    simp only [Act.put, List.setIfInBounds_toArray, List.set_cons_zero, List.set_cons_succ]
    refine WL.val (by kernel_rfl) (.bool true) (by go_simp) ?_
    simp only [Act.put, List.setIfInBounds_toArray, List.set_cons_zero, List.set_cons_succ]
    refine WL.val (by kernel_rfl) (.bool true) (by go_simp) ?_
    simp only [Act.put, List.setIfInBounds_toArray, List.set_cons_zero, List.set_cons_succ]
    refine WL.skip (by kernel_rfl) ?_
    simp only [Act.put, List.setIfInBounds_toArray, List.set_cons_zero, List.set_cons_succ]
    refine WL.skip (by kernel_rfl) ?_
    simp only [Act.put, List.setIfInBounds_toArray, List.set_cons_zero, List.set_cons_succ]
    refine WL.skip (by kernel_rfl) ?_
    simp only [Act.put, List.setIfInBounds_toArray, List.set_cons_zero, List.set_cons_succ]
    refine WL.skip (by kernel_rfl) ?_
    simp only [Act.put, List.setIfInBounds_toArray, List.set_cons_zero, List.set_cons_succ]
    refine WL.skip (by kernel_rfl) ?_
    simp only [Act.put, List.setIfInBounds_toArray, List.set_cons_zero, List.set_cons_succ]
    refine WL.skip (by kernel_rfl) ?_
    simp only [Act.put, List.setIfInBounds_toArray, List.set_cons_zero, List.set_cons_succ]
    refine WL.skip (by kernel_rfl) ?_
    simp only [Act.put, List.setIfInBounds_toArray, List.set_cons_zero, List.set_cons_succ]
    refine WL.skip (by kernel_rfl) ?_
    simp only [Act.put, List.setIfInBounds_toArray, List.set_cons_zero, List.set_cons_succ]
    refine WL.skip (by kernel_rfl) ?_
    simp only [Act.put, List.setIfInBounds_toArray, List.set_cons_zero, List.set_cons_succ]
    refine WL.skip (by kernel_rfl) ?_
    simp only [Act.put, List.setIfInBounds_toArray, List.set_cons_zero, List.set_cons_succ]
    refine WL.skip (by kernel_rfl) ?_
    simp only [Act.put, List.setIfInBounds_toArray, List.set_cons_zero, List.set_cons_succ]
    refine WL.val (by kernel_rfl) (.bool true) (by go_simp) ?_
    simp only [Act.put, List.setIfInBounds_toArray, List.set_cons_zero, List.set_cons_succ]
    refine WL.val (by kernel_rfl) (.bool true) (by go_simp) ?_
    simp only [Act.put, List.setIfInBounds_toArray, List.set_cons_zero, List.set_cons_succ]
    refine WL.val (by kernel_rfl) (.bool true) (by go_simp) ?_
    simp only [Act.put, List.setIfInBounds_toArray, List.set_cons_zero, List.set_cons_succ]
    refine WL.nil ?_
    refine hK8 _ _ ?_
    refine wp_ret ?_
    go_ret
    exact ⟨rfl, B1.out.trans (B5.out.mono B1x.out)⟩
  · refine ⟨_, rfl, ?_⟩
    have B3 : Keep (Below w1.heap.size w1 w3) := ⟨B2.out.trans (hb3.mono B2.out.size)⟩
    have HN3 := Keep.mk (HN1.out.below B3.out)
    have HX3 := Keep.mk (HX1.out.below B3.out HX1.out.lt)
    have Hch := Keep.mk hch
    have Hsz : Keep (sizeN N = ((blkL N).length : Int)) := ⟨if_pos hch⟩
    have hli : (1048576 : Int) < ((blkL N).length : Int) := by omega
    clear hb3
    simp only [Act.put, List.setIfInBounds_toArray, List.set_cons_zero, List.set_cons_succ]
    refine WL.val (by kernel_rfl) (.tuple #[.slice none 0 0, .int .i64 4]) (by go_simp) ?_
    simp only [Act.put, List.setIfInBounds_toArray, List.set_cons_zero, List.set_cons_succ]
    refine WL.val (by kernel_rfl) (.slice none 0 0) (by go_simp) ?_
    simp only [Act.put, List.setIfInBounds_toArray, List.set_cons_zero, List.set_cons_succ]
    refine WL.val (by kernel_rfl) (.int .i64 4) (by go_simp) ?_
    simp only [Act.put, List.setIfInBounds_toArray, List.set_cons_zero, List.set_cons_succ]
    refine WL.val (by kernel_rfl) (.slice none 0 0) (by go_simp) ?_
    simp only [Act.put, List.setIfInBounds_toArray, List.set_cons_zero, List.set_cons_succ]
    refine WL.val (by kernel_rfl) (.int .i64 4) (by go_simp) ?_
    simp only [Act.put, List.setIfInBounds_toArray, List.set_cons_zero, List.set_cons_succ]
    refine WL.nil ?_
    refine hK4 _ _ ?_
    refine wp_seq_k fun K9 hK9 => ?_
    refine wp_region_list (WL.out ?_)
    refine WL.row (by kernel_rfl) 27 (.tmp 1) rfl g rfl 27 (ndA N.au N.ck (.slice pa N.ps.length pc) vo) _ HX3.out Try.underlying27 rfl (Try.size27B _ _ _ _) ?_
    simp only [Act.put, List.setIfInBounds_toArray, List.set_cons_zero, List.set_cons_succ]
    refine WL.callF (by kernel_rfl) 12 _ _ rfl Try.in12 #[.agg (ndA N.au N.ck (.slice pa N.ps.length pc) vo)] (by simp [Act.eval]) ?_
    refine (check_node N _ vo w3 HN3.out).mono ?_
    rintro e w4 ⟨rfl, hb4⟩
    refine ⟨_, rfl, ?_⟩
    rw [Hch.out]
    have B4 : Keep (Below w1.heap.size w1 w4) := ⟨B3.out.trans (hb4.mono B3.out.size)⟩
    have HN4 := Keep.mk (HN1.out.below B4.out)
    have HX4 := Keep.mk (HX1.out.below B4.out HX1.out.lt)
    have BB4 := Keep.mk hb4
    clear hb4
    simp only [Act.put, List.setIfInBounds_toArray, List.set_cons_zero, List.set_cons_succ]
    refine WL.val (by kernel_rfl) (.int .i64 0) (by go_simp) ?_
    simp only [Act.put, List.setIfInBounds_toArray, List.set_cons_zero, List.set_cons_succ]
    refine WL.nil ?_
    refine hK9 _ _ ?_
    refine wp_seq_k fun K10 hK10 => ?_
    refine wp_seq_k fun K11 hK11 => ?_
    refine wp_region_list (WL.out ?_)
    refine WL.val (by kernel_rfl) (.int .i64 4) (by go_simp) ?_
    simp only [Act.put, List.setIfInBounds_toArray, List.set_cons_zero, List.set_cons_succ]
    refine WL.val (by kernel_rfl) (.bool true) (by go_simp) ?_
    simp only [Act.put, List.setIfInBounds_toArray, List.set_cons_zero, List.set_cons_succ]
    refine WL.nil ?_
    refine hK11 _ _ ?_
    refine wp_cond_true rfl ?_
    refine wp_seq_k fun K12 hK12 => ?_
    refine wp_region_list (WL.out ?_)
    refine WL.val (by kernel_rfl) (.slice none 0 0) (by go_simp) ?_
    simp only [Act.put, List.setIfInBounds_toArray, List.set_cons_zero, List.set_cons_succ]
    refine WL.val (by kernel_rfl) (.int .i64 0) (by go_simp) ?_
    simp only [Act.put, List.setIfInBounds_toArray, List.set_cons_zero, List.set_cons_succ]
    refine WL.val (by kernel_rfl) (.bool true) (by go_simp) ?_
    simp only [Act.put, List.setIfInBounds_toArray, List.set_cons_zero, List.set_cons_succ]
    refine WL.val (by kernel_rfl) (.bool true) (by go_simp) ?_
    simp only [Act.put, List.setIfInBounds_toArray, List.set_cons_zero, List.set_cons_succ]
    refine WL.val (by kernel_rfl) (.int .i64 0) (by go_simp) ?_
    simp only [Act.put, List.setIfInBounds_toArray, List.set_cons_zero, List.set_cons_succ]
    refine WL.val (by kernel_rfl) (.int .i64 4) (by go_simp) ?_
    simp only [Act.put, List.setIfInBounds_toArray, List.set_cons_zero, List.set_cons_succ]
    refine WL.val (by kernel_rfl) (.bool false) (by go_simp) ?_
    simp only [Act.put, List.setIfInBounds_toArray, List.set_cons_zero, List.set_cons_succ]
    refine WL.val (by kernel_rfl) (.bool false) (by go_simp) ?_
    simp only [Act.put, List.setIfInBounds_toArray, List.set_cons_zero, List.set_cons_succ]
    refine WL.skip (by kernel_rfl) ?_
    simp only [Act.put, List.setIfInBounds_toArray, List.set_cons_zero, List.set_cons_succ]
    refine WL.skip (by kernel_rfl) ?_
    simp only [Act.put, List.setIfInBounds_toArray, List.set_cons_zero, List.set_cons_succ]
    refine WL.skip (by kernel_rfl) ?_
    simp only [Act.put, List.setIfInBounds_toArray, List.set_cons_zero, List.set_cons_succ]
    refine WL.val (by kernel_rfl) (.bool false) (by go_simp) ?_
    simp only [Act.put, List.setIfInBounds_toArray, List.set_cons_zero, List.set_cons_succ]
    refine WL.val (by kernel_rfl) (.bool false) (by go_simp) ?_
    simp only [Act.put, List.setIfInBounds_toArray, List.set_cons_zero, List.set_cons_succ]
    refine WL.val (by kernel_rfl) (.int .i64 0) (by go_simp) ?_
    simp only [Act.put, List.setIfInBounds_toArray, List.set_cons_zero, List.set_cons_succ]
    refine WL.val (by kernel_rfl) (.bool true) (by go_simp) ?_
    simp only [Act.put, List.setIfInBounds_toArray, List.set_cons_zero, List.set_cons_succ]
    refine WL.val (by kernel_rfl) (.bool true) (by go_simp) ?_
    simp only [Act.put, List.setIfInBounds_toArray, List.set_cons_zero, List.set_cons_succ]
    refine WL.val (by kernel_rfl) (.int .i64 4) (by go_simp) ?_
    simp only [Act.put, List.setIfInBounds_toArray, List.set_cons_zero, List.set_cons_succ]
    refine WL.val (by kernel_rfl) (.bool true) (by go_simp) ?_
    simp only [Act.put, List.setIfInBounds_toArray, List.set_cons_zero, List.set_cons_succ]
    refine WL.val (by kernel_rfl) (.bool true) (by go_simp) ?_
    simp only [Act.put, List.setIfInBounds_toArray, List.set_cons_zero, List.set_cons_succ]
    refine WL.val (by kernel_rfl) (.bool true) (by go_simp) ?_
    simp only [Act.put, List.setIfInBounds_toArray, List.set_cons_zero, List.set_cons_succ]
    refine WL.row (by kernel_rfl) 27 (.tmp 1) rfl g rfl 27 (ndA N.au N.ck (.slice pa N.ps.length pc) vo) _ HX4.out Try.underlying27 rfl (Try.size27B _ _ _ _) ?_
    simp only [Act.put, List.setIfInBounds_toArray, List.set_cons_zero, List.set_cons_succ]
    refine WL.callF (by kernel_rfl) 14 _ _ rfl Try.in14 #[.agg (ndA N.au N.ck (.slice pa N.ps.length pc) vo)] (by simp [Act.eval]) ?_
    refine (size_any N _ vo w4 HN4.out).mono ?_
    rintro e w5 ⟨rfl, hb5⟩
    refine ⟨_, rfl, ?_⟩
    rw [Hsz.out]
    have B5 : Keep (Below w1.heap.size w1 w5) := ⟨B4.out.trans (hb5.mono B4.out.size)⟩
    clear hb5
    simp only [Act.put, List.setIfInBounds_toArray, List.set_cons_zero, List.set_cons_succ]
    refine WL.val (by kernel_rfl) (.bool true) (by go_simp) ?_
    simp only [Act.put, List.setIfInBounds_toArray, List.set_cons_zero, List.set_cons_succ]
    refine WL.val (by kernel_rfl) (.bool true) (by go_simp) ?_
    simp only [Act.put, List.setIfInBounds_toArray, List.set_cons_zero, List.set_cons_succ]
    refine WL.val (by kernel_rfl) (.bool true) (by go_simp) ?_
    simp only [Act.put, List.setIfInBounds_toArray, List.set_cons_zero, List.set_cons_succ]
    refine WL.val (by kernel_rfl) (.bool true) (by go_simp) ?_
    simp only [Act.put, List.setIfInBounds_toArray, List.set_cons_zero, List.set_cons_succ]
    refine WL.val (by kernel_rfl) (.bool true) (by go_simp) ?_
    simp only [Act.put, List.setIfInBounds_toArray, List.set_cons_zero, List.set_cons_succ]
    refine WL.nil ?_
    refine hK12 _ _ ?_
    refine wp_ret ?_
    go_ret
    exact ⟨rfl, B1.out.trans (B5.out.mono B1x.out)⟩
  · refine ⟨_, rfl, ?_⟩
    have B3 : Keep (Below w1.heap.size w1 w3) := ⟨B2.out.trans (hb3.mono B2.out.size)⟩
    have HN3 := Keep.mk (HN1.out.below B3.out)
    have HX3 := Keep.mk (HX1.out.below B3.out HX1.out.lt)
    have Hch := Keep.mk hch
    have Hlen := Keep.mk hlen
    have HB3 := Keep.mk (row_of hblk rfl)
    have Hsz : Keep (sizeN N = ((blkL N).length : Int)) := ⟨if_pos hch⟩
    clear hblk hgb
    clear hb3 hch
    simp only [Act.put, List.setIfInBounds_toArray, List.set_cons_zero, List.set_cons_succ]
    refine WL.val (by kernel_rfl) (.tuple #[.slice (some ⟨gb, 0, none⟩) (blkL N).length (blkL N).length, .int .i64 0]) (by go_simp) ?_
    simp only [Act.put, List.setIfInBounds_toArray, List.set_cons_zero, List.set_cons_succ]
    refine WL.val (by kernel_rfl) (.slice (some ⟨gb, 0, none⟩) (blkL N).length (blkL N).length) (by go_simp) ?_
    simp only [Act.put, List.setIfInBounds_toArray, List.set_cons_zero, List.set_cons_succ]
    refine WL.val (by kernel_rfl) (.int .i64 0) (by go_simp) ?_
    simp only [Act.put, List.setIfInBounds_toArray, List.set_cons_zero, List.set_cons_succ]
    refine WL.val (by kernel_rfl) (.slice (some ⟨gb, 0, none⟩) (blkL N).length (blkL N).length) (by go_simp) ?_
    simp only [Act.put, List.setIfInBounds_toArray, List.set_cons_zero, List.set_cons_succ]
    refine WL.val (by kernel_rfl) (.int .i64 0) (by go_simp) ?_
    simp only [Act.put, List.setIfInBounds_toArray, List.set_cons_zero, List.set_cons_succ]
    refine WL.nil ?_
    refine hK4 _ _ ?_
    refine wp_seq_k fun K13 hK13 => ?_
    refine wp_region_list (WL.out ?_)
    refine WL.row (by kernel_rfl) 27 (.tmp 1) rfl g rfl 27 (ndA N.au N.ck (.slice pa N.ps.length pc) vo) _ HX3.out Try.underlying27 rfl (Try.size27B _ _ _ _) ?_
    simp only [Act.put, List.setIfInBounds_toArray, List.set_cons_zero, List.set_cons_succ]
    refine WL.callF (by kernel_rfl) 12 _ _ rfl Try.in12 #[.agg (ndA N.au N.ck (.slice pa N.ps.length pc) vo)] (by simp [Act.eval]) ?_
    refine (check_node N _ vo w3 HN3.out).mono ?_
    rintro e w4 ⟨rfl, hb4⟩
    refine ⟨_, rfl, ?_⟩
    rw [Hch.out]
    have B4 : Keep (Below w1.heap.size w1 w4) := ⟨B3.out.trans (hb4.mono B3.out.size)⟩
    have HN4 := Keep.mk (HN1.out.below B4.out)
    have HX4 := Keep.mk (HX1.out.below B4.out HX1.out.lt)
    have BB4 := Keep.mk hb4
    clear hb4
    simp only [Act.put, List.setIfInBounds_toArray, List.set_cons_zero, List.set_cons_succ]
    refine WL.val (by kernel_rfl) (.int .i64 0) (by go_simp) ?_
    simp only [Act.put, List.setIfInBounds_toArray, List.set_cons_zero, List.set_cons_succ]
    refine WL.nil ?_
    refine hK13 _ _ ?_
    refine wp_seq_k fun K14 hK14 => ?_
    refine wp_seq_k fun K15 hK15 => ?_
    refine wp_region_list (WL.out ?_)
    refine WL.val (by kernel_rfl) (.int .i64 0) (by go_simp) ?_
    simp only [Act.put, List.setIfInBounds_toArray, List.set_cons_zero, List.set_cons_succ]
    refine WL.val (by kernel_rfl) (.bool false) (by go_simp) ?_
    simp only [Act.put, List.setIfInBounds_toArray, List.set_cons_zero, List.set_cons_succ]
    refine WL.nil ?_
    refine hK15 _ _ ?_
    refine wp_cond_false rfl ?_
    refine wp_skip ?_
    refine hK14 _ _ ?_
    refine wp_seq_k fun K16 hK16 => ?_
    have HB4 := Keep.mk (HB3.out.below BB4.out)
    have HbyN : Keep (Byts (blkL N)) := ⟨blk_byts Hch.out HN.out.ok⟩
    have HdN : Keep (decR (blkL N) = (0, (blkL N).length, N)) := ⟨by have := decR_there Hch.out HN.out.ok []; rwa [List.append_nil, if_pos rfl] at this⟩
    refine wp_region_list (WL.out ?_)
    refine WL.val (by kernel_rfl) (.slice (some ⟨gb, 0, none⟩) (blkL N).length (blkL N).length) (by go_simp) ?_
    simp only [Act.put, List.setIfInBounds_toArray, List.set_cons_zero, List.set_cons_succ]
    refine WL.callF (by kernel_rfl) 16 _ _ rfl Try.in16 #[.slice (some ⟨gb, 0, none⟩) (blkL N).length (blkL N).length] (by simp [Act.eval]) ?_
    refine (decode_any _ (blkL N) w4 HB4.out HbyN.out).mono ?_
    rintro e w5 h5
    obtain ⟨vp5, vo5, rfl, hp5, ho5, hb5⟩ : ∃ vp vo, e = .returned (.tuple #[.agg (ndA N.au N.ck vp vo), .nilIface]) ∧ OwnH w5 vp N.ps ∧ OwnO w5 vo N.ops ∧ Below w4.heap.size w4 w5 := by
      unfold DecPost at h5
      rw [HdN.out] at h5
      rcases h5 with ⟨_, _, vp, vo, h1, h2, h3, _, _, _, _, h4⟩ | ⟨h1, _⟩
      · exact ⟨vp, vo, h1, h2, h3, h4⟩
      · rcases h1 with h1 | ⟨_, h1⟩
        · have := Hlen.out; omega
        · exact absurd rfl h1
    refine ⟨_, rfl, ?_⟩
    clear h5
    obtain ⟨ea, ec, rfl⟩ := hp5.sl
    obtain ⟨fa, fc, rfl⟩ := ho5.sl
    have HP5 := Keep.mk hp5
    have HQ5 := Keep.mk ho5
    have B5 : Keep (Below w1.heap.size w1 w5) := ⟨B4.out.trans (hb5.mono B4.out.size)⟩
    have HB5 := Keep.mk (HB4.out.below hb5)
    clear hp5 ho5 hb5
    simp only [Act.put, List.setIfInBounds_toArray, List.set_cons_zero, List.set_cons_succ]
    refine WL.val (by kernel_rfl) (.tuple #[.agg (ndA N.au N.ck (.slice ea N.ps.length ec) (.slice fa N.ops.length fc)), .nilIface]) (by go_simp) ?_
    simp only [Act.put, List.setIfInBounds_toArray, List.set_cons_zero, List.set_cons_succ]
    refine WL.val (by kernel_rfl) (.agg (ndA N.au N.ck (.slice ea N.ps.length ec) (.slice fa N.ops.length fc))) (by go_simp) ?_
    simp only [Act.put, List.setIfInBounds_toArray, List.set_cons_zero, List.set_cons_succ]
    refine WL.val (by kernel_rfl) (.nilIface) (by go_simp) ?_
    simp only [Act.put, List.setIfInBounds_toArray, List.set_cons_zero, List.set_cons_succ]
    refine WL.new (by kernel_rfl) 27 rfl _ Try.new27N ?_
    simp only [Act.put, List.setIfInBounds_toArray, List.set_cons_zero, List.set_cons_succ]
    refine WL.storeR (by kernel_rfl) 27 (.tmp 6) (.tmp 50) rfl w5.heap.size (ndA N.au N.ck (.slice ea N.ps.length ec) (.slice fa N.ops.length fc)) rfl rfl 27 (ndA 0 0 noS noS) (Blk.new w5 27 _) (Try.size27B _ _ _ _) rfl (nd_one _ _ _ _ _ _ _ _) ?_
    have HM6 := Keep.mk ((Blk.new w5 27 (ndA 0 0 noS noS)).setRow (ndA N.au N.ck (.slice ea N.ps.length ec) (.slice fa N.ops.length fc)))
    have BS6 : Keep (Below w5.heap.size w5 ((w5.alloc (.cells (ndA 0 0 noS noS) 27)).setRow w5.heap.size (ndA N.au N.ck (.slice ea N.ps.length ec) (.slice fa N.ops.length fc)))) := ⟨below_setRow (below_new w5 _) (Nat.le_refl _) _⟩
    generalize (w5.alloc (.cells (ndA 0 0 noS noS) 27)).setRow w5.heap.size (ndA N.au N.ck (.slice ea N.ps.length ec) (.slice fa N.ops.length fc)) = w6 at *
    have B6 : Keep (Below w1.heap.size w1 w6) := ⟨B5.out.trans (BS6.out.mono B5.out.size)⟩
    have HB6 := Keep.mk (HB5.out.below BS6.out)
    have HP6 := Keep.mk (HP5.out.below BS6.out)
    have HQ6 := Keep.mk (HQ5.out.below BS6.out)
    generalize w5.heap.size = gm at *
    simp only [Act.put]
    refine WL.val (by kernel_rfl) (.nilIface) (by go_simp) ?_
    simp only [Act.put, List.setIfInBounds_toArray, List.set_cons_zero, List.set_cons_succ]
    refine WL.nil ?_
    refine hK16 _ _ ?_
    refine wp_seq_k fun K17 hK17 => ?_
    obtain ⟨hc, hhc⟩ : ∃ hc, Sh.shaP (blkL N) = hc := ⟨_, rfl⟩
    have Hhc := Keep.mk hhc
    clear hhc
    refine wp_region_list (WL.out ?_)
    refine WL.val (by kernel_rfl) (.slice (some ⟨gb, 0, none⟩) (blkL N).length (blkL N).length) (by go_simp) ?_
    simp only [Act.put, List.setIfInBounds_toArray, List.set_cons_zero, List.set_cons_succ]
    refine WL.callF (by kernel_rfl) 17 _ _ rfl Try.in17 #[.slice (some ⟨gb, 0, none⟩) (blkL N).length (blkL N).length] (by simp [Act.eval]) ?_
    refine (entry_any _ (blkL N) w6 HB6.out HbyN.out).mono ?_
    rintro e w7 h7
    obtain ⟨vp7, vo7, rfl, hp7, ho7, hb7⟩ : ∃ vp vo, e = .returned (.tuple #[.agg (enA hc (ndA N.au N.ck vp vo)), .nilIface]) ∧ OwnH w7 vp N.ps ∧ OwnO w7 vo N.ops ∧ Below w6.heap.size w6 w7 := by
      unfold EntP at h7
      rw [HdN.out, Hhc.out] at h7
      rcases h7 with ⟨_, _, vp, vo, h1, h2, h3, _, _, h4⟩ | ⟨h1, _⟩
      · exact ⟨vp, vo, h1, h2, h3, h4⟩
      · rcases h1 with h1 | ⟨_, h1⟩
        · have := Hlen.out; omega
        · exact absurd rfl h1
    refine ⟨_, rfl, ?_⟩
    clear h7
    obtain ⟨ia, ic, rfl⟩ := hp7.sl
    obtain ⟨ja, jc, rfl⟩ := ho7.sl
    have HP7 := Keep.mk hp7
    have HQ7 := Keep.mk ho7
    have B7 : Keep (Below w1.heap.size w1 w7) := ⟨B6.out.trans (hb7.mono B6.out.size)⟩
    have HB7 := Keep.mk (HB6.out.below hb7)
    have HM7 := Keep.mk (HM6.out.below hb7 HM6.out.lt)
    have HR7 := Keep.mk (HP6.out.below hb7)
    have HS7 := Keep.mk (HQ6.out.below hb7)
    obtain ⟨EN, hEN⟩ : ∃ EN, EN = enA hc (ndA N.au N.ck (.slice ia N.ps.length ic) (.slice ja N.ops.length jc)) := ⟨_, rfl⟩
    have HEs : Keep (EN.size = 36) := ⟨by rw [hEN]; exact enA_size _ _ _ _ _⟩
    have HEo : Keep (EN.all (·.oneCell') = true) := ⟨by rw [hEN]; exact enA_one _ _ _ _ _ _ _ _ _⟩
    have HEr : Keep (∀ (wx : World) (gx : Nat), Blk wx gx 42 EN → wx.rangeAt gx 0 (bytesA 32 hc).toList ∧ wx.rangeAt gx 32 (ndA N.au N.ck (.slice ia N.ps.length ic) (.slice ja N.ops.length jc)).toList) := ⟨fun wx gx h => by rw [hEN] at h; exact en_range h⟩
    rw [← hEN]
    clear hp7 ho7 hb7 hEN
    simp only [Act.put, List.setIfInBounds_toArray, List.set_cons_zero, List.set_cons_succ]
    refine WL.val (by kernel_rfl) (.tuple #[.agg EN, .nilIface]) (by go_simp) ?_
    simp only [Act.put, List.setIfInBounds_toArray, List.set_cons_zero, List.set_cons_succ]
    refine WL.val (by kernel_rfl) (.agg EN) (by go_simp) ?_
    simp only [Act.put, List.setIfInBounds_toArray, List.set_cons_zero, List.set_cons_succ]
    refine WL.val (by kernel_rfl) (.nilIface) (by go_simp) ?_
    simp only [Act.put, List.setIfInBounds_toArray, List.set_cons_zero, List.set_cons_succ]
    refine WL.new (by kernel_rfl) 42 rfl _ Try.new42 ?_
    simp only [Act.put, List.setIfInBounds_toArray, List.set_cons_zero, List.set_cons_succ]
    refine WL.storeR (by kernel_rfl) 42 (.tmp 8) (.tmp 55) rfl w7.heap.size EN rfl rfl 42 zEn (Blk.new w7 42 _) (by rw [HEs.out]; exact Try.size42) (zEn_size.trans HEs.out.symm) HEo.out ?_
    have HE8 := Keep.mk ((Blk.new w7 42 zEn).setRow EN)
    have BS8 : Keep (Below w7.heap.size w7 ((w7.alloc (.cells zEn 42)).setRow w7.heap.size EN)) := ⟨below_setRow (below_new w7 _) (Nat.le_refl _) _⟩
    generalize (w7.alloc (.cells zEn 42)).setRow w7.heap.size EN = w8 at *
    have B8 : Keep (Below w1.heap.size w1 w8) := ⟨B7.out.trans (BS8.out.mono B7.out.size)⟩
    have HB8 := Keep.mk (HB7.out.below BS8.out)
    have HM8 := Keep.mk (HM7.out.below BS8.out HM7.out.lt)
    have HMN : Keep (NdAt w8 N (.slice ea N.ps.length ec) (.slice fa N.ops.length fc)) := ⟨ndAt_own (HR7.out.below BS8.out) (HS7.out.below BS8.out) HN.out.ok ⟨HN.out.a1, HN.out.a2⟩ ⟨HN.out.c1, HN.out.c2⟩ HN.out.lp HN.out.lo⟩
    have HEN : Keep (NdAt w8 N (.slice ia N.ps.length ic) (.slice ja N.ops.length jc)) := ⟨ndAt_own (HP7.out.below BS8.out) (HQ7.out.below BS8.out) HN.out.ok ⟨HN.out.a1, HN.out.a2⟩ ⟨HN.out.c1, HN.out.c2⟩ HN.out.lp HN.out.lo⟩
    have HX8 := Keep.mk (HX1.out.below B8.out HX1.out.lt)
    have HN8 := Keep.mk (HN1.out.below B8.out)
    generalize w7.heap.size = ge at *
    simp only [Act.put]
    refine WL.val (by kernel_rfl) (.nilIface) (by go_simp) ?_
    simp only [Act.put, List.setIfInBounds_toArray, List.set_cons_zero, List.set_cons_succ]
    refine WL.nil ?_
    refine hK17 _ _ ?_
    refine wp_seq_k fun K18 hK18 => ?_
    have hD0 : Below w8.heap.size w8 w8.drew := (Below.refl _ _).drew
    have HS0 : Keep (∀ wx, Below w8.heap.size w8 wx → wx.rangeAt g 0 (ndA N.au N.ck (.slice pa N.ps.length pc) vo).toList ∧ wx.rangeAt gm 0 (ndA N.au N.ck (.slice ea N.ps.length ec) (.slice fa N.ops.length fc)).toList ∧ wx.rangeAt ge 0 (bytesA 32 hc).toList ∧ wx.rangeAt ge 32 (ndA N.au N.ck (.slice ia N.ps.length ic) (.slice ja N.ops.length jc)).toList) := ⟨fun wx hb => ⟨blk_range (HX8.out.below hb HX8.out.lt), blk_range (HM8.out.below hb HM8.out.lt), HEr.out wx ge (HE8.out.below hb HE8.out.lt)⟩⟩
    have hlei : ((blkL N).length : Int) ≤ 1048576 := by have := Hlen.out; omega
    refine wp_region_held_drew (S := fun wx => wx.rangeAt g 0 (ndA N.au N.ck (.slice pa N.ps.length pc) vo).toList ∧ wx.rangeAt gm 0 (ndA N.au N.ck (.slice ea N.ps.length ec) (.slice fa N.ops.length fc)).toList ∧ wx.rangeAt ge 0 (bytesA 32 hc).toList ∧ wx.rangeAt ge 32 (ndA N.au N.ck (.slice ia N.ps.length ic) (.slice ja N.ops.length jc)).toList) (by kernel_rfl) (HS0.out _ hD0) (fun hHeld => ?_)
    refine wpAnyH_take (i := 0) (oi := ⟨some 57, Op.move (Operand.tmp 5), 29, _, _, none⟩) (v := .int .i64 0) rfl (by kernel_rfl) (by kernel_rfl) (by kernel_rfl) (fun _ _ _ h => h) (Or.inl ⟨by rfl, fun w hS => by clear hS; go_simp⟩) hHeld ?_
    simp only [Act.put, List.setIfInBounds_toArray, List.set_cons_zero, List.set_cons_succ]
    refine wpAnyH_take (i := 1) (oi := ⟨some 58, Op.binOp BinOp.eql 29 (Operand.tmp 57) (Operand.const (Value.int IntKind.i64 0)) 29, 4, _, _, none⟩) (v := .bool true) rfl (by kernel_rfl) (by kernel_rfl) (by kernel_rfl) (fun _ _ _ h => h) (Or.inl ⟨by rfl, fun w hS => by clear hS; go_simp⟩) hHeld ?_
    simp only [Act.put, List.setIfInBounds_toArray, List.set_cons_zero, List.set_cons_succ]
    refine wpAnyH_take (i := 2) (oi := ⟨some 59, Op.move (Operand.tmp 58), 4, _, _, none⟩) (v := .bool true) rfl (by kernel_rfl) (by kernel_rfl) (by kernel_rfl) (fun _ _ _ h => h) (Or.inl ⟨by rfl, fun w hS => by clear hS; go_simp⟩) hHeld ?_
    simp only [Act.put, List.setIfInBounds_toArray, List.set_cons_zero, List.set_cons_succ]
    refine wpAnyH_take (i := 3) (oi := ⟨some 60, Op.move (Operand.tmp 7), 36, _, _, some (2, true)⟩) (v := .nilIface) rfl (by kernel_rfl) (by kernel_rfl) (by kernel_rfl) (fun _ _ _ h => h) (Or.inl ⟨by rfl, fun w hS => by clear hS; go_simp⟩) hHeld ?_
    simp only [Act.put, List.setIfInBounds_toArray, List.set_cons_zero, List.set_cons_succ]
    refine wpAnyH_take (i := 4) (oi := ⟨some 61, Op.binOp BinOp.eql 36 (Operand.tmp 60) (Operand.const Value.nilIface) 36, 4, _, _, some (2, true)⟩) (v := .bool true) rfl (by kernel_rfl) (by kernel_rfl) (by kernel_rfl) (fun _ _ _ h => h) (Or.inl ⟨by rfl, fun w hS => by clear hS; go_simp⟩) hHeld ?_
    simp only [Act.put, List.setIfInBounds_toArray, List.set_cons_zero, List.set_cons_succ]
    refine wpAnyH_take (i := 5) (oi := ⟨some 62, Op.pick (Operand.tmp 59) (Operand.tmp 61) (Operand.const (Value.bool false)), 4, _, _, none⟩) (v := .bool true) rfl (by kernel_rfl) (by kernel_rfl) (by kernel_rfl) (fun _ _ _ h => h) (Or.inl ⟨by rfl, fun w hS => by clear hS; go_simp⟩) hHeld ?_
    simp only [Act.put, List.setIfInBounds_toArray, List.set_cons_zero, List.set_cons_succ]
    refine wpAnyH_take (i := 6) (oi := ⟨some 63, Op.move (Operand.tmp 62), 4, _, _, none⟩) (v := .bool true) rfl (by kernel_rfl) (by kernel_rfl) (by kernel_rfl) (fun _ _ _ h => h) (Or.inl ⟨by rfl, fun w hS => by clear hS; go_simp⟩) hHeld ?_
    simp only [Act.put, List.setIfInBounds_toArray, List.set_cons_zero, List.set_cons_succ]
    refine wpAnyH_take (i := 7) (oi := ⟨some 64, Op.move (Operand.tmp 9), 36, _, _, some (6, true)⟩) (v := .nilIface) rfl (by kernel_rfl) (by kernel_rfl) (by kernel_rfl) (fun _ _ _ h => h) (Or.inl ⟨by rfl, fun w hS => by clear hS; go_simp⟩) hHeld ?_
    simp only [Act.put, List.setIfInBounds_toArray, List.set_cons_zero, List.set_cons_succ]
    refine wpAnyH_take (i := 8) (oi := ⟨some 65, Op.binOp BinOp.eql 36 (Operand.tmp 64) (Operand.const Value.nilIface) 36, 4, _, _, some (6, true)⟩) (v := .bool true) rfl (by kernel_rfl) (by kernel_rfl) (by kernel_rfl) (fun _ _ _ h => h) (Or.inl ⟨by rfl, fun w hS => by clear hS; go_simp⟩) hHeld ?_
    simp only [Act.put, List.setIfInBounds_toArray, List.set_cons_zero, List.set_cons_succ]
    refine wpAnyH_take (i := 9) (oi := ⟨some 66, Op.pick (Operand.tmp 63) (Operand.tmp 65) (Operand.const (Value.bool false)), 4, _, _, none⟩) (v := .bool true) rfl (by kernel_rfl) (by kernel_rfl) (by kernel_rfl) (fun _ _ _ h => h) (Or.inl ⟨by rfl, fun w hS => by clear hS; go_simp⟩) hHeld ?_
    simp only [Act.put, List.setIfInBounds_toArray, List.set_cons_zero, List.set_cons_succ]
    refine wpAnyH_take (i := 10) (oi := ⟨some 67, Op.move (Operand.tmp 66), 4, _, _, none⟩) (v := .bool true) rfl (by kernel_rfl) (by kernel_rfl) (by kernel_rfl) (fun _ _ _ h => h) (Or.inl ⟨by rfl, fun w hS => by clear hS; go_simp⟩) hHeld ?_
    simp only [Act.put, List.setIfInBounds_toArray, List.set_cons_zero, List.set_cons_succ]
    refine wpAnyH_take (i := 11) (oi := ⟨some 68, Op.load 27 (Operand.tmp 6), 27, _, _, some (10, true)⟩) (v := .agg (ndA N.au N.ck (.slice ea N.ps.length ec) (.slice fa N.ops.length fc))) rfl (by kernel_rfl) (by kernel_rfl) (by kernel_rfl) (fun _ _ _ h => h) (yieldsIf_loadA (by rfl) 27 (Operand.tmp 6) rfl gm 0 rfl (ndA N.au N.ck (.slice ea N.ps.length ec) (.slice fa N.ops.length fc)) _ (fun w hS => hS.2.1) Try.underlying27 rfl (Try.size27B _ _ _ _)) hHeld ?_
    simp only [Act.put, List.setIfInBounds_toArray, List.set_cons_zero, List.set_cons_succ]
    refine wpAnyH_take (i := 12) (oi := ⟨some 69, Op.load 27 (Operand.tmp 1), 27, _, _, some (10, true)⟩) (v := .agg (ndA N.au N.ck (.slice pa N.ps.length pc) vo)) rfl (by kernel_rfl) (by kernel_rfl) (by kernel_rfl) (fun _ _ _ h => h) (yieldsIf_loadA (by rfl) 27 (Operand.tmp 1) rfl g 0 rfl (ndA N.au N.ck (.slice pa N.ps.length pc) vo) _ (fun w hS => hS.1) Try.underlying27 rfl (Try.size27B _ _ _ _)) hHeld ?_
    simp only [Act.put, List.setIfInBounds_toArray, List.set_cons_zero, List.set_cons_succ]
    refine wpAnyH_ready (rs := [13]) (by kernel_rfl) (by simp) ?_
    refine AllReadyH.cons (o := ⟨some 70, Op.call { callee := Callee.value (Operand.func 18), args := #[Operand.tmp 68, Operand.tmp 69], argTypes := #[27, 27] }, 4, _, _, some (10, true)⟩) rfl (fun K hK => ?_) AllReadyH.nil
    rw [if_pos (by rfl)]
    refine wp_callF 18 _ _ rfl Try.in18 #[.agg (ndA N.au N.ck (.slice ea N.ps.length ec) (.slice fa N.ops.length fc)), .agg (ndA N.au N.ck (.slice pa N.ps.length pc) vo)] (by simp [Act.eval]) (fun vz wz => vz = .bool true ∧ Below w8.heap.size w8 wz) ?_ ?_
    · refine (rsame_node N N _ _ _ vo w8.drew (HMN.out.below hD0) (HN8.out.below hD0)).mono ?_
      rintro e wz ⟨rfl, h⟩
      rw [sameN_refl]
      exact ⟨_, rfl, rfl, hD0.trans (h.mono hD0.size)⟩
    rintro vz x1 ⟨rfl, hx1⟩
    have HBx1 := Keep.mk hx1
    clear hx1
    refine hK.out _ _ (HS0.out _ HBx1.out) fun hHeldx1 => ?_
    clear hK
    simp only [Act.put, List.setIfInBounds_toArray, List.set_cons_zero, List.set_cons_succ]
    refine wpAnyH_take (i := 14) (oi := ⟨some 71, Op.pick (Operand.tmp 67) (Operand.tmp 70) (Operand.const (Value.bool false)), 4, _, _, none⟩) (v := .bool true) rfl (by kernel_rfl) (by kernel_rfl) (by kernel_rfl) (fun _ _ _ h => h) (Or.inl ⟨by rfl, fun w hS => by clear hS; go_simp⟩) hHeldx1 ?_
    simp only [Act.put, List.setIfInBounds_toArray, List.set_cons_zero, List.set_cons_succ]
    refine wpAnyH_take (i := 15) (oi := ⟨some 72, Op.move (Operand.tmp 71), 4, _, _, none⟩) (v := .bool true) rfl (by kernel_rfl) (by kernel_rfl) (by kernel_rfl) (fun _ _ _ h => h) (Or.inl ⟨by rfl, fun w hS => by clear hS; go_simp⟩) hHeldx1 ?_
    simp only [Act.put, List.setIfInBounds_toArray, List.set_cons_zero, List.set_cons_succ]
    refine wpAnyH_take (i := 16) (oi := ⟨some 73, Op.fieldAddr 42 (Operand.tmp 8) 1, 0, _, _, some (15, true)⟩) (v := .pointer (some ⟨ge, 32, none⟩)) rfl (by kernel_rfl) (by kernel_rfl) (by kernel_rfl) (fun _ _ _ h => h) (Or.inl ⟨by rfl, fun w hS => by clear hS; go_simp⟩) hHeldx1 ?_
    simp only [Act.put, List.setIfInBounds_toArray, List.set_cons_zero, List.set_cons_succ]
    refine wpAnyH_take (i := 17) (oi := ⟨some 74, Op.load 27 (Operand.tmp 73), 27, _, _, some (15, true)⟩) (v := .agg (ndA N.au N.ck (.slice ia N.ps.length ic) (.slice ja N.ops.length jc))) rfl (by kernel_rfl) (by kernel_rfl) (by kernel_rfl) (fun _ _ _ h => h) (yieldsIf_loadA (by rfl) 27 (Operand.tmp 73) rfl ge 32 rfl (ndA N.au N.ck (.slice ia N.ps.length ic) (.slice ja N.ops.length jc)) _ (fun w hS => hS.2.2.2) Try.underlying27 rfl (Try.size27B _ _ _ _)) hHeldx1 ?_
    simp only [Act.put, List.setIfInBounds_toArray, List.set_cons_zero, List.set_cons_succ]
    refine wpAnyH_take (i := 18) (oi := ⟨some 75, Op.load 27 (Operand.tmp 1), 27, _, _, some (15, true)⟩) (v := .agg (ndA N.au N.ck (.slice pa N.ps.length pc) vo)) rfl (by kernel_rfl) (by kernel_rfl) (by kernel_rfl) (fun _ _ _ h => h) (yieldsIf_loadA (by rfl) 27 (Operand.tmp 1) rfl g 0 rfl (ndA N.au N.ck (.slice pa N.ps.length pc) vo) _ (fun w hS => hS.1) Try.underlying27 rfl (Try.size27B _ _ _ _)) hHeldx1 ?_
    simp only [Act.put, List.setIfInBounds_toArray, List.set_cons_zero, List.set_cons_succ]
    refine wpAnyH_ready (rs := [19]) (by kernel_rfl) (by simp) ?_
    refine AllReadyH.cons (o := ⟨some 76, Op.call { callee := Callee.value (Operand.func 18), args := #[Operand.tmp 74, Operand.tmp 75], argTypes := #[27, 27] }, 4, _, _, some (15, true)⟩) rfl (fun K hK => ?_) AllReadyH.nil
    rw [if_pos (by rfl)]
    refine wp_callF 18 _ _ rfl Try.in18 #[.agg (ndA N.au N.ck (.slice ia N.ps.length ic) (.slice ja N.ops.length jc)), .agg (ndA N.au N.ck (.slice pa N.ps.length pc) vo)] (by simp [Act.eval]) (fun vz wz => vz = .bool true ∧ Below w8.heap.size w8 wz) ?_ ?_
    · refine (rsame_node N N _ _ _ vo x1 (HEN.out.below HBx1.out) (HN8.out.below HBx1.out)).mono ?_
      rintro e wz ⟨rfl, h⟩
      rw [sameN_refl]
      exact ⟨_, rfl, rfl, HBx1.out.trans (h.mono HBx1.out.size)⟩
    rintro vz x2 ⟨rfl, hx2⟩
    have HBx2 := Keep.mk hx2
    clear hx2
    refine hK.out _ _ (HS0.out _ HBx2.out) fun hHeldx2 => ?_
    clear hK
    simp only [Act.put, List.setIfInBounds_toArray, List.set_cons_zero, List.set_cons_succ]
    refine wpAnyH_take (i := 20) (oi := ⟨some 77, Op.pick (Operand.tmp 72) (Operand.tmp 76) (Operand.const (Value.bool false)), 4, _, _, none⟩) (v := .bool true) rfl (by kernel_rfl) (by kernel_rfl) (by kernel_rfl) (fun _ _ _ h => h) (Or.inl ⟨by rfl, fun w hS => by clear hS; go_simp⟩) hHeldx2 ?_
    simp only [Act.put, List.setIfInBounds_toArray, List.set_cons_zero, List.set_cons_succ]
    refine wpAnyH_take (i := 21) (oi := ⟨some 78, Op.move (Operand.tmp 77), 4, _, _, none⟩) (v := .bool true) rfl (by kernel_rfl) (by kernel_rfl) (by kernel_rfl) (fun _ _ _ h => h) (Or.inl ⟨by rfl, fun w hS => by clear hS; go_simp⟩) hHeldx2 ?_
    simp only [Act.put, List.setIfInBounds_toArray, List.set_cons_zero, List.set_cons_succ]
    refine wpAnyH_take (i := 22) (oi := ⟨some 79, Op.fieldAddr 42 (Operand.tmp 8) 0, 0, _, _, some (21, true)⟩) (v := .pointer (some ⟨ge, 0, none⟩)) rfl (by kernel_rfl) (by kernel_rfl) (by kernel_rfl) (fun _ _ _ h => h) (Or.inl ⟨by rfl, fun w hS => by clear hS; go_simp⟩) hHeldx2 ?_
    simp only [Act.put, List.setIfInBounds_toArray, List.set_cons_zero, List.set_cons_succ]
    refine wpAnyH_take (i := 23) (oi := ⟨some 80, Op.load 40 (Operand.tmp 79), 40, _, _, some (21, true)⟩) (v := .agg (bytesA 32 hc)) rfl (by kernel_rfl) (by kernel_rfl) (by kernel_rfl) (fun _ _ _ h => h) (yieldsIf_loadA (by rfl) 40 (Operand.tmp 79) rfl ge 0 rfl (bytesA 32 hc) _ (fun w hS => hS.2.2.1) Try.underlying40 rfl (Try.size40B _)) hHeldx2 ?_
    simp only [Act.put, List.setIfInBounds_toArray, List.set_cons_zero, List.set_cons_succ]
    refine wpAnyH_take (i := 24) (oi := ⟨some 81, Op.move (Operand.tmp 3), 28, _, _, some (21, true)⟩) (v := .slice (some ⟨gb, 0, none⟩) (blkL N).length (blkL N).length) rfl (by kernel_rfl) (by kernel_rfl) (by kernel_rfl) (fun _ _ _ h => h) (Or.inl ⟨by rfl, fun w hS => by clear hS; go_simp⟩) hHeldx2 ?_
    simp only [Act.put, List.setIfInBounds_toArray, List.set_cons_zero, List.set_cons_succ]
    refine wpAnyH_ready (rs := [25]) (by kernel_rfl) (by simp) ?_
    refine AllReadyH.cons (o := ⟨some 82, Op.call { callee := Callee.value (Operand.func 19), args := #[Operand.tmp 81], argTypes := #[28] }, 40, _, _, some (21, true)⟩) rfl (fun K hK => ?_) AllReadyH.nil
    rw [if_pos (by rfl)]
    refine wp_callF 19 _ _ rfl Try.in19 #[.slice (some ⟨gb, 0, none⟩) (blkL N).length (blkL N).length] (by simp [Act.eval]) (fun vz wz => vz = .agg (bytesA 32 hc) ∧ Below w8.heap.size w8 wz) ?_ ?_
    · refine (of_is _ (blkL N) x2 (HB8.out.below HBx2.out) (by have := Hlen.out; omega) hc Hhc.out).mono ?_
      rintro e wz ⟨rfl, h⟩
      exact ⟨_, rfl, rfl, HBx2.out.trans (h.mono HBx2.out.size)⟩
    rintro vz x3 ⟨rfl, hx3⟩
    have HBx3 := Keep.mk hx3
    clear hx3
    refine hK.out _ _ (HS0.out _ HBx3.out) fun hHeldx3 => ?_
    clear hK
    simp only [Act.put, List.setIfInBounds_toArray, List.set_cons_zero, List.set_cons_succ]
    refine wpAnyH_take (i := 26) (oi := ⟨some 83, Op.binOp BinOp.eql 40 (Operand.tmp 80) (Operand.tmp 82) 40, 4, _, _, some (21, true)⟩) (v := .bool true) rfl (by kernel_rfl) (by kernel_rfl) (by kernel_rfl) (fun _ _ _ h => h) (yieldsIf_run (by rfl) .eql 40 40 (Operand.tmp 80) (Operand.tmp 82) rfl _ _ _ rfl rfl (fun w => ⟨_, rfl⟩) (eqlA hc)) hHeldx3 ?_
    simp only [Act.put, List.setIfInBounds_toArray, List.set_cons_zero, List.set_cons_succ]
    refine wpAnyH_take (i := 27) (oi := ⟨some 84, Op.pick (Operand.tmp 78) (Operand.tmp 83) (Operand.const (Value.bool false)), 4, _, _, none⟩) (v := .bool true) rfl (by kernel_rfl) (by kernel_rfl) (by kernel_rfl) (fun _ _ _ h => h) (Or.inl ⟨by rfl, fun w hS => by clear hS; go_simp⟩) hHeldx3 ?_
    simp only [Act.put, List.setIfInBounds_toArray, List.set_cons_zero, List.set_cons_succ]
    refine wpAnyH_take (i := 28) (oi := ⟨some 85, Op.move (Operand.tmp 84), 4, _, _, none⟩) (v := .bool true) rfl (by kernel_rfl) (by kernel_rfl) (by kernel_rfl) (fun _ _ _ h => h) (Or.inl ⟨by rfl, fun w hS => by clear hS; go_simp⟩) hHeldx3 ?_
    simp only [Act.put, List.setIfInBounds_toArray, List.set_cons_zero, List.set_cons_succ]
    refine wpAnyH_take (i := 29) (oi := ⟨some 86, Op.load 27 (Operand.tmp 1), 27, _, _, some (28, true)⟩) (v := .agg (ndA N.au N.ck (.slice pa N.ps.length pc) vo)) rfl (by kernel_rfl) (by kernel_rfl) (by kernel_rfl) (fun _ _ _ h => h) (yieldsIf_loadA (by rfl) 27 (Operand.tmp 1) rfl g 0 rfl (ndA N.au N.ck (.slice pa N.ps.length pc) vo) _ (fun w hS => hS.1) Try.underlying27 rfl (Try.size27B _ _ _ _)) hHeldx3 ?_
    simp only [Act.put, List.setIfInBounds_toArray, List.set_cons_zero, List.set_cons_succ]
    refine wpAnyH_take (i := 31) (oi := ⟨some 88, Op.move (Operand.tmp 3), 28, _, _, some (28, true)⟩) (v := .slice (some ⟨gb, 0, none⟩) (blkL N).length (blkL N).length) rfl (by kernel_rfl) (by kernel_rfl) (by kernel_rfl) (fun _ _ _ h => h) (Or.inl ⟨by rfl, fun w hS => by clear hS; go_simp⟩) hHeldx3 ?_
    simp only [Act.put, List.setIfInBounds_toArray, List.set_cons_zero, List.set_cons_succ]
    refine wpAnyH_take (i := 32) (oi := ⟨some 89, Op.call { callee := Callee.builtin Builtin.len, args := #[Operand.tmp 88], argTypes := #[28] }, 3, _, _, some (28, true)⟩) (v := .int .i64 ((blkL N).length : Int)) rfl (by kernel_rfl) (by kernel_rfl) (by kernel_rfl) (fun _ _ _ h => h) (Or.inl ⟨by rfl, fun w hS => by clear hS; go_simp⟩) hHeldx3 ?_
    simp only [Act.put, List.setIfInBounds_toArray, List.set_cons_zero, List.set_cons_succ]
    refine wpAnyH_ready (rs := [30]) (by kernel_rfl) (by simp) ?_
    refine AllReadyH.cons (o := ⟨some 87, Op.call { callee := Callee.value (Operand.func 14), args := #[Operand.tmp 86], argTypes := #[27] }, 3, _, _, some (28, true)⟩) rfl (fun K hK => ?_) AllReadyH.nil
    rw [if_pos (by rfl)]
    refine wp_callF 14 _ _ rfl Try.in14 #[.agg (ndA N.au N.ck (.slice pa N.ps.length pc) vo)] (by simp [Act.eval]) (fun vz wz => vz = .int .i64 ((blkL N).length : Int) ∧ Below w8.heap.size w8 wz) ?_ ?_
    · refine (size_any N _ vo x3 (HN8.out.below HBx3.out)).mono ?_
      rintro e wz ⟨rfl, h⟩
      rw [Hsz.out]
      exact ⟨_, rfl, rfl, HBx3.out.trans (h.mono HBx3.out.size)⟩
    rintro vz x4 ⟨rfl, hx4⟩
    have HBx4 := Keep.mk hx4
    clear hx4
    refine hK.out _ _ (HS0.out _ HBx4.out) fun hHeldx4 => ?_
    clear hK
    simp only [Act.put, List.setIfInBounds_toArray, List.set_cons_zero, List.set_cons_succ]
    refine wpAnyH_take (i := 33) (oi := ⟨some 90, Op.binOp BinOp.eql 3 (Operand.tmp 87) (Operand.tmp 89) 3, 4, _, _, some (28, true)⟩) (v := .bool true) rfl (by kernel_rfl) (by kernel_rfl) (by kernel_rfl) (fun _ _ _ h => h) (Or.inl ⟨by rfl, fun w hS => by clear hS; go_simp⟩) hHeldx4 ?_
    simp only [Act.put, List.setIfInBounds_toArray, List.set_cons_zero, List.set_cons_succ]
    refine wpAnyH_take (i := 34) (oi := ⟨some 91, Op.pick (Operand.tmp 85) (Operand.tmp 90) (Operand.const (Value.bool false)), 4, _, _, none⟩) (v := .bool true) rfl (by kernel_rfl) (by kernel_rfl) (by kernel_rfl) (fun _ _ _ h => h) (Or.inl ⟨by rfl, fun w hS => by clear hS; go_simp⟩) hHeldx4 ?_
    simp only [Act.put, List.setIfInBounds_toArray, List.set_cons_zero, List.set_cons_succ]
    refine wpAnyH_take (i := 35) (oi := ⟨some 92, Op.move (Operand.tmp 91), 4, _, _, none⟩) (v := .bool true) rfl (by kernel_rfl) (by kernel_rfl) (by kernel_rfl) (fun _ _ _ h => h) (Or.inl ⟨by rfl, fun w hS => by clear hS; go_simp⟩) hHeldx4 ?_
    simp only [Act.put, List.setIfInBounds_toArray, List.set_cons_zero, List.set_cons_succ]
    refine wpAnyH_take (i := 36) (oi := ⟨some 93, Op.move (Operand.tmp 3), 28, _, _, some (35, true)⟩) (v := .slice (some ⟨gb, 0, none⟩) (blkL N).length (blkL N).length) rfl (by kernel_rfl) (by kernel_rfl) (by kernel_rfl) (fun _ _ _ h => h) (Or.inl ⟨by rfl, fun w hS => by clear hS; go_simp⟩) hHeldx4 ?_
    simp only [Act.put, List.setIfInBounds_toArray, List.set_cons_zero, List.set_cons_succ]
    refine wpAnyH_take (i := 37) (oi := ⟨some 94, Op.call { callee := Callee.builtin Builtin.len, args := #[Operand.tmp 93], argTypes := #[28] }, 3, _, _, some (35, true)⟩) (v := .int .i64 ((blkL N).length : Int)) rfl (by kernel_rfl) (by kernel_rfl) (by kernel_rfl) (fun _ _ _ h => h) (Or.inl ⟨by rfl, fun w hS => by clear hS; go_simp⟩) hHeldx4 ?_
    simp only [Act.put, List.setIfInBounds_toArray, List.set_cons_zero, List.set_cons_succ]
    refine wpAnyH_take (i := 38) (oi := ⟨some 95, Op.binOp BinOp.leq 3 (Operand.tmp 94) (Operand.const (Value.int IntKind.i64 1048576)) 3, 4, _, _, some (35, true)⟩) (v := .bool true) rfl (by kernel_rfl) (by kernel_rfl) (by kernel_rfl) (fun _ _ _ h => h) (Or.inl ⟨by rfl, fun w hS => by clear hS; go_simp⟩) hHeldx4 ?_
    simp only [Act.put, List.setIfInBounds_toArray, List.set_cons_zero, List.set_cons_succ]
    refine wpAnyH_take (i := 39) (oi := ⟨some 96, Op.pick (Operand.tmp 92) (Operand.tmp 95) (Operand.const (Value.bool false)), 4, _, _, none⟩) (v := .bool true) rfl (by kernel_rfl) (by kernel_rfl) (by kernel_rfl) (fun _ _ _ h => h) (Or.inl ⟨by rfl, fun w hS => by clear hS; go_simp⟩) hHeldx4 ?_
    simp only [Act.put, List.setIfInBounds_toArray, List.set_cons_zero, List.set_cons_succ]
    refine wpAnyH_take (i := 40) (oi := ⟨some 97, Op.move (Operand.tmp 96), 4, _, _, none⟩) (v := .bool true) rfl (by kernel_rfl) (by kernel_rfl) (by kernel_rfl) (fun _ _ _ h => h) (Or.inl ⟨by rfl, fun w hS => by clear hS; go_simp⟩) hHeldx4 ?_
    simp only [Act.put, List.setIfInBounds_toArray, List.set_cons_zero, List.set_cons_succ]
    refine wpAnyH_take (i := 41) (oi := ⟨some 98, Op.load 27 (Operand.tmp 6), 27, _, _, some (40, true)⟩) (v := .agg (ndA N.au N.ck (.slice ea N.ps.length ec) (.slice fa N.ops.length fc))) rfl (by kernel_rfl) (by kernel_rfl) (by kernel_rfl) (fun _ _ _ h => h) (yieldsIf_loadA (by rfl) 27 (Operand.tmp 6) rfl gm 0 rfl (ndA N.au N.ck (.slice ea N.ps.length ec) (.slice fa N.ops.length fc)) _ (fun w hS => hS.2.1) Try.underlying27 rfl (Try.size27B _ _ _ _)) hHeldx4 ?_
    simp only [Act.put, List.setIfInBounds_toArray, List.set_cons_zero, List.set_cons_succ]
    refine wpAnyH_take (i := 42) (oi := ⟨some 99, Op.load 27 (Operand.tmp 1), 27, _, _, some (40, true)⟩) (v := .agg (ndA N.au N.ck (.slice pa N.ps.length pc) vo)) rfl (by kernel_rfl) (by kernel_rfl) (by kernel_rfl) (fun _ _ _ h => h) (yieldsIf_loadA (by rfl) 27 (Operand.tmp 1) rfl g 0 rfl (ndA N.au N.ck (.slice pa N.ps.length pc) vo) _ (fun w hS => hS.1) Try.underlying27 rfl (Try.size27B _ _ _ _)) hHeldx4 ?_
    simp only [Act.put, List.setIfInBounds_toArray, List.set_cons_zero, List.set_cons_succ]
    refine wpAnyH_ready (rs := [43]) (by kernel_rfl) (by simp) ?_
    refine AllReadyH.cons (o := ⟨some 100, Op.call { callee := Callee.value (Operand.func 20), args := #[Operand.tmp 98, Operand.tmp 99], argTypes := #[27, 27] }, 4, _, _, some (40, true)⟩) rfl (fun K hK => ?_) AllReadyH.nil
    rw [if_pos (by rfl)]
    refine wp_callF 20 _ _ rfl Try.in20 #[.agg (ndA N.au N.ck (.slice ea N.ps.length ec) (.slice fa N.ops.length fc)), .agg (ndA N.au N.ck (.slice pa N.ps.length pc) vo)] (by simp [Act.eval]) (fun vz wz => vz = .bool true ∧ Below w8.heap.size w8 wz) ?_ ?_
    · refine (same_node N N _ _ _ vo x4 (HMN.out.below HBx4.out) (HN8.out.below HBx4.out)).mono ?_
      rintro e wz ⟨rfl, h⟩
      rw [sameN_refl]
      exact ⟨_, rfl, rfl, HBx4.out.trans (h.mono HBx4.out.size)⟩
    rintro vz x5 ⟨rfl, hx5⟩
    have HBx5 := Keep.mk hx5
    clear hx5
    refine hK.out _ _ (HS0.out _ HBx5.out) fun hHeldx5 => ?_
    clear hK
    simp only [Act.put, List.setIfInBounds_toArray, List.set_cons_zero, List.set_cons_succ]
    refine wpAnyH_take (i := 44) (oi := ⟨some 101, Op.pick (Operand.tmp 97) (Operand.tmp 100) (Operand.const (Value.bool false)), 4, _, _, none⟩) (v := .bool true) rfl (by kernel_rfl) (by kernel_rfl) (by kernel_rfl) (fun _ _ _ h => h) (Or.inl ⟨by rfl, fun w hS => by clear hS; go_simp⟩) hHeldx5 ?_
    simp only [Act.put, List.setIfInBounds_toArray, List.set_cons_zero, List.set_cons_succ]
    refine wpAnyH_take (i := 45) (oi := ⟨some 2, Op.assign (Operand.tmp 101), 4, _, _, none⟩) (v := .bool true) rfl (by kernel_rfl) (by kernel_rfl) (by kernel_rfl) (fun _ _ _ h => h) (Or.inl ⟨by rfl, fun w hS => by clear hS; go_simp⟩) hHeldx5 ?_
    simp only [Act.put, List.setIfInBounds_toArray, List.set_cons_zero, List.set_cons_succ]
    refine wpAnyH_done (by kernel_rfl) ?_ _
    refine hK18 _ _ ?_
    refine wp_ret ?_
    go_ret
    exact ⟨rfl, B1.out.trans ((B8.out.trans (HBx5.out.mono B8.out.size)).mono B1x.out)⟩
end Go.Proofs.Ytgpgnldcdimmbaa
