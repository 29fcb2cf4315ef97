import Derived.Test.YtgpgnldcdimmbaaV09
import Derived.Test.YtgpgnldcdimmbaaV05
import Derived.Deep.RegionHeld3
import Derived.Laws.CopyRow
import Derived.ProofKit
import Derived.OpenShut
import Derived.ShutString
import Derived.ChangeOld
import Derived.Below
import Derived.SizedLaws
import Derived.Deep.Slices
import Derived.Deep.Strs
namespace Go.Proofs.Ytgpgnldcdimmbaa
open Go.RowKit
set_option linter.unusedSimpArgs false
set_option linter.unusedVariables false

theorem Try.in39 (w : World) (vs : Array Value) : (callFunc 39 vs).run Try.prog w = .ok (.enter 39 vs) w := by kernel_rfl
theorem Try.in40 (w : World) (vs : Array Value) : (callFunc 40 vs).run Try.prog w = .ok (.enter 40 vs) w := by kernel_rfl
theorem Try.in20 (w : World) (vs : Array Value) : (callFunc 20 vs).run Try.prog w = .ok (.enter 20 vs) w := by kernel_rfl
set_option maxRecDepth 8000 in
set_option maxHeartbeats 2000000 in
theorem eqH_any (A B : List Hs) (va vb : Value) (w : World) (hA : Sh.HRow w va A) (hB : Sh.HRow w vb B) (hl : A.length ≤ 4398046511104) : Calls Try.prog 39 #[va, vb] w fun e w' => e = .returned (.bool (decide (A = B))) ∧ Below w.heap.size w w' := by
  obtain ⟨pa, pc, rfl⟩ := hA.form
  obtain ⟨pb, pd, rfl⟩ := hB.form
  have HA := Keep.mk hA
  have HB := Keep.mk hB
  have Hlp := Keep.mk hl
  clear hA hB hl
  go_enter Try.func39, Try.ntmps39
  refine wp_seq_k fun K1 hK1 => ?_
  refine wp_region_list (WL.out ?_)
  refine WL.val (by kernel_rfl) (.bool false) (by go_simp) ?_
  simp only [Act.put, List.setIfInBounds_toArray, List.set_cons_zero, List.set_cons_succ]
  refine WL.nil ?_
  refine hK1 _ _ ?_
  refine wp_seq_k fun K2 hK2 => ?_
  refine wp_seq_k fun K3 hK3 => ?_
  refine wp_region_list (WL.out ?_)
  refine WL.val (by kernel_rfl) (.slice pa A.length pc) (by go_simp) ?_
  simp only [Act.put, List.setIfInBounds_toArray, List.set_cons_zero, List.set_cons_succ]
  refine WL.val (by kernel_rfl) (.int .i64 (A.length : Int)) (by go_simp) ?_
  simp only [Act.put, List.setIfInBounds_toArray, List.set_cons_zero, List.set_cons_succ]
  refine WL.val (by kernel_rfl) (.slice pb B.length pd) (by go_simp) ?_
  simp only [Act.put, List.setIfInBounds_toArray, List.set_cons_zero, List.set_cons_succ]
  refine WL.val (by kernel_rfl) (.int .i64 (B.length : Int)) (by go_simp) ?_
  simp only [Act.put, List.setIfInBounds_toArray, List.set_cons_zero, List.set_cons_succ]
  by_cases h1_4 : A.length = B.length
  · have h1_4i : (A.length : Int) = (B.length : Int) := by omega
    refine WL.val (by kernel_rfl) (.bool false) (by go_simp) ?_
    simp only [Act.put, List.setIfInBounds_toArray, List.set_cons_zero, List.set_cons_succ]
    refine WL.nil ?_
    refine hK3 _ _ ?_
    refine wp_cond_false rfl ?_
    refine wp_skip ?_
    refine hK2 _ _ ?_
    refine wp_seq_k fun K4 hK4 => ?_
    refine wp_seq_k fun K5 hK5 => ?_
    refine wp_region_list (WL.out ?_)
    refine WL.val (by kernel_rfl) (.slice pa A.length pc) (by go_simp) ?_
    simp only [Act.put, List.setIfInBounds_toArray, List.set_cons_zero, List.set_cons_succ]
    refine WL.val (by kernel_rfl) (.int .i64 (A.length : Int)) (by go_simp) ?_
    simp only [Act.put, List.setIfInBounds_toArray, List.set_cons_zero, List.set_cons_succ]
    refine WL.val (by kernel_rfl) (.int .i64 0) (by go_simp) ?_
    simp only [Act.put, List.setIfInBounds_toArray, List.set_cons_zero, List.set_cons_succ]
    refine WL.nil ?_
    refine hK5 _ _ ?_
    refine wp_block ?_
    refine wp_loop (fun ac wr => ∃ (t : Nat) (u4 u5 u14 u15 u16 u17 u18 u19 u20 u21 u22 u23 u24 u25 : Value), ac = { tmps := #[.slice pa A.length pc, .slice pb B.length pd, undef, undef, u4, u5, .slice pa A.length pc, .int .i64 (A.length : Int), .slice pb B.length pd, .int .i64 (B.length : Int), .bool false, .slice pa A.length pc, .int .i64 (A.length : Int), .int .i64 (t : Int), u14, u15, u16, u17, u18, u19, u20, u21, u22, u23, u24, u25], defers := [] } ∧ t ≤ A.length ∧ (∀ i, i < t → A.getD i default = B.getD i default) ∧ Below w.heap.size w wr) (fun a _ => A.length - (intOf (a.tmps.getD 13 undef)).toNat) ⟨0, .bool false, undef, undef, undef, undef, undef, undef, undef, undef, undef, undef, undef, undef, undef, rfl, by omega, (fun i hi => by omega), Below.refl _ _⟩ ?_
    rintro ac wr ⟨t, u4, u5, u14, u15, u16, u17, u18, u19, u20, u21, u22, u23, u24, u25, rfl, ht, hE, hB⟩
    by_cases htl : t < A.length
    · have htl' : (t : Int) < (A.length : Int) := by omega
      have hwr1 : IntKind.i64.wrap ((t : Int) + 1) = (t : Int) + 1 := by rw [IntKind.wrap_i64]; have := Hlp.out; omega
      have htb : t < B.length := by omega
      obtain ⟨ga, fa, rfl, hea⟩ := HRow.elem (HA.out.below hB) htl
      obtain ⟨gb, fb, rfl, heb⟩ := HRow.elem (HB.out.below hB) htb
      obtain ⟨x, hx⟩ : ∃ x, x = A.getD t default := ⟨_, rfl⟩
      obtain ⟨y, hy⟩ : ∃ y, y = B.getD t default := ⟨_, rfl⟩
      rw [← hx] at hea
      rw [← hy] at heb
      have htb' : (t : Int) < (B.length : Int) := by omega
      have HS0 : Keep (∀ wx, Below wr.heap.size wr wx → wx.rangeAt ga (fa + t * 32) (Sh.encH x) ∧ wx.rangeAt gb (fb + t * 32) (Sh.encH y)) := ⟨fun wx hb => ⟨hea wx hb, heb wx hb⟩⟩
      have Jx := Keep.mk hx
      have Jy := Keep.mk hy
      have JB := Keep.mk hB
      have JE := Keep.mk hE
      clear hea heb hx hy hB hE
      refine wp_seq_k fun K6 hK6 => ?_
      refine wp_region_list (WL.out ?_)
      refine WL.val (by kernel_rfl) (.bool true) (by go_simp) ?_
      simp only [Act.put, List.setIfInBounds_toArray, List.set_cons_zero, List.set_cons_succ]
      refine WL.nil ?_
      refine hK6 _ _ ?_
      refine wp_seq_k fun K7 hK7 => ?_
      refine wp_cond_true rfl ?_
      refine wp_skip ?_
      refine hK7 _ _ ?_
      refine wp_seq_k fun K8 hK8 => ?_
      refine wp_block ?_
      refine wp_seq_k fun K9 hK9 => ?_
      refine wp_region_list (WL.out ?_)
      refine WL.val (by kernel_rfl) (.int .i64 (t : Int)) (by go_simp) ?_
      simp only [Act.put, List.setIfInBounds_toArray, List.set_cons_zero, List.set_cons_succ]
      refine WL.val (by kernel_rfl) (.int .i64 (t : Int)) (by go_simp) ?_
      simp only [Act.put, List.setIfInBounds_toArray, List.set_cons_zero, List.set_cons_succ]
      refine WL.nil ?_
      refine hK9 _ _ ?_
      refine wp_seq_k fun K10 hK10 => ?_
      have hD0 : Below wr.heap.size wr wr.drew := (Below.refl _ _).drew
      by_cases hxy : x = y
      · have hnq := neqH_run x y true (decide_eq_true hxy)
        have Hxy := Keep.mk hxy
        clear hxy
        refine wp_region_held_drew (S := fun wx => wx.rangeAt ga (fa + t * 32) (Sh.encH x) ∧ wx.rangeAt gb (fb + t * 32) (Sh.encH y)) (by kernel_rfl) (HS0.out _ hD0) (fun hHeld => ?_)
        refine wpAnyH_take (i := 0) (oi := ⟨some 16, Op.move (Operand.tmp 0), 24, _, _, none⟩) (v := .slice (some ⟨ga, fa, none⟩) A.length pc) rfl (by kernel_rfl) (by kernel_rfl) (by kernel_rfl) (fun _ _ _ h => h) (Or.inl ⟨by rfl, fun w hS => by obtain ⟨hs1, hs2⟩ := hS; go_simp⟩) hHeld ?_
        simp only [Act.put, List.setIfInBounds_toArray, List.set_cons_zero, List.set_cons_succ]
        refine wpAnyH_take (i := 1) (oi := ⟨some 17, Op.move (Operand.tmp 5), 3, _, _, none⟩) (v := .int .i64 (t : Int)) rfl (by kernel_rfl) (by kernel_rfl) (by kernel_rfl) (fun _ _ _ h => h) (Or.inl ⟨by rfl, fun w hS => by obtain ⟨hs1, hs2⟩ := hS; go_simp⟩) hHeld ?_
        simp only [Act.put, List.setIfInBounds_toArray, List.set_cons_zero, List.set_cons_succ]
        refine wpAnyH_take (i := 2) (oi := ⟨some 18, Op.indexAddr 24 (Operand.tmp 16) (Operand.tmp 17), 0, _, _, none⟩) (v := .pointer (some ⟨ga, fa + t * 32, none⟩)) rfl (by kernel_rfl) (by kernel_rfl) (by kernel_rfl) (fun _ _ _ h => h) (Or.inl ⟨by rfl, fun w hS => by obtain ⟨hs1, hs2⟩ := hS; go_simp⟩) hHeld ?_
        simp only [Act.put, List.setIfInBounds_toArray, List.set_cons_zero, List.set_cons_succ]
        refine wpAnyH_take (i := 3) (oi := ⟨some 19, Op.load 40 (Operand.tmp 18), 40, _, _, none⟩) (v := .agg (Sh.encH x).toArray) rfl (by kernel_rfl) (by kernel_rfl) (by kernel_rfl) (fun _ _ _ h => h) (yieldsIf_load_mid (by rfl) 40 (Operand.tmp 18) rfl ga (fa + t * 32) rfl (Sh.encH x) _ (fun w hS => hS.1) Try.underlying40 rfl (Try.sizeHL x)) hHeld ?_
        simp only [Act.put, List.setIfInBounds_toArray, List.set_cons_zero, List.set_cons_succ]
        refine wpAnyH_take (i := 4) (oi := ⟨some 20, Op.move (Operand.tmp 1), 24, _, _, none⟩) (v := .slice (some ⟨gb, fb, none⟩) B.length pd) rfl (by kernel_rfl) (by kernel_rfl) (by kernel_rfl) (fun _ _ _ h => h) (Or.inl ⟨by rfl, fun w hS => by obtain ⟨hs1, hs2⟩ := hS; go_simp⟩) hHeld ?_
        simp only [Act.put, List.setIfInBounds_toArray, List.set_cons_zero, List.set_cons_succ]
        refine wpAnyH_take (i := 5) (oi := ⟨some 21, Op.move (Operand.tmp 5), 3, _, _, none⟩) (v := .int .i64 (t : Int)) rfl (by kernel_rfl) (by kernel_rfl) (by kernel_rfl) (fun _ _ _ h => h) (Or.inl ⟨by rfl, fun w hS => by obtain ⟨hs1, hs2⟩ := hS; go_simp⟩) hHeld ?_
        simp only [Act.put, List.setIfInBounds_toArray, List.set_cons_zero, List.set_cons_succ]
        refine wpAnyH_take (i := 6) (oi := ⟨some 22, Op.indexAddr 24 (Operand.tmp 20) (Operand.tmp 21), 0, _, _, none⟩) (v := .pointer (some ⟨gb, fb + t * 32, none⟩)) rfl (by kernel_rfl) (by kernel_rfl) (by kernel_rfl) (fun _ _ _ h => h) (Or.inl ⟨by rfl, fun w hS => by obtain ⟨hs1, hs2⟩ := hS; go_simp⟩) hHeld ?_
        simp only [Act.put, List.setIfInBounds_toArray, List.set_cons_zero, List.set_cons_succ]
        refine wpAnyH_take (i := 7) (oi := ⟨some 23, Op.load 40 (Operand.tmp 22), 40, _, _, none⟩) (v := .agg (Sh.encH y).toArray) rfl (by kernel_rfl) (by kernel_rfl) (by kernel_rfl) (fun _ _ _ h => h) (yieldsIf_load_mid (by rfl) 40 (Operand.tmp 22) rfl gb (fb + t * 32) rfl (Sh.encH y) _ (fun w hS => hS.2) Try.underlying40 rfl (Try.sizeHL y)) hHeld ?_
        simp only [Act.put, List.setIfInBounds_toArray, List.set_cons_zero, List.set_cons_succ]
        refine wpAnyH_take (i := 8) (oi := ⟨some 24, Op.binOp BinOp.neq 40 (Operand.tmp 19) (Operand.tmp 23) 40, 4, _, _, none⟩) (v := .bool false) rfl (by kernel_rfl) (by kernel_rfl) (by kernel_rfl) (fun _ _ _ h => h) (Or.inl ⟨by rfl, fun w hS => by have hnq' := hnq w; go_simp⟩) hHeld ?_
        simp only [Act.put, List.setIfInBounds_toArray, List.set_cons_zero, List.set_cons_succ]
        refine wpAnyH_done (by kernel_rfl) ?_ _
        refine hK10 _ _ ?_
        refine wp_cond_false rfl ?_
        refine wp_skip ?_
        refine hK8 _ _ ?_
        refine wp_region_list (WL.out ?_)
        refine WL.val (by kernel_rfl) (.int .i64 ((t : Int) + 1)) (by go_simp) ?_
        simp only [Act.put, List.setIfInBounds_toArray, List.set_cons_zero, List.set_cons_succ]
        refine WL.val (by kernel_rfl) (.int .i64 ((t : Int) + 1)) (by go_simp) ?_
        simp only [Act.put, List.setIfInBounds_toArray, List.set_cons_zero, List.set_cons_succ]
        refine WL.nil ?_
        refine ⟨⟨t + 1, u4, .int .i64 (t : Int), .bool true, .int .i64 (t : Int), .slice (some ⟨ga, fa, none⟩) A.length pc, .int .i64 (t : Int), .pointer (some ⟨ga, fa + t * 32, none⟩), .agg (Sh.encH x).toArray, .slice (some ⟨gb, fb, none⟩) B.length pd, .int .i64 (t : Int), .pointer (some ⟨gb, fb + t * 32, none⟩), .agg (Sh.encH y).toArray, .bool false, .int .i64 ((t : Int) + 1), rfl, by omega, fun i hi => ?_, JB.out.trans (hD0.mono JB.out.size)⟩, ?_⟩
        · by_cases hit : i < t
          · exact JE.out i hit
          · rw [show i = t by omega, ← Jx.out, ← Jy.out]; exact Hxy.out
        · simp only [intOf]; show A.length - ((t : Int) + 1).toNat < A.length - ((t : Int)).toNat; omega
      · have hnq := neqH_run x y false (decide_eq_false hxy)
        have Hxy := Keep.mk hxy
        clear hxy
        refine wp_region_held_drew (S := fun wx => wx.rangeAt ga (fa + t * 32) (Sh.encH x) ∧ wx.rangeAt gb (fb + t * 32) (Sh.encH y)) (by kernel_rfl) (HS0.out _ hD0) (fun hHeld => ?_)
        refine wpAnyH_take (i := 0) (oi := ⟨some 16, Op.move (Operand.tmp 0), 24, _, _, none⟩) (v := .slice (some ⟨ga, fa, none⟩) A.length pc) rfl (by kernel_rfl) (by kernel_rfl) (by kernel_rfl) (fun _ _ _ h => h) (Or.inl ⟨by rfl, fun w hS => by obtain ⟨hs1, hs2⟩ := hS; go_simp⟩) hHeld ?_
        simp only [Act.put, List.setIfInBounds_toArray, List.set_cons_zero, List.set_cons_succ]
        refine wpAnyH_take (i := 1) (oi := ⟨some 17, Op.move (Operand.tmp 5), 3, _, _, none⟩) (v := .int .i64 (t : Int)) rfl (by kernel_rfl) (by kernel_rfl) (by kernel_rfl) (fun _ _ _ h => h) (Or.inl ⟨by rfl, fun w hS => by obtain ⟨hs1, hs2⟩ := hS; go_simp⟩) hHeld ?_
        simp only [Act.put, List.setIfInBounds_toArray, List.set_cons_zero, List.set_cons_succ]
        refine wpAnyH_take (i := 2) (oi := ⟨some 18, Op.indexAddr 24 (Operand.tmp 16) (Operand.tmp 17), 0, _, _, none⟩) (v := .pointer (some ⟨ga, fa + t * 32, none⟩)) rfl (by kernel_rfl) (by kernel_rfl) (by kernel_rfl) (fun _ _ _ h => h) (Or.inl ⟨by rfl, fun w hS => by obtain ⟨hs1, hs2⟩ := hS; go_simp⟩) hHeld ?_
        simp only [Act.put, List.setIfInBounds_toArray, List.set_cons_zero, List.set_cons_succ]
        refine wpAnyH_take (i := 3) (oi := ⟨some 19, Op.load 40 (Operand.tmp 18), 40, _, _, none⟩) (v := .agg (Sh.encH x).toArray) rfl (by kernel_rfl) (by kernel_rfl) (by kernel_rfl) (fun _ _ _ h => h) (yieldsIf_load_mid (by rfl) 40 (Operand.tmp 18) rfl ga (fa + t * 32) rfl (Sh.encH x) _ (fun w hS => hS.1) Try.underlying40 rfl (Try.sizeHL x)) hHeld ?_
        simp only [Act.put, List.setIfInBounds_toArray, List.set_cons_zero, List.set_cons_succ]
        refine wpAnyH_take (i := 4) (oi := ⟨some 20, Op.move (Operand.tmp 1), 24, _, _, none⟩) (v := .slice (some ⟨gb, fb, none⟩) B.length pd) rfl (by kernel_rfl) (by kernel_rfl) (by kernel_rfl) (fun _ _ _ h => h) (Or.inl ⟨by rfl, fun w hS => by obtain ⟨hs1, hs2⟩ := hS; go_simp⟩) hHeld ?_
        simp only [Act.put, List.setIfInBounds_toArray, List.set_cons_zero, List.set_cons_succ]
        refine wpAnyH_take (i := 5) (oi := ⟨some 21, Op.move (Operand.tmp 5), 3, _, _, none⟩) (v := .int .i64 (t : Int)) rfl (by kernel_rfl) (by kernel_rfl) (by kernel_rfl) (fun _ _ _ h => h) (Or.inl ⟨by rfl, fun w hS => by obtain ⟨hs1, hs2⟩ := hS; go_simp⟩) hHeld ?_
        simp only [Act.put, List.setIfInBounds_toArray, List.set_cons_zero, List.set_cons_succ]
        refine wpAnyH_take (i := 6) (oi := ⟨some 22, Op.indexAddr 24 (Operand.tmp 20) (Operand.tmp 21), 0, _, _, none⟩) (v := .pointer (some ⟨gb, fb + t * 32, none⟩)) rfl (by kernel_rfl) (by kernel_rfl) (by kernel_rfl) (fun _ _ _ h => h) (Or.inl ⟨by rfl, fun w hS => by obtain ⟨hs1, hs2⟩ := hS; go_simp⟩) hHeld ?_
        simp only [Act.put, List.setIfInBounds_toArray, List.set_cons_zero, List.set_cons_succ]
        refine wpAnyH_take (i := 7) (oi := ⟨some 23, Op.load 40 (Operand.tmp 22), 40, _, _, none⟩) (v := .agg (Sh.encH y).toArray) rfl (by kernel_rfl) (by kernel_rfl) (by kernel_rfl) (fun _ _ _ h => h) (yieldsIf_load_mid (by rfl) 40 (Operand.tmp 22) rfl gb (fb + t * 32) rfl (Sh.encH y) _ (fun w hS => hS.2) Try.underlying40 rfl (Try.sizeHL y)) hHeld ?_
        simp only [Act.put, List.setIfInBounds_toArray, List.set_cons_zero, List.set_cons_succ]
        refine wpAnyH_take (i := 8) (oi := ⟨some 24, Op.binOp BinOp.neq 40 (Operand.tmp 19) (Operand.tmp 23) 40, 4, _, _, none⟩) (v := .bool true) rfl (by kernel_rfl) (by kernel_rfl) (by kernel_rfl) (fun _ _ _ h => h) (Or.inl ⟨by rfl, fun w hS => by have hnq' := hnq w; go_simp⟩) hHeld ?_
        simp only [Act.put, List.setIfInBounds_toArray, List.set_cons_zero, List.set_cons_succ]
        refine wpAnyH_done (by kernel_rfl) ?_ _
        refine hK10 _ _ ?_
        refine wp_cond_true rfl ?_
        refine wp_seq_k fun K11 hK11 => ?_
        refine wp_region_list (WL.out ?_)
        refine WL.val (by kernel_rfl) (.bool false) (by go_simp) ?_
        simp only [Act.put, List.setIfInBounds_toArray, List.set_cons_zero, List.set_cons_succ]
        refine WL.nil ?_
        refine hK11 _ _ ?_
        refine wp_ret ?_
        go_ret
        have hno : decide (A = B) = false := decide_eq_false (fun e => Hxy.out (by rw [Jx.out, Jy.out, e]))
        exact ⟨by rw [hno]; rfl, JB.out.trans ((Below.refl _ _).drew.mono JB.out.size)⟩
    · have htl' : ¬ (t : Int) < (A.length : Int) := by omega
      have hle2 : B.length ≤ t := by omega
      refine wp_seq_k fun K12 hK12 => ?_
      refine wp_region_list (WL.out ?_)
      refine WL.val (by kernel_rfl) (.bool false) (by go_simp) ?_
      simp only [Act.put, List.setIfInBounds_toArray, List.set_cons_zero, List.set_cons_succ]
      refine WL.nil ?_
      refine hK12 _ _ ?_
      refine wp_seq_k fun K13 hK13 => ?_
      refine wp_cond_false rfl ?_
      refine wp_exit ?_
      refine hK4 _ _ ?_
      refine wp_seq_k fun K14 hK14 => ?_
      refine wp_region_list (WL.out ?_)
      refine WL.val (by kernel_rfl) (.bool true) (by go_simp) ?_
      simp only [Act.put, List.setIfInBounds_toArray, List.set_cons_zero, List.set_cons_succ]
      refine WL.nil ?_
      refine hK14 _ _ ?_
      refine wp_ret ?_
      go_ret
      have hyes : decide (A = B) = true := decide_eq_true (ps_eq h1_4 (fun i hi => hE i (by omega)))
      exact ⟨by rw [hyes]; rfl, hB⟩
  · have h1_4i : ¬ (A.length : Int) = (B.length : Int) := by omega
    refine WL.val (by kernel_rfl) (.bool true) (by go_simp) ?_
    simp only [Act.put, List.setIfInBounds_toArray, List.set_cons_zero, List.set_cons_succ]
    refine WL.nil ?_
    refine hK3 _ _ ?_
    refine wp_cond_true rfl ?_
    refine wp_seq_k fun K15 hK15 => ?_
    refine wp_region_list (WL.out ?_)
    refine WL.val (by kernel_rfl) (.bool false) (by go_simp) ?_
    simp only [Act.put, List.setIfInBounds_toArray, List.set_cons_zero, List.set_cons_succ]
    refine WL.nil ?_
    refine hK15 _ _ ?_
    refine wp_ret ?_
    go_ret
    exact ⟨by rw [decide_eq_false (fun e : A = B => h1_4 (by rw [e]))]; rfl, Below.refl _ _⟩
set_option maxRecDepth 8000 in
set_option maxHeartbeats 2000000 in
theorem eqO_any (A B : List OpV) (va vb : Value) (w : World) (hA : OpsAt w va A) (hB : OpsAt w vb B) (hl : A.length ≤ 4398046511104) : Calls Try.prog 40 #[va, vb, .func (.func 41) #[] #[]] w fun e w' => e = .returned (.bool (smL A B)) ∧ Below w.heap.size w w' := by
  obtain ⟨pa, pc, rfl⟩ := hA.form
  obtain ⟨pb, pd, rfl⟩ := hB.form
  have HA := Keep.mk hA
  have HB := Keep.mk hB
  have Hlp := Keep.mk hl
  clear hA hB hl
  go_enter Try.func40, Try.ntmps40
  refine wp_seq_k fun K1 hK1 => ?_
  refine wp_region_list (WL.out ?_)
  refine WL.val (by kernel_rfl) (.bool false) (by go_simp) ?_
  simp only [Act.put, List.setIfInBounds_toArray, List.set_cons_zero, List.set_cons_succ]
  refine WL.nil ?_
  refine hK1 _ _ ?_
  refine wp_seq_k fun K2 hK2 => ?_
  refine wp_seq_k fun K3 hK3 => ?_
  refine wp_region_list (WL.out ?_)
  refine WL.val (by kernel_rfl) (.slice pa A.length pc) (by go_simp) ?_
  simp only [Act.put, List.setIfInBounds_toArray, List.set_cons_zero, List.set_cons_succ]
  refine WL.val (by kernel_rfl) (.int .i64 (A.length : Int)) (by go_simp) ?_
  simp only [Act.put, List.setIfInBounds_toArray, List.set_cons_zero, List.set_cons_succ]
  refine WL.val (by kernel_rfl) (.slice pb B.length pd) (by go_simp) ?_
  simp only [Act.put, List.setIfInBounds_toArray, List.set_cons_zero, List.set_cons_succ]
  refine WL.val (by kernel_rfl) (.int .i64 (B.length : Int)) (by go_simp) ?_
  simp only [Act.put, List.setIfInBounds_toArray, List.set_cons_zero, List.set_cons_succ]
  by_cases h1_4 : A.length = B.length
  · have h1_4i : (A.length : Int) = (B.length : Int) := by omega
    refine WL.val (by kernel_rfl) (.bool false) (by go_simp) ?_
    simp only [Act.put, List.setIfInBounds_toArray, List.set_cons_zero, List.set_cons_succ]
    refine WL.nil ?_
    refine hK3 _ _ ?_
    refine wp_cond_false rfl ?_
    refine wp_skip ?_
    refine hK2 _ _ ?_
    refine wp_seq_k fun K4 hK4 => ?_
    refine wp_seq_k fun K5 hK5 => ?_
    refine wp_region_list (WL.out ?_)
    refine WL.val (by kernel_rfl) (.slice pa A.length pc) (by go_simp) ?_
    simp only [Act.put, List.setIfInBounds_toArray, List.set_cons_zero, List.set_cons_succ]
    refine WL.val (by kernel_rfl) (.int .i64 (A.length : Int)) (by go_simp) ?_
    simp only [Act.put, List.setIfInBounds_toArray, List.set_cons_zero, List.set_cons_succ]
    refine WL.val (by kernel_rfl) (.int .i64 0) (by go_simp) ?_
    simp only [Act.put, List.setIfInBounds_toArray, List.set_cons_zero, List.set_cons_succ]
    refine WL.nil ?_
    refine hK5 _ _ ?_
    refine wp_block ?_
    refine wp_loop (fun ac wr => ∃ (t : Nat) (u6 u7 u8 u9 u18 u19 u20 u21 u22 u23 u24 u25 u26 u27 u28 u29 u30 u31 : Value), ac = { tmps := #[.slice pa A.length pc, .slice pb B.length pd, .func (.func 41) #[] #[], undef, undef, undef, u6, u7, u8, u9, .slice pa A.length pc, .int .i64 (A.length : Int), .slice pb B.length pd, .int .i64 (B.length : Int), .bool false, .slice pa A.length pc, .int .i64 (A.length : Int), .int .i64 (t : Int), u18, u19, u20, u21, u22, u23, u24, u25, u26, u27, u28, u29, u30, u31], defers := [] } ∧ t ≤ A.length ∧ (∀ i, i < t → sm (A.getD i zeroOp) (B.getD i zeroOp) = true) ∧ Below w.heap.size w wr) (fun a _ => A.length - (intOf (a.tmps.getD 17 undef)).toNat) ⟨0, .bool false, undef, undef, undef, undef, undef, undef, undef, undef, undef, undef, undef, undef, undef, undef, undef, undef, undef, rfl, by omega, (fun i hi => by omega), Below.refl _ _⟩ ?_
    rintro ac wr ⟨t, u6, u7, u8, u9, u18, u19, u20, u21, u22, u23, u24, u25, u26, u27, u28, u29, u30, u31, rfl, ht, hE, hB⟩
    by_cases htl : t < A.length
    · have htl' : (t : Int) < (A.length : Int) := by omega
      have hwr1 : IntKind.i64.wrap ((t : Int) + 1) = (t : Int) + 1 := by rw [IntKind.wrap_i64]; have := Hlp.out; omega
      have htb : t < B.length := by omega
      have htb' : (t : Int) < (B.length : Int) := by omega
      obtain ⟨ga, fa, rfl, hea⟩ := (HA.out.below hB).at htl
      obtain ⟨gb, fb, rfl, heb⟩ := (HB.out.below hB).at htb
      obtain ⟨x, hx⟩ : ∃ x, x = A.getD t zeroOp := ⟨_, rfl⟩
      obtain ⟨y, hy⟩ : ∃ y, y = B.getD t zeroOp := ⟨_, rfl⟩
      rw [← hx] at hea
      rw [← hy] at heb
      have Jx := Keep.mk hx
      have Jy := Keep.mk hy
      have JB := Keep.mk hB
      have JE := Keep.mk hE
      have Jeb := Keep.mk heb
      clear heb hx hy hB hE
      refine wp_seq_k fun K6 hK6 => ?_
      refine wp_region_list (WL.out ?_)
      refine WL.val (by kernel_rfl) (.bool true) (by go_simp) ?_
      simp only [Act.put, List.setIfInBounds_toArray, List.set_cons_zero, List.set_cons_succ]
      refine WL.nil ?_
      refine hK6 _ _ ?_
      refine wp_seq_k fun K7 hK7 => ?_
      refine wp_cond_true rfl ?_
      refine wp_skip ?_
      refine hK7 _ _ ?_
      refine wp_seq_k fun K8 hK8 => ?_
      refine wp_block ?_
      refine wp_seq_k fun K9 hK9 => ?_
      refine wp_region_list (WL.out ?_)
      refine WL.val (by kernel_rfl) (.int .i64 (t : Int)) (by go_simp) ?_
      simp only [Act.put, List.setIfInBounds_toArray, List.set_cons_zero, List.set_cons_succ]
      refine WL.val (by kernel_rfl) (.pointer (some ⟨ga, fa + t * 37, none⟩)) (by go_simp) ?_
      simp only [Act.put, List.setIfInBounds_toArray, List.set_cons_zero, List.set_cons_succ]
      refine WL.mid (by kernel_rfl) 79 (.tmp 20) rfl ga (fa + t * 37) rfl (opL x) _ hea Try.underlying79 rfl (Try.size79L x) ?_
      rw [rng_load]
      simp only [Act.put, List.setIfInBounds_toArray, List.set_cons_zero, List.set_cons_succ]
      refine WL.new (by kernel_rfl) 79 rfl _ Try.new79 ?_
      simp only [Act.put, List.setIfInBounds_toArray, List.set_cons_zero, List.set_cons_succ]
      refine WL.val (by kernel_rfl) (.int .i64 (t : Int)) (by go_simp) ?_
      simp only [Act.put, List.setIfInBounds_toArray, List.set_cons_zero, List.set_cons_succ]
      refine WL.storeR (by kernel_rfl) 79 (.tmp 8) (.tmp 21) rfl wr.heap.size (opA x) rfl rfl 79 (opA zeroOp) (Blk.new wr 79 _) (Try.size79B x) (opA_sizes _ _) (opA_one x) ?_
      have HX := Keep.mk ((Blk.new wr 79 (opA zeroOp)).setRow (opA x))
      have BX : Keep (Below wr.heap.size wr ((wr.alloc (.cells (opA zeroOp) 79)).setRow wr.heap.size (opA x))) := ⟨below_setRow (below_new wr _) (Nat.le_refl _) _⟩
      generalize (wr.alloc (.cells (opA zeroOp) 79)).setRow wr.heap.size (opA x) = w5 at *
      have heb := range_grown Jeb.out (Grown.below (S := fun _ => False) BX.out) (fun h => h)
      clear hea
      simp only [Act.put]
      refine WL.nil ?_
      refine hK9 _ _ ?_
      refine wp_seq_k fun K10 hK10 => ?_
      refine wp_region_list (WL.out ?_)
      refine WL.val (by kernel_rfl) (.slice (some ⟨gb, fb, none⟩) B.length pd) (by go_simp) ?_
      simp only [Act.put, List.setIfInBounds_toArray, List.set_cons_zero, List.set_cons_succ]
      refine WL.val (by kernel_rfl) (.int .i64 (t : Int)) (by go_simp) ?_
      simp only [Act.put, List.setIfInBounds_toArray, List.set_cons_zero, List.set_cons_succ]
      refine WL.val (by kernel_rfl) (.pointer (some ⟨gb, fb + t * 37, none⟩)) (by go_simp) ?_
      simp only [Act.put, List.setIfInBounds_toArray, List.set_cons_zero, List.set_cons_succ]
      refine WL.mid (by kernel_rfl) 79 (.tmp 24) rfl gb (fb + t * 37) rfl (opL y) _ heb Try.underlying79 rfl (Try.size79L y) ?_
      rw [rng_load]
      simp only [Act.put, List.setIfInBounds_toArray, List.set_cons_zero, List.set_cons_succ]
      refine WL.new (by kernel_rfl) 79 rfl _ Try.new79 ?_
      simp only [Act.put, List.setIfInBounds_toArray, List.set_cons_zero, List.set_cons_succ]
      refine WL.storeR (by kernel_rfl) 79 (.tmp 9) (.tmp 25) rfl w5.heap.size (opA y) rfl rfl 79 (opA zeroOp) (Blk.new w5 79 _) (Try.size79B y) (opA_sizes _ _) (opA_one y) ?_
      have HY := Keep.mk ((Blk.new w5 79 (opA zeroOp)).setRow (opA y))
      have BY : Keep (Below w5.heap.size w5 ((w5.alloc (.cells (opA zeroOp) 79)).setRow w5.heap.size (opA y))) := ⟨below_setRow (below_new w5 _) (Nat.le_refl _) _⟩
      generalize (w5.alloc (.cells (opA zeroOp) 79)).setRow w5.heap.size (opA y) = w6 at *
      have HX6 := Keep.mk (HX.out.below BY.out HX.out.lt)
      have B6 : Keep (Below w.heap.size w w6) := ⟨JB.out.trans ((BX.out.mono JB.out.size).trans (BY.out.mono (Nat.le_trans JB.out.size BX.out.size)))⟩
      clear heb
      simp only [Act.put]
      refine WL.nil ?_
      refine hK10 _ _ ?_
      refine wp_seq_k fun K11 hK11 => ?_
      rcases Bool.eq_false_or_eq_true (sm x y) with hxy | hxy
      · skip
        refine wp_region_list (WL.out ?_)
        refine WL.val (by kernel_rfl) (.func (.func 41) #[] #[]) (by go_simp) ?_
        simp only [Act.put, List.setIfInBounds_toArray, List.set_cons_zero, List.set_cons_succ]
        refine WL.row (by kernel_rfl) 79 (.tmp 8) rfl wr.heap.size rfl 79 (opA x) _ HX6.out Try.underlying79 rfl (Try.size79B _) ?_
        simp only [Act.put, List.setIfInBounds_toArray, List.set_cons_zero, List.set_cons_succ]
        refine WL.row (by kernel_rfl) 79 (.tmp 9) rfl w5.heap.size rfl 79 (opA y) _ HY.out Try.underlying79 rfl (Try.size79B _) ?_
        simp only [Act.put, List.setIfInBounds_toArray, List.set_cons_zero, List.set_cons_succ]
        refine WL.callV (by kernel_rfl) 41 (.tmp 26) _ _ rfl rfl Try.in41 #[.agg (opA x), .agg (opA y)] (by simp [Act.eval]) ?_
        refine (same_any x y w6).mono ?_
        rintro e w7 ⟨rfl, hb7⟩
        refine ⟨_, rfl, ?_⟩
        rw [hxy]
        have B7 : Keep (Below w.heap.size w w7) := ⟨B6.out.trans (hb7.mono B6.out.size)⟩
        clear hb7
        simp only [Act.put, List.setIfInBounds_toArray, List.set_cons_zero, List.set_cons_succ]
        refine WL.val (by kernel_rfl) (.bool false) (by go_simp) ?_
        simp only [Act.put, List.setIfInBounds_toArray, List.set_cons_zero, List.set_cons_succ]
        refine WL.nil ?_
        refine hK11 _ _ ?_
        refine wp_cond_false rfl ?_
        refine wp_skip ?_
        refine hK8 _ _ ?_
        refine wp_region_list (WL.out ?_)
        refine WL.val (by kernel_rfl) (.int .i64 ((t : Int) + 1)) (by go_simp) ?_
        simp only [Act.put, List.setIfInBounds_toArray, List.set_cons_zero, List.set_cons_succ]
        refine WL.val (by kernel_rfl) (.int .i64 ((t : Int) + 1)) (by go_simp) ?_
        simp only [Act.put, List.setIfInBounds_toArray, List.set_cons_zero, List.set_cons_succ]
        refine WL.nil ?_
        refine ⟨⟨t + 1, u6, .int .i64 (t : Int), .pointer (some ⟨wr.heap.size, 0, none⟩), .pointer (some ⟨w5.heap.size, 0, none⟩), .bool true, .int .i64 (t : Int), .pointer (some ⟨ga, fa + t * 37, none⟩), .agg (opA x), .slice (some ⟨gb, fb, none⟩) B.length pd, .int .i64 (t : Int), .pointer (some ⟨gb, fb + t * 37, none⟩), .agg (opA y), .func (.func 41) #[] #[], .agg (opA x), .agg (opA y), .bool true, .bool false, .int .i64 ((t : Int) + 1), rfl, by omega, fun i hi => ?_, B7.out⟩, ?_⟩
        · by_cases hit : i < t
          · exact JE.out i hit
          · rw [show i = t by omega, ← Jx.out, ← Jy.out]; exact hxy
        · simp only [intOf]; show A.length - ((t : Int) + 1).toNat < A.length - ((t : Int)).toNat; omega
      · skip
        refine wp_region_list (WL.out ?_)
        refine WL.val (by kernel_rfl) (.func (.func 41) #[] #[]) (by go_simp) ?_
        simp only [Act.put, List.setIfInBounds_toArray, List.set_cons_zero, List.set_cons_succ]
        refine WL.row (by kernel_rfl) 79 (.tmp 8) rfl wr.heap.size rfl 79 (opA x) _ HX6.out Try.underlying79 rfl (Try.size79B _) ?_
        simp only [Act.put, List.setIfInBounds_toArray, List.set_cons_zero, List.set_cons_succ]
        refine WL.row (by kernel_rfl) 79 (.tmp 9) rfl w5.heap.size rfl 79 (opA y) _ HY.out Try.underlying79 rfl (Try.size79B _) ?_
        simp only [Act.put, List.setIfInBounds_toArray, List.set_cons_zero, List.set_cons_succ]
        refine WL.callV (by kernel_rfl) 41 (.tmp 26) _ _ rfl rfl Try.in41 #[.agg (opA x), .agg (opA y)] (by simp [Act.eval]) ?_
        refine (same_any x y w6).mono ?_
        rintro e w7 ⟨rfl, hb7⟩
        refine ⟨_, rfl, ?_⟩
        rw [hxy]
        have B7 : Keep (Below w.heap.size w w7) := ⟨B6.out.trans (hb7.mono B6.out.size)⟩
        clear hb7
        simp only [Act.put, List.setIfInBounds_toArray, List.set_cons_zero, List.set_cons_succ]
        refine WL.val (by kernel_rfl) (.bool true) (by go_simp) ?_
        simp only [Act.put, List.setIfInBounds_toArray, List.set_cons_zero, List.set_cons_succ]
        refine WL.nil ?_
        refine hK11 _ _ ?_
        refine wp_cond_true rfl ?_
        refine wp_seq_k fun K12 hK12 => ?_
        refine wp_region_list (WL.out ?_)
        refine WL.val (by kernel_rfl) (.bool false) (by go_simp) ?_
        simp only [Act.put, List.setIfInBounds_toArray, List.set_cons_zero, List.set_cons_succ]
        refine WL.nil ?_
        refine hK12 _ _ ?_
        refine wp_ret ?_
        go_ret
        have hno : smL A B = false := by
          rw [Bool.eq_false_iff]; intro h
          simp only [smL, Bool.and_eq_true, List.all_eq_true, List.mem_range] at h
          have := h.2 t htl
          rw [← Jx.out, ← Jy.out, hxy] at this; cases this
        exact ⟨by rw [hno]; rfl, B7.out⟩
    · have htl' : ¬ (t : Int) < (A.length : Int) := by omega
      have hle2 : B.length ≤ t := by omega
      refine wp_seq_k fun K13 hK13 => ?_
      refine wp_region_list (WL.out ?_)
      refine WL.val (by kernel_rfl) (.bool false) (by go_simp) ?_
      simp only [Act.put, List.setIfInBounds_toArray, List.set_cons_zero, List.set_cons_succ]
      refine WL.nil ?_
      refine hK13 _ _ ?_
      refine wp_seq_k fun K14 hK14 => ?_
      refine wp_cond_false rfl ?_
      refine wp_exit ?_
      refine hK4 _ _ ?_
      refine wp_seq_k fun K15 hK15 => ?_
      refine wp_region_list (WL.out ?_)
      refine WL.val (by kernel_rfl) (.bool true) (by go_simp) ?_
      simp only [Act.put, List.setIfInBounds_toArray, List.set_cons_zero, List.set_cons_succ]
      refine WL.nil ?_
      refine hK15 _ _ ?_
      refine wp_ret ?_
      go_ret
      have hyes : smL A B = true := by
        simp only [smL, Bool.and_eq_true, List.all_eq_true, List.mem_range, decide_eq_true_eq]
        exact ⟨h1_4, fun i hi => hE i (by omega)⟩
      exact ⟨by rw [hyes]; rfl, hB⟩
  · have h1_4i : ¬ (A.length : Int) = (B.length : Int) := by omega
    refine WL.val (by kernel_rfl) (.bool true) (by go_simp) ?_
    simp only [Act.put, List.setIfInBounds_toArray, List.set_cons_zero, List.set_cons_succ]
    refine WL.nil ?_
    refine hK3 _ _ ?_
    refine wp_cond_true rfl ?_
    refine wp_seq_k fun K16 hK16 => ?_
    refine wp_region_list (WL.out ?_)
    refine WL.val (by kernel_rfl) (.bool false) (by go_simp) ?_
    simp only [Act.put, List.setIfInBounds_toArray, List.set_cons_zero, List.set_cons_succ]
    refine WL.nil ?_
    refine hK16 _ _ ?_
    refine wp_ret ?_
    go_ret
    exact ⟨by rw [show smL A B = false by simp [smL, h1_4]]; rfl, Below.refl _ _⟩
set_option maxRecDepth 8000 in
set_option maxHeartbeats 2000000 in
theorem same_node (A B : NodeV) (vp vo vq vr : Value) (w : World) (hA : NdAt w A vp vo) (hB : NdAt w B vq vr) : Calls Try.prog 20 #[.agg (ndA A.au A.ck vp vo), .agg (ndA B.au B.ck vq vr)] w fun e w' => e = .returned (.bool (sameN A B)) ∧ Below w.heap.size w w' := by
  obtain ⟨pa, pc, rfl⟩ := hA.ps.form
  obtain ⟨oa, oc, rfl⟩ := hA.ops.form
  obtain ⟨pb, pd, rfl⟩ := hB.ps.form
  obtain ⟨ob, od, rfl⟩ := hB.ops.form
  have HA := Keep.mk hA
  have HB := Keep.mk hB
  clear hA hB
  go_enter Try.func20, Try.ntmps20
  refine wp_seq_k fun K1 hK1 => ?_
  refine wp_region_list (WL.out ?_)
  refine WL.box (by kernel_rfl) 27 (.tmp 0) rfl _ rfl ?_
  have HX0 := Keep.mk (Blk.new w 27 (ndA A.au A.ck (.slice pa A.ps.length pc) (.slice oa A.ops.length oc)))
  have B0 := Keep.mk (below_new w (.cells (ndA A.au A.ck (.slice pa A.ps.length pc) (.slice oa A.ops.length oc)) 27))
  generalize w.alloc (.cells (ndA A.au A.ck (.slice pa A.ps.length pc) (.slice oa A.ops.length oc)) 27) = w1 at *
  have B0x : Keep (w.heap.size ≤ w1.heap.size) := ⟨B0.out.size⟩
  generalize hgg : w.heap.size = g at *
  simp only [Act.put, List.setIfInBounds_toArray, List.set_cons_zero, List.set_cons_succ]
  refine WL.box (by kernel_rfl) 27 (.tmp 1) rfl _ rfl ?_
  have HXa := Keep.mk (HX0.out.alloc (.cells (ndA B.au B.ck (.slice pb B.ps.length pd) (.slice ob B.ops.length od)) 27))
  have HXb := Keep.mk (Blk.new w1 27 (ndA B.au B.ck (.slice pb B.ps.length pd) (.slice ob B.ops.length od)))
  have B2 : Keep (Below g w (w1.alloc (.cells (ndA B.au B.ck (.slice pb B.ps.length pd) (.slice ob B.ops.length od)) 27))) := ⟨B0.out.trans ((below_new w1 _).mono B0x.out)⟩
  generalize w1.alloc (.cells (ndA B.au B.ck (.slice pb B.ps.length pd) (.slice ob B.ops.length od)) 27) = w2 at *
  have HA2 := Keep.mk (HA.out.below (by rw [hgg]; exact B2.out))
  have HB2 := Keep.mk (HB.out.below (by rw [hgg]; exact B2.out))
  have B2x : Keep (g ≤ w2.heap.size) := ⟨by have := B2.out.size; omega⟩
  generalize w1.heap.size = k at *
  have a0 := HXa.out.c 0 (nd_0 _ _ _ _)
  have a1 := HXa.out.c 1 (nd_1 _ _ _ _)
  have a2 := HXa.out.c 2 (nd_2 _ _ _ _)
  have b0 := HXb.out.c 0 (nd_0 _ _ _ _)
  have b1 := HXb.out.c 1 (nd_1 _ _ _ _)
  have b2 := HXb.out.c 2 (nd_2 _ _ _ _)
  simp only [Act.put, List.setIfInBounds_toArray, List.set_cons_zero, List.set_cons_succ]
  refine WL.val (by kernel_rfl) (.bool false) (by go_simp) ?_
  simp only [Act.put, List.setIfInBounds_toArray, List.set_cons_zero, List.set_cons_succ]
  refine WL.nil ?_
  refine hK1 _ _ ?_
  refine wp_seq_k fun K2 hK2 => ?_
  rcases Bool.eq_false_or_eq_true (decide (A.ps = B.ps)) with hps | hps
  · rcases Bool.eq_false_or_eq_true (smL A.ops B.ops) with hos | hos
    · skip
      refine wp_region_list (WL.out ?_)
      refine WL.val (by kernel_rfl) (.pointer (some ⟨g, 0, none⟩)) (by go_simp) ?_
      simp only [Act.put, List.setIfInBounds_toArray, List.set_cons_zero, List.set_cons_succ]
      refine WL.val (by kernel_rfl) (.int .i64 A.au) (by go_simp) ?_
      simp only [Act.put, List.setIfInBounds_toArray, List.set_cons_zero, List.set_cons_succ]
      refine WL.val (by kernel_rfl) (.pointer (some ⟨k, 0, none⟩)) (by go_simp) ?_
      simp only [Act.put, List.setIfInBounds_toArray, List.set_cons_zero, List.set_cons_succ]
      refine WL.val (by kernel_rfl) (.int .i64 B.au) (by go_simp) ?_
      simp only [Act.put, List.setIfInBounds_toArray, List.set_cons_zero, List.set_cons_succ]
      by_cases h1_4 : A.au = B.au
      · skip
        refine WL.val (by kernel_rfl) (.bool true) (by go_simp) ?_
        simp only [Act.put, List.setIfInBounds_toArray, List.set_cons_zero, List.set_cons_succ]
        refine WL.val (by kernel_rfl) (.bool true) (by go_simp) ?_
        simp only [Act.put, List.setIfInBounds_toArray, List.set_cons_zero, List.set_cons_succ]
        refine WL.val (by kernel_rfl) (.pointer (some ⟨g, 1, none⟩)) (by go_simp) ?_
        simp only [Act.put, List.setIfInBounds_toArray, List.set_cons_zero, List.set_cons_succ]
        refine WL.val (by kernel_rfl) (.int .i64 A.ck) (by go_simp) ?_
        simp only [Act.put, List.setIfInBounds_toArray, List.set_cons_zero, List.set_cons_succ]
        refine WL.val (by kernel_rfl) (.pointer (some ⟨k, 1, none⟩)) (by go_simp) ?_
        simp only [Act.put, List.setIfInBounds_toArray, List.set_cons_zero, List.set_cons_succ]
        refine WL.val (by kernel_rfl) (.int .i64 B.ck) (by go_simp) ?_
        simp only [Act.put, List.setIfInBounds_toArray, List.set_cons_zero, List.set_cons_succ]
        by_cases h1_10 : A.ck = B.ck
        · skip
          refine WL.val (by kernel_rfl) (.bool true) (by go_simp) ?_
          simp only [Act.put, List.setIfInBounds_toArray, List.set_cons_zero, List.set_cons_succ]
          refine WL.val (by kernel_rfl) (.bool true) (by go_simp) ?_
          simp only [Act.put, List.setIfInBounds_toArray, List.set_cons_zero, List.set_cons_succ]
          refine WL.val (by kernel_rfl) (.bool true) (by go_simp) ?_
          simp only [Act.put, List.setIfInBounds_toArray, List.set_cons_zero, List.set_cons_succ]
          refine WL.val (by kernel_rfl) (.pointer (some ⟨g, 2, none⟩)) (by go_simp) ?_
          simp only [Act.put, List.setIfInBounds_toArray, List.set_cons_zero, List.set_cons_succ]
          refine WL.val (by kernel_rfl) (.slice pa A.ps.length pc) (by go_simp) ?_
          simp only [Act.put, List.setIfInBounds_toArray, List.set_cons_zero, List.set_cons_succ]
          refine WL.val (by kernel_rfl) (.pointer (some ⟨k, 2, none⟩)) (by go_simp) ?_
          simp only [Act.put, List.setIfInBounds_toArray, List.set_cons_zero, List.set_cons_succ]
          refine WL.val (by kernel_rfl) (.slice pb B.ps.length pd) (by go_simp) ?_
          simp only [Act.put, List.setIfInBounds_toArray, List.set_cons_zero, List.set_cons_succ]
          refine WL.callF (by kernel_rfl) 39 _ _ rfl Try.in39 #[.slice pa A.ps.length pc, .slice pb B.ps.length pd] (by simp [Act.eval]) ?_
          refine (eqH_any A.ps B.ps _ _ w2 HA2.out.ps HB2.out.ps HA.out.lp).mono ?_
          rintro e w3 ⟨rfl, hb3⟩
          refine ⟨_, rfl, ?_⟩
          rw [hps]
          have B3 : Keep (Below g w w3) := ⟨B2.out.trans (hb3.mono B2x.out)⟩
          have a3 := (HXa.out.below hb3 HXa.out.lt).c 3 (nd_3 _ _ _ _)
          have b3 := (HXb.out.below hb3 HXb.out.lt).c 3 (nd_3 _ _ _ _)
          have B3z := Keep.mk hb3
          clear hb3
          simp only [Act.put, List.setIfInBounds_toArray, List.set_cons_zero, List.set_cons_succ]
          refine WL.val (by kernel_rfl) (.bool true) (by go_simp) ?_
          simp only [Act.put, List.setIfInBounds_toArray, List.set_cons_zero, List.set_cons_succ]
          refine WL.val (by kernel_rfl) (.bool true) (by go_simp) ?_
          simp only [Act.put, List.setIfInBounds_toArray, List.set_cons_zero, List.set_cons_succ]
          refine WL.val (by kernel_rfl) (.pointer (some ⟨g, 3, none⟩)) (by go_simp) ?_
          simp only [Act.put, List.setIfInBounds_toArray, List.set_cons_zero, List.set_cons_succ]
          refine WL.val (by kernel_rfl) (.slice oa A.ops.length oc) (by go_simp) ?_
          simp only [Act.put, List.setIfInBounds_toArray, List.set_cons_zero, List.set_cons_succ]
          refine WL.val (by kernel_rfl) (.pointer (some ⟨k, 3, none⟩)) (by go_simp) ?_
          simp only [Act.put, List.setIfInBounds_toArray, List.set_cons_zero, List.set_cons_succ]
          refine WL.val (by kernel_rfl) (.slice ob B.ops.length od) (by go_simp) ?_
          simp only [Act.put, List.setIfInBounds_toArray, List.set_cons_zero, List.set_cons_succ]
          refine WL.callF (by kernel_rfl) 40 _ _ rfl Try.in40 #[.slice oa A.ops.length oc, .slice ob B.ops.length od, .func (.func 41) #[] #[]] (by simp [Act.eval]) ?_
          refine (eqO_any A.ops B.ops _ _ w3 (HA2.out.below B3z.out).ops (HB2.out.below B3z.out).ops HA.out.lo).mono ?_
          rintro e w4 ⟨rfl, hb4⟩
          refine ⟨_, rfl, ?_⟩
          rw [hos]
          have B4 : Keep (Below g w w4) := ⟨B3.out.trans (hb4.mono (Nat.le_trans B2x.out B3z.out.size))⟩
          clear hb4
          simp only [Act.put, List.setIfInBounds_toArray, List.set_cons_zero, List.set_cons_succ]
          refine WL.val (by kernel_rfl) (.bool true) (by go_simp) ?_
          simp only [Act.put, List.setIfInBounds_toArray, List.set_cons_zero, List.set_cons_succ]
          refine WL.val (by kernel_rfl) (.bool true) (by go_simp) ?_
          simp only [Act.put, List.setIfInBounds_toArray, List.set_cons_zero, List.set_cons_succ]
          refine WL.nil ?_
          refine hK2 _ _ ?_
          refine wp_ret ?_
          go_ret
          have hv : sameN A B = true := by
            unfold sameN; rw [hps, hos, decide_eq_true h1_4, decide_eq_true h1_10]; rfl
          exact ⟨by rw [hv]; rfl, B4.out⟩
        · skip
          refine WL.val (by kernel_rfl) (.bool false) (by go_simp) ?_
          simp only [Act.put, List.setIfInBounds_toArray, List.set_cons_zero, List.set_cons_succ]
          refine WL.val (by kernel_rfl) (.bool false) (by go_simp) ?_
          simp only [Act.put, List.setIfInBounds_toArray, List.set_cons_zero, List.set_cons_succ]
          refine WL.val (by kernel_rfl) (.bool false) (by go_simp) ?_
          simp only [Act.put, List.setIfInBounds_toArray, List.set_cons_zero, List.set_cons_succ]
          refine WL.skip (by kernel_rfl) ?_
          simp only [Act.put, List.setIfInBounds_toArray, List.set_cons_zero, List.set_cons_succ]
          refine WL.skip (by kernel_rfl) ?_
          simp only [Act.put, List.setIfInBounds_toArray, List.set_cons_zero, List.set_cons_succ]
          refine WL.skip (by kernel_rfl) ?_
          simp only [Act.put, List.setIfInBounds_toArray, List.set_cons_zero, List.set_cons_succ]
          refine WL.skip (by kernel_rfl) ?_
          simp only [Act.put, List.setIfInBounds_toArray, List.set_cons_zero, List.set_cons_succ]
          refine WL.skip (by kernel_rfl) ?_
          simp only [Act.put, List.setIfInBounds_toArray, List.set_cons_zero, List.set_cons_succ]
          refine WL.val (by kernel_rfl) (.bool false) (by go_simp) ?_
          simp only [Act.put, List.setIfInBounds_toArray, List.set_cons_zero, List.set_cons_succ]
          refine WL.val (by kernel_rfl) (.bool false) (by go_simp) ?_
          simp only [Act.put, List.setIfInBounds_toArray, List.set_cons_zero, List.set_cons_succ]
          refine WL.skip (by kernel_rfl) ?_
          simp only [Act.put, List.setIfInBounds_toArray, List.set_cons_zero, List.set_cons_succ]
          refine WL.skip (by kernel_rfl) ?_
          simp only [Act.put, List.setIfInBounds_toArray, List.set_cons_zero, List.set_cons_succ]
          refine WL.skip (by kernel_rfl) ?_
          simp only [Act.put, List.setIfInBounds_toArray, List.set_cons_zero, List.set_cons_succ]
          refine WL.skip (by kernel_rfl) ?_
          simp only [Act.put, List.setIfInBounds_toArray, List.set_cons_zero, List.set_cons_succ]
          refine WL.skip (by kernel_rfl) ?_
          simp only [Act.put, List.setIfInBounds_toArray, List.set_cons_zero, List.set_cons_succ]
          refine WL.val (by kernel_rfl) (.bool false) (by go_simp) ?_
          simp only [Act.put, List.setIfInBounds_toArray, List.set_cons_zero, List.set_cons_succ]
          refine WL.val (by kernel_rfl) (.bool false) (by go_simp) ?_
          simp only [Act.put, List.setIfInBounds_toArray, List.set_cons_zero, List.set_cons_succ]
          refine WL.nil ?_
          refine hK2 _ _ ?_
          refine wp_ret ?_
          go_ret
          have hv : sameN A B = false := by
            simp [sameN, h1_10]
          exact ⟨by rw [hv]; rfl, B2.out⟩
      · skip
        refine WL.val (by kernel_rfl) (.bool false) (by go_simp) ?_
        simp only [Act.put, List.setIfInBounds_toArray, List.set_cons_zero, List.set_cons_succ]
        refine WL.val (by kernel_rfl) (.bool false) (by go_simp) ?_
        simp only [Act.put, List.setIfInBounds_toArray, List.set_cons_zero, List.set_cons_succ]
        refine WL.skip (by kernel_rfl) ?_
        simp only [Act.put, List.setIfInBounds_toArray, List.set_cons_zero, List.set_cons_succ]
        refine WL.skip (by kernel_rfl) ?_
        simp only [Act.put, List.setIfInBounds_toArray, List.set_cons_zero, List.set_cons_succ]
        refine WL.skip (by kernel_rfl) ?_
        simp only [Act.put, List.setIfInBounds_toArray, List.set_cons_zero, List.set_cons_succ]
        refine WL.skip (by kernel_rfl) ?_
        simp only [Act.put, List.setIfInBounds_toArray, List.set_cons_zero, List.set_cons_succ]
        refine WL.skip (by kernel_rfl) ?_
        simp only [Act.put, List.setIfInBounds_toArray, List.set_cons_zero, List.set_cons_succ]
        refine WL.val (by kernel_rfl) (.bool false) (by go_simp) ?_
        simp only [Act.put, List.setIfInBounds_toArray, List.set_cons_zero, List.set_cons_succ]
        refine WL.val (by kernel_rfl) (.bool false) (by go_simp) ?_
        simp only [Act.put, List.setIfInBounds_toArray, List.set_cons_zero, List.set_cons_succ]
        refine WL.skip (by kernel_rfl) ?_
        simp only [Act.put, List.setIfInBounds_toArray, List.set_cons_zero, List.set_cons_succ]
        refine WL.skip (by kernel_rfl) ?_
        simp only [Act.put, List.setIfInBounds_toArray, List.set_cons_zero, List.set_cons_succ]
        refine WL.skip (by kernel_rfl) ?_
        simp only [Act.put, List.setIfInBounds_toArray, List.set_cons_zero, List.set_cons_succ]
        refine WL.skip (by kernel_rfl) ?_
        simp only [Act.put, List.setIfInBounds_toArray, List.set_cons_zero, List.set_cons_succ]
        refine WL.skip (by kernel_rfl) ?_
        simp only [Act.put, List.setIfInBounds_toArray, List.set_cons_zero, List.set_cons_succ]
        refine WL.val (by kernel_rfl) (.bool false) (by go_simp) ?_
        simp only [Act.put, List.setIfInBounds_toArray, List.set_cons_zero, List.set_cons_succ]
        refine WL.val (by kernel_rfl) (.bool false) (by go_simp) ?_
        simp only [Act.put, List.setIfInBounds_toArray, List.set_cons_zero, List.set_cons_succ]
        refine WL.skip (by kernel_rfl) ?_
        simp only [Act.put, List.setIfInBounds_toArray, List.set_cons_zero, List.set_cons_succ]
        refine WL.skip (by kernel_rfl) ?_
        simp only [Act.put, List.setIfInBounds_toArray, List.set_cons_zero, List.set_cons_succ]
        refine WL.skip (by kernel_rfl) ?_
        simp only [Act.put, List.setIfInBounds_toArray, List.set_cons_zero, List.set_cons_succ]
        refine WL.skip (by kernel_rfl) ?_
        simp only [Act.put, List.setIfInBounds_toArray, List.set_cons_zero, List.set_cons_succ]
        refine WL.skip (by kernel_rfl) ?_
        simp only [Act.put, List.setIfInBounds_toArray, List.set_cons_zero, List.set_cons_succ]
        refine WL.val (by kernel_rfl) (.bool false) (by go_simp) ?_
        simp only [Act.put, List.setIfInBounds_toArray, List.set_cons_zero, List.set_cons_succ]
        refine WL.val (by kernel_rfl) (.bool false) (by go_simp) ?_
        simp only [Act.put, List.setIfInBounds_toArray, List.set_cons_zero, List.set_cons_succ]
        refine WL.nil ?_
        refine hK2 _ _ ?_
        refine wp_ret ?_
        go_ret
        have hv : sameN A B = false := by
          simp [sameN, h1_4]
        exact ⟨by rw [hv]; rfl, B2.out⟩
    · skip
      refine wp_region_list (WL.out ?_)
      refine WL.val (by kernel_rfl) (.pointer (some ⟨g, 0, none⟩)) (by go_simp) ?_
      simp only [Act.put, List.setIfInBounds_toArray, List.set_cons_zero, List.set_cons_succ]
      refine WL.val (by kernel_rfl) (.int .i64 A.au) (by go_simp) ?_
      simp only [Act.put, List.setIfInBounds_toArray, List.set_cons_zero, List.set_cons_succ]
      refine WL.val (by kernel_rfl) (.pointer (some ⟨k, 0, none⟩)) (by go_simp) ?_
      simp only [Act.put, List.setIfInBounds_toArray, List.set_cons_zero, List.set_cons_succ]
      refine WL.val (by kernel_rfl) (.int .i64 B.au) (by go_simp) ?_
      simp only [Act.put, List.setIfInBounds_toArray, List.set_cons_zero, List.set_cons_succ]
      by_cases h1_4 : A.au = B.au
      · skip
        refine WL.val (by kernel_rfl) (.bool true) (by go_simp) ?_
        simp only [Act.put, List.setIfInBounds_toArray, List.set_cons_zero, List.set_cons_succ]
        refine WL.val (by kernel_rfl) (.bool true) (by go_simp) ?_
        simp only [Act.put, List.setIfInBounds_toArray, List.set_cons_zero, List.set_cons_succ]
        refine WL.val (by kernel_rfl) (.pointer (some ⟨g, 1, none⟩)) (by go_simp) ?_
        simp only [Act.put, List.setIfInBounds_toArray, List.set_cons_zero, List.set_cons_succ]
        refine WL.val (by kernel_rfl) (.int .i64 A.ck) (by go_simp) ?_
        simp only [Act.put, List.setIfInBounds_toArray, List.set_cons_zero, List.set_cons_succ]
        refine WL.val (by kernel_rfl) (.pointer (some ⟨k, 1, none⟩)) (by go_simp) ?_
        simp only [Act.put, List.setIfInBounds_toArray, List.set_cons_zero, List.set_cons_succ]
        refine WL.val (by kernel_rfl) (.int .i64 B.ck) (by go_simp) ?_
        simp only [Act.put, List.setIfInBounds_toArray, List.set_cons_zero, List.set_cons_succ]
        by_cases h1_10 : A.ck = B.ck
        · skip
          refine WL.val (by kernel_rfl) (.bool true) (by go_simp) ?_
          simp only [Act.put, List.setIfInBounds_toArray, List.set_cons_zero, List.set_cons_succ]
          refine WL.val (by kernel_rfl) (.bool true) (by go_simp) ?_
          simp only [Act.put, List.setIfInBounds_toArray, List.set_cons_zero, List.set_cons_succ]
          refine WL.val (by kernel_rfl) (.bool true) (by go_simp) ?_
          simp only [Act.put, List.setIfInBounds_toArray, List.set_cons_zero, List.set_cons_succ]
          refine WL.val (by kernel_rfl) (.pointer (some ⟨g, 2, none⟩)) (by go_simp) ?_
          simp only [Act.put, List.setIfInBounds_toArray, List.set_cons_zero, List.set_cons_succ]
          refine WL.val (by kernel_rfl) (.slice pa A.ps.length pc) (by go_simp) ?_
          simp only [Act.put, List.setIfInBounds_toArray, List.set_cons_zero, List.set_cons_succ]
          refine WL.val (by kernel_rfl) (.pointer (some ⟨k, 2, none⟩)) (by go_simp) ?_
          simp only [Act.put, List.setIfInBounds_toArray, List.set_cons_zero, List.set_cons_succ]
          refine WL.val (by kernel_rfl) (.slice pb B.ps.length pd) (by go_simp) ?_
          simp only [Act.put, List.setIfInBounds_toArray, List.set_cons_zero, List.set_cons_succ]
          refine WL.callF (by kernel_rfl) 39 _ _ rfl Try.in39 #[.slice pa A.ps.length pc, .slice pb B.ps.length pd] (by simp [Act.eval]) ?_
          refine (eqH_any A.ps B.ps _ _ w2 HA2.out.ps HB2.out.ps HA.out.lp).mono ?_
          rintro e w3 ⟨rfl, hb3⟩
          refine ⟨_, rfl, ?_⟩
          rw [hps]
          have B3 : Keep (Below g w w3) := ⟨B2.out.trans (hb3.mono B2x.out)⟩
          have a3 := (HXa.out.below hb3 HXa.out.lt).c 3 (nd_3 _ _ _ _)
          have b3 := (HXb.out.below hb3 HXb.out.lt).c 3 (nd_3 _ _ _ _)
          have B3z := Keep.mk hb3
          clear hb3
          simp only [Act.put, List.setIfInBounds_toArray, List.set_cons_zero, List.set_cons_succ]
          refine WL.val (by kernel_rfl) (.bool true) (by go_simp) ?_
          simp only [Act.put, List.setIfInBounds_toArray, List.set_cons_zero, List.set_cons_succ]
          refine WL.val (by kernel_rfl) (.bool true) (by go_simp) ?_
          simp only [Act.put, List.setIfInBounds_toArray, List.set_cons_zero, List.set_cons_succ]
          refine WL.val (by kernel_rfl) (.pointer (some ⟨g, 3, none⟩)) (by go_simp) ?_
          simp only [Act.put, List.setIfInBounds_toArray, List.set_cons_zero, List.set_cons_succ]
          refine WL.val (by kernel_rfl) (.slice oa A.ops.length oc) (by go_simp) ?_
          simp only [Act.put, List.setIfInBounds_toArray, List.set_cons_zero, List.set_cons_succ]
          refine WL.val (by kernel_rfl) (.pointer (some ⟨k, 3, none⟩)) (by go_simp) ?_
          simp only [Act.put, List.setIfInBounds_toArray, List.set_cons_zero, List.set_cons_succ]
          refine WL.val (by kernel_rfl) (.slice ob B.ops.length od) (by go_simp) ?_
          simp only [Act.put, List.setIfInBounds_toArray, List.set_cons_zero, List.set_cons_succ]
          refine WL.callF (by kernel_rfl) 40 _ _ rfl Try.in40 #[.slice oa A.ops.length oc, .slice ob B.ops.length od, .func (.func 41) #[] #[]] (by simp [Act.eval]) ?_
          refine (eqO_any A.ops B.ops _ _ w3 (HA2.out.below B3z.out).ops (HB2.out.below B3z.out).ops HA.out.lo).mono ?_
          rintro e w4 ⟨rfl, hb4⟩
          refine ⟨_, rfl, ?_⟩
          rw [hos]
          have B4 : Keep (Below g w w4) := ⟨B3.out.trans (hb4.mono (Nat.le_trans B2x.out B3z.out.size))⟩
          clear hb4
          simp only [Act.put, List.setIfInBounds_toArray, List.set_cons_zero, List.set_cons_succ]
          refine WL.val (by kernel_rfl) (.bool false) (by go_simp) ?_
          simp only [Act.put, List.setIfInBounds_toArray, List.set_cons_zero, List.set_cons_succ]
          refine WL.val (by kernel_rfl) (.bool false) (by go_simp) ?_
          simp only [Act.put, List.setIfInBounds_toArray, List.set_cons_zero, List.set_cons_succ]
          refine WL.nil ?_
          refine hK2 _ _ ?_
          refine wp_ret ?_
          go_ret
          have hv : sameN A B = false := by
            unfold sameN; rw [hps, hos, decide_eq_true h1_4, decide_eq_true h1_10]; rfl
          exact ⟨by rw [hv]; rfl, B4.out⟩
        · skip
          refine WL.val (by kernel_rfl) (.bool false) (by go_simp) ?_
          simp only [Act.put, List.setIfInBounds_toArray, List.set_cons_zero, List.set_cons_succ]
          refine WL.val (by kernel_rfl) (.bool false) (by go_simp) ?_
          simp only [Act.put, List.setIfInBounds_toArray, List.set_cons_zero, List.set_cons_succ]
          refine WL.val (by kernel_rfl) (.bool false) (by go_simp) ?_
          simp only [Act.put, List.setIfInBounds_toArray, List.set_cons_zero, List.set_cons_succ]
          refine WL.skip (by kernel_rfl) ?_
          simp only [Act.put, List.setIfInBounds_toArray, List.set_cons_zero, List.set_cons_succ]
          refine WL.skip (by kernel_rfl) ?_
          simp only [Act.put, List.setIfInBounds_toArray, List.set_cons_zero, List.set_cons_succ]
          refine WL.skip (by kernel_rfl) ?_
          simp only [Act.put, List.setIfInBounds_toArray, List.set_cons_zero, List.set_cons_succ]
          refine WL.skip (by kernel_rfl) ?_
          simp only [Act.put, List.setIfInBounds_toArray, List.set_cons_zero, List.set_cons_succ]
          refine WL.skip (by kernel_rfl) ?_
          simp only [Act.put, List.setIfInBounds_toArray, List.set_cons_zero, List.set_cons_succ]
          refine WL.val (by kernel_rfl) (.bool false) (by go_simp) ?_
          simp only [Act.put, List.setIfInBounds_toArray, List.set_cons_zero, List.set_cons_succ]
          refine WL.val (by kernel_rfl) (.bool false) (by go_simp) ?_
          simp only [Act.put, List.setIfInBounds_toArray, List.set_cons_zero, List.set_cons_succ]
          refine WL.skip (by kernel_rfl) ?_
          simp only [Act.put, List.setIfInBounds_toArray, List.set_cons_zero, List.set_cons_succ]
          refine WL.skip (by kernel_rfl) ?_
          simp only [Act.put, List.setIfInBounds_toArray, List.set_cons_zero, List.set_cons_succ]
          refine WL.skip (by kernel_rfl) ?_
          simp only [Act.put, List.setIfInBounds_toArray, List.set_cons_zero, List.set_cons_succ]
          refine WL.skip (by kernel_rfl) ?_
          simp only [Act.put, List.setIfInBounds_toArray, List.set_cons_zero, List.set_cons_succ]
          refine WL.skip (by kernel_rfl) ?_
          simp only [Act.put, List.setIfInBounds_toArray, List.set_cons_zero, List.set_cons_succ]
          refine WL.val (by kernel_rfl) (.bool false) (by go_simp) ?_
          simp only [Act.put, List.setIfInBounds_toArray, List.set_cons_zero, List.set_cons_succ]
          refine WL.val (by kernel_rfl) (.bool false) (by go_simp) ?_
          simp only [Act.put, List.setIfInBounds_toArray, List.set_cons_zero, List.set_cons_succ]
          refine WL.nil ?_
          refine hK2 _ _ ?_
          refine wp_ret ?_
          go_ret
          have hv : sameN A B = false := by
            simp [sameN, h1_10]
          exact ⟨by rw [hv]; rfl, B2.out⟩
      · skip
        refine WL.val (by kernel_rfl) (.bool false) (by go_simp) ?_
        simp only [Act.put, List.setIfInBounds_toArray, List.set_cons_zero, List.set_cons_succ]
        refine WL.val (by kernel_rfl) (.bool false) (by go_simp) ?_
        simp only [Act.put, List.setIfInBounds_toArray, List.set_cons_zero, List.set_cons_succ]
        refine WL.skip (by kernel_rfl) ?_
        simp only [Act.put, List.setIfInBounds_toArray, List.set_cons_zero, List.set_cons_succ]
        refine WL.skip (by kernel_rfl) ?_
        simp only [Act.put, List.setIfInBounds_toArray, List.set_cons_zero, List.set_cons_succ]
        refine WL.skip (by kernel_rfl) ?_
        simp only [Act.put, List.setIfInBounds_toArray, List.set_cons_zero, List.set_cons_succ]
        refine WL.skip (by kernel_rfl) ?_
        simp only [Act.put, List.setIfInBounds_toArray, List.set_cons_zero, List.set_cons_succ]
        refine WL.skip (by kernel_rfl) ?_
        simp only [Act.put, List.setIfInBounds_toArray, List.set_cons_zero, List.set_cons_succ]
        refine WL.val (by kernel_rfl) (.bool false) (by go_simp) ?_
        simp only [Act.put, List.setIfInBounds_toArray, List.set_cons_zero, List.set_cons_succ]
        refine WL.val (by kernel_rfl) (.bool false) (by go_simp) ?_
        simp only [Act.put, List.setIfInBounds_toArray, List.set_cons_zero, List.set_cons_succ]
        refine WL.skip (by kernel_rfl) ?_
        simp only [Act.put, List.setIfInBounds_toArray, List.set_cons_zero, List.set_cons_succ]
        refine WL.skip (by kernel_rfl) ?_
        simp only [Act.put, List.setIfInBounds_toArray, List.set_cons_zero, List.set_cons_succ]
        refine WL.skip (by kernel_rfl) ?_
        simp only [Act.put, List.setIfInBounds_toArray, List.set_cons_zero, List.set_cons_succ]
        refine WL.skip (by kernel_rfl) ?_
        simp only [Act.put, List.setIfInBounds_toArray, List.set_cons_zero, List.set_cons_succ]
        refine WL.skip (by kernel_rfl) ?_
        simp only [Act.put, List.setIfInBounds_toArray, List.set_cons_zero, List.set_cons_succ]
        refine WL.val (by kernel_rfl) (.bool false) (by go_simp) ?_
        simp only [Act.put, List.setIfInBounds_toArray, List.set_cons_zero, List.set_cons_succ]
        refine WL.val (by kernel_rfl) (.bool false) (by go_simp) ?_
        simp only [Act.put, List.setIfInBounds_toArray, List.set_cons_zero, List.set_cons_succ]
        refine WL.skip (by kernel_rfl) ?_
        simp only [Act.put, List.setIfInBounds_toArray, List.set_cons_zero, List.set_cons_succ]
        refine WL.skip (by kernel_rfl) ?_
        simp only [Act.put, List.setIfInBounds_toArray, List.set_cons_zero, List.set_cons_succ]
        refine WL.skip (by kernel_rfl) ?_
        simp only [Act.put, List.setIfInBounds_toArray, List.set_cons_zero, List.set_cons_succ]
        refine WL.skip (by kernel_rfl) ?_
        simp only [Act.put, List.setIfInBounds_toArray, List.set_cons_zero, List.set_cons_succ]
        refine WL.skip (by kernel_rfl) ?_
        simp only [Act.put, List.setIfInBounds_toArray, List.set_cons_zero, List.set_cons_succ]
        refine WL.val (by kernel_rfl) (.bool false) (by go_simp) ?_
        simp only [Act.put, List.setIfInBounds_toArray, List.set_cons_zero, List.set_cons_succ]
        refine WL.val (by kernel_rfl) (.bool false) (by go_simp) ?_
        simp only [Act.put, List.setIfInBounds_toArray, List.set_cons_zero, List.set_cons_succ]
        refine WL.nil ?_
        refine hK2 _ _ ?_
        refine wp_ret ?_
        go_ret
        have hv : sameN A B = false := by
          simp [sameN, h1_4]
        exact ⟨by rw [hv]; rfl, B2.out⟩
  · rcases Bool.eq_false_or_eq_true (smL A.ops B.ops) with hos | hos
    · skip
      refine wp_region_list (WL.out ?_)
      refine WL.val (by kernel_rfl) (.pointer (some ⟨g, 0, none⟩)) (by go_simp) ?_
      simp only [Act.put, List.setIfInBounds_toArray, List.set_cons_zero, List.set_cons_succ]
      refine WL.val (by kernel_rfl) (.int .i64 A.au) (by go_simp) ?_
      simp only [Act.put, List.setIfInBounds_toArray, List.set_cons_zero, List.set_cons_succ]
      refine WL.val (by kernel_rfl) (.pointer (some ⟨k, 0, none⟩)) (by go_simp) ?_
      simp only [Act.put, List.setIfInBounds_toArray, List.set_cons_zero, List.set_cons_succ]
      refine WL.val (by kernel_rfl) (.int .i64 B.au) (by go_simp) ?_
      simp only [Act.put, List.setIfInBounds_toArray, List.set_cons_zero, List.set_cons_succ]
      by_cases h1_4 : A.au = B.au
      · skip
        refine WL.val (by kernel_rfl) (.bool true) (by go_simp) ?_
        simp only [Act.put, List.setIfInBounds_toArray, List.set_cons_zero, List.set_cons_succ]
        refine WL.val (by kernel_rfl) (.bool true) (by go_simp) ?_
        simp only [Act.put, List.setIfInBounds_toArray, List.set_cons_zero, List.set_cons_succ]
        refine WL.val (by kernel_rfl) (.pointer (some ⟨g, 1, none⟩)) (by go_simp) ?_
        simp only [Act.put, List.setIfInBounds_toArray, List.set_cons_zero, List.set_cons_succ]
        refine WL.val (by kernel_rfl) (.int .i64 A.ck) (by go_simp) ?_
        simp only [Act.put, List.setIfInBounds_toArray, List.set_cons_zero, List.set_cons_succ]
        refine WL.val (by kernel_rfl) (.pointer (some ⟨k, 1, none⟩)) (by go_simp) ?_
        simp only [Act.put, List.setIfInBounds_toArray, List.set_cons_zero, List.set_cons_succ]
        refine WL.val (by kernel_rfl) (.int .i64 B.ck) (by go_simp) ?_
        simp only [Act.put, List.setIfInBounds_toArray, List.set_cons_zero, List.set_cons_succ]
        by_cases h1_10 : A.ck = B.ck
        · skip
          refine WL.val (by kernel_rfl) (.bool true) (by go_simp) ?_
          simp only [Act.put, List.setIfInBounds_toArray, List.set_cons_zero, List.set_cons_succ]
          refine WL.val (by kernel_rfl) (.bool true) (by go_simp) ?_
          simp only [Act.put, List.setIfInBounds_toArray, List.set_cons_zero, List.set_cons_succ]
          refine WL.val (by kernel_rfl) (.bool true) (by go_simp) ?_
          simp only [Act.put, List.setIfInBounds_toArray, List.set_cons_zero, List.set_cons_succ]
          refine WL.val (by kernel_rfl) (.pointer (some ⟨g, 2, none⟩)) (by go_simp) ?_
          simp only [Act.put, List.setIfInBounds_toArray, List.set_cons_zero, List.set_cons_succ]
          refine WL.val (by kernel_rfl) (.slice pa A.ps.length pc) (by go_simp) ?_
          simp only [Act.put, List.setIfInBounds_toArray, List.set_cons_zero, List.set_cons_succ]
          refine WL.val (by kernel_rfl) (.pointer (some ⟨k, 2, none⟩)) (by go_simp) ?_
          simp only [Act.put, List.setIfInBounds_toArray, List.set_cons_zero, List.set_cons_succ]
          refine WL.val (by kernel_rfl) (.slice pb B.ps.length pd) (by go_simp) ?_
          simp only [Act.put, List.setIfInBounds_toArray, List.set_cons_zero, List.set_cons_succ]
          refine WL.callF (by kernel_rfl) 39 _ _ rfl Try.in39 #[.slice pa A.ps.length pc, .slice pb B.ps.length pd] (by simp [Act.eval]) ?_
          refine (eqH_any A.ps B.ps _ _ w2 HA2.out.ps HB2.out.ps HA.out.lp).mono ?_
          rintro e w3 ⟨rfl, hb3⟩
          refine ⟨_, rfl, ?_⟩
          rw [hps]
          have B3 : Keep (Below g w w3) := ⟨B2.out.trans (hb3.mono B2x.out)⟩
          have a3 := (HXa.out.below hb3 HXa.out.lt).c 3 (nd_3 _ _ _ _)
          have b3 := (HXb.out.below hb3 HXb.out.lt).c 3 (nd_3 _ _ _ _)
          have B3z := Keep.mk hb3
          clear hb3
          simp only [Act.put, List.setIfInBounds_toArray, List.set_cons_zero, List.set_cons_succ]
          refine WL.val (by kernel_rfl) (.bool false) (by go_simp) ?_
          simp only [Act.put, List.setIfInBounds_toArray, List.set_cons_zero, List.set_cons_succ]
          refine WL.val (by kernel_rfl) (.bool false) (by go_simp) ?_
          simp only [Act.put, List.setIfInBounds_toArray, List.set_cons_zero, List.set_cons_succ]
          refine WL.skip (by kernel_rfl) ?_
          simp only [Act.put, List.setIfInBounds_toArray, List.set_cons_zero, List.set_cons_succ]
          refine WL.skip (by kernel_rfl) ?_
          simp only [Act.put, List.setIfInBounds_toArray, List.set_cons_zero, List.set_cons_succ]
          refine WL.skip (by kernel_rfl) ?_
          simp only [Act.put, List.setIfInBounds_toArray, List.set_cons_zero, List.set_cons_succ]
          refine WL.skip (by kernel_rfl) ?_
          simp only [Act.put, List.setIfInBounds_toArray, List.set_cons_zero, List.set_cons_succ]
          refine WL.skip (by kernel_rfl) ?_
          simp only [Act.put, List.setIfInBounds_toArray, List.set_cons_zero, List.set_cons_succ]
          refine WL.val (by kernel_rfl) (.bool false) (by go_simp) ?_
          simp only [Act.put, List.setIfInBounds_toArray, List.set_cons_zero, List.set_cons_succ]
          refine WL.val (by kernel_rfl) (.bool false) (by go_simp) ?_
          simp only [Act.put, List.setIfInBounds_toArray, List.set_cons_zero, List.set_cons_succ]
          refine WL.nil ?_
          refine hK2 _ _ ?_
          refine wp_ret ?_
          go_ret
          have hv : sameN A B = false := by
            unfold sameN; rw [hps, hos, decide_eq_true h1_4, decide_eq_true h1_10]; rfl
          exact ⟨by rw [hv]; rfl, B3.out⟩
        · skip
          refine WL.val (by kernel_rfl) (.bool false) (by go_simp) ?_
          simp only [Act.put, List.setIfInBounds_toArray, List.set_cons_zero, List.set_cons_succ]
          refine WL.val (by kernel_rfl) (.bool false) (by go_simp) ?_
          simp only [Act.put, List.setIfInBounds_toArray, List.set_cons_zero, List.set_cons_succ]
          refine WL.val (by kernel_rfl) (.bool false) (by go_simp) ?_
          simp only [Act.put, List.setIfInBounds_toArray, List.set_cons_zero, List.set_cons_succ]
          refine WL.skip (by kernel_rfl) ?_
          simp only [Act.put, List.setIfInBounds_toArray, List.set_cons_zero, List.set_cons_succ]
          refine WL.skip (by kernel_rfl) ?_
          simp only [Act.put, List.setIfInBounds_toArray, List.set_cons_zero, List.set_cons_succ]
          refine WL.skip (by kernel_rfl) ?_
          simp only [Act.put, List.setIfInBounds_toArray, List.set_cons_zero, List.set_cons_succ]
          refine WL.skip (by kernel_rfl) ?_
          simp only [Act.put, List.setIfInBounds_toArray, List.set_cons_zero, List.set_cons_succ]
          refine WL.skip (by kernel_rfl) ?_
          simp only [Act.put, List.setIfInBounds_toArray, List.set_cons_zero, List.set_cons_succ]
          refine WL.val (by kernel_rfl) (.bool false) (by go_simp) ?_
          simp only [Act.put, List.setIfInBounds_toArray, List.set_cons_zero, List.set_cons_succ]
          refine WL.val (by kernel_rfl) (.bool false) (by go_simp) ?_
          simp only [Act.put, List.setIfInBounds_toArray, List.set_cons_zero, List.set_cons_succ]
          refine WL.skip (by kernel_rfl) ?_
          simp only [Act.put, List.setIfInBounds_toArray, List.set_cons_zero, List.set_cons_succ]
          refine WL.skip (by kernel_rfl) ?_
          simp only [Act.put, List.setIfInBounds_toArray, List.set_cons_zero, List.set_cons_succ]
          refine WL.skip (by kernel_rfl) ?_
          simp only [Act.put, List.setIfInBounds_toArray, List.set_cons_zero, List.set_cons_succ]
          refine WL.skip (by kernel_rfl) ?_
          simp only [Act.put, List.setIfInBounds_toArray, List.set_cons_zero, List.set_cons_succ]
          refine WL.skip (by kernel_rfl) ?_
          simp only [Act.put, List.setIfInBounds_toArray, List.set_cons_zero, List.set_cons_succ]
          refine WL.val (by kernel_rfl) (.bool false) (by go_simp) ?_
          simp only [Act.put, List.setIfInBounds_toArray, List.set_cons_zero, List.set_cons_succ]
          refine WL.val (by kernel_rfl) (.bool false) (by go_simp) ?_
          simp only [Act.put, List.setIfInBounds_toArray, List.set_cons_zero, List.set_cons_succ]
          refine WL.nil ?_
          refine hK2 _ _ ?_
          refine wp_ret ?_
          go_ret
          have hv : sameN A B = false := by
            simp [sameN, h1_10]
          exact ⟨by rw [hv]; rfl, B2.out⟩
      · skip
        refine WL.val (by kernel_rfl) (.bool false) (by go_simp) ?_
        simp only [Act.put, List.setIfInBounds_toArray, List.set_cons_zero, List.set_cons_succ]
        refine WL.val (by kernel_rfl) (.bool false) (by go_simp) ?_
        simp only [Act.put, List.setIfInBounds_toArray, List.set_cons_zero, List.set_cons_succ]
        refine WL.skip (by kernel_rfl) ?_
        simp only [Act.put, List.setIfInBounds_toArray, List.set_cons_zero, List.set_cons_succ]
        refine WL.skip (by kernel_rfl) ?_
        simp only [Act.put, List.setIfInBounds_toArray, List.set_cons_zero, List.set_cons_succ]
        refine WL.skip (by kernel_rfl) ?_
        simp only [Act.put, List.setIfInBounds_toArray, List.set_cons_zero, List.set_cons_succ]
        refine WL.skip (by kernel_rfl) ?_
        simp only [Act.put, List.setIfInBounds_toArray, List.set_cons_zero, List.set_cons_succ]
        refine WL.skip (by kernel_rfl) ?_
        simp only [Act.put, List.setIfInBounds_toArray, List.set_cons_zero, List.set_cons_succ]
        refine WL.val (by kernel_rfl) (.bool false) (by go_simp) ?_
        simp only [Act.put, List.setIfInBounds_toArray, List.set_cons_zero, List.set_cons_succ]
        refine WL.val (by kernel_rfl) (.bool false) (by go_simp) ?_
        simp only [Act.put, List.setIfInBounds_toArray, List.set_cons_zero, List.set_cons_succ]
        refine WL.skip (by kernel_rfl) ?_
        simp only [Act.put, List.setIfInBounds_toArray, List.set_cons_zero, List.set_cons_succ]
        refine WL.skip (by kernel_rfl) ?_
        simp only [Act.put, List.setIfInBounds_toArray, List.set_cons_zero, List.set_cons_succ]
        refine WL.skip (by kernel_rfl) ?_
        simp only [Act.put, List.setIfInBounds_toArray, List.set_cons_zero, List.set_cons_succ]
        refine WL.skip (by kernel_rfl) ?_
        simp only [Act.put, List.setIfInBounds_toArray, List.set_cons_zero, List.set_cons_succ]
        refine WL.skip (by kernel_rfl) ?_
        simp only [Act.put, List.setIfInBounds_toArray, List.set_cons_zero, List.set_cons_succ]
        refine WL.val (by kernel_rfl) (.bool false) (by go_simp) ?_
        simp only [Act.put, List.setIfInBounds_toArray, List.set_cons_zero, List.set_cons_succ]
        refine WL.val (by kernel_rfl) (.bool false) (by go_simp) ?_
        simp only [Act.put, List.setIfInBounds_toArray, List.set_cons_zero, List.set_cons_succ]
        refine WL.skip (by kernel_rfl) ?_
        simp only [Act.put, List.setIfInBounds_toArray, List.set_cons_zero, List.set_cons_succ]
        refine WL.skip (by kernel_rfl) ?_
        simp only [Act.put, List.setIfInBounds_toArray, List.set_cons_zero, List.set_cons_succ]
        refine WL.skip (by kernel_rfl) ?_
        simp only [Act.put, List.setIfInBounds_toArray, List.set_cons_zero, List.set_cons_succ]
        refine WL.skip (by kernel_rfl) ?_
        simp only [Act.put, List.setIfInBounds_toArray, List.set_cons_zero, List.set_cons_succ]
        refine WL.skip (by kernel_rfl) ?_
        simp only [Act.put, List.setIfInBounds_toArray, List.set_cons_zero, List.set_cons_succ]
        refine WL.val (by kernel_rfl) (.bool false) (by go_simp) ?_
        simp only [Act.put, List.setIfInBounds_toArray, List.set_cons_zero, List.set_cons_succ]
        refine WL.val (by kernel_rfl) (.bool false) (by go_simp) ?_
        simp only [Act.put, List.setIfInBounds_toArray, List.set_cons_zero, List.set_cons_succ]
        refine WL.nil ?_
        refine hK2 _ _ ?_
        refine wp_ret ?_
        go_ret
        have hv : sameN A B = false := by
          simp [sameN, h1_4]
        exact ⟨by rw [hv]; rfl, B2.out⟩
    · skip
      refine wp_region_list (WL.out ?_)
      refine WL.val (by kernel_rfl) (.pointer (some ⟨g, 0, none⟩)) (by go_simp) ?_
      simp only [Act.put, List.setIfInBounds_toArray, List.set_cons_zero, List.set_cons_succ]
      refine WL.val (by kernel_rfl) (.int .i64 A.au) (by go_simp) ?_
      simp only [Act.put, List.setIfInBounds_toArray, List.set_cons_zero, List.set_cons_succ]
      refine WL.val (by kernel_rfl) (.pointer (some ⟨k, 0, none⟩)) (by go_simp) ?_
      simp only [Act.put, List.setIfInBounds_toArray, List.set_cons_zero, List.set_cons_succ]
      refine WL.val (by kernel_rfl) (.int .i64 B.au) (by go_simp) ?_
      simp only [Act.put, List.setIfInBounds_toArray, List.set_cons_zero, List.set_cons_succ]
      by_cases h1_4 : A.au = B.au
      · skip
        refine WL.val (by kernel_rfl) (.bool true) (by go_simp) ?_
        simp only [Act.put, List.setIfInBounds_toArray, List.set_cons_zero, List.set_cons_succ]
        refine WL.val (by kernel_rfl) (.bool true) (by go_simp) ?_
        simp only [Act.put, List.setIfInBounds_toArray, List.set_cons_zero, List.set_cons_succ]
        refine WL.val (by kernel_rfl) (.pointer (some ⟨g, 1, none⟩)) (by go_simp) ?_
        simp only [Act.put, List.setIfInBounds_toArray, List.set_cons_zero, List.set_cons_succ]
        refine WL.val (by kernel_rfl) (.int .i64 A.ck) (by go_simp) ?_
        simp only [Act.put, List.setIfInBounds_toArray, List.set_cons_zero, List.set_cons_succ]
        refine WL.val (by kernel_rfl) (.pointer (some ⟨k, 1, none⟩)) (by go_simp) ?_
        simp only [Act.put, List.setIfInBounds_toArray, List.set_cons_zero, List.set_cons_succ]
        refine WL.val (by kernel_rfl) (.int .i64 B.ck) (by go_simp) ?_
        simp only [Act.put, List.setIfInBounds_toArray, List.set_cons_zero, List.set_cons_succ]
        by_cases h1_10 : A.ck = B.ck
        · skip
          refine WL.val (by kernel_rfl) (.bool true) (by go_simp) ?_
          simp only [Act.put, List.setIfInBounds_toArray, List.set_cons_zero, List.set_cons_succ]
          refine WL.val (by kernel_rfl) (.bool true) (by go_simp) ?_
          simp only [Act.put, List.setIfInBounds_toArray, List.set_cons_zero, List.set_cons_succ]
          refine WL.val (by kernel_rfl) (.bool true) (by go_simp) ?_
          simp only [Act.put, List.setIfInBounds_toArray, List.set_cons_zero, List.set_cons_succ]
          refine WL.val (by kernel_rfl) (.pointer (some ⟨g, 2, none⟩)) (by go_simp) ?_
          simp only [Act.put, List.setIfInBounds_toArray, List.set_cons_zero, List.set_cons_succ]
          refine WL.val (by kernel_rfl) (.slice pa A.ps.length pc) (by go_simp) ?_
          simp only [Act.put, List.setIfInBounds_toArray, List.set_cons_zero, List.set_cons_succ]
          refine WL.val (by kernel_rfl) (.pointer (some ⟨k, 2, none⟩)) (by go_simp) ?_
          simp only [Act.put, List.setIfInBounds_toArray, List.set_cons_zero, List.set_cons_succ]
          refine WL.val (by kernel_rfl) (.slice pb B.ps.length pd) (by go_simp) ?_
          simp only [Act.put, List.setIfInBounds_toArray, List.set_cons_zero, List.set_cons_succ]
          refine WL.callF (by kernel_rfl) 39 _ _ rfl Try.in39 #[.slice pa A.ps.length pc, .slice pb B.ps.length pd] (by simp [Act.eval]) ?_
          refine (eqH_any A.ps B.ps _ _ w2 HA2.out.ps HB2.out.ps HA.out.lp).mono ?_
          rintro e w3 ⟨rfl, hb3⟩
          refine ⟨_, rfl, ?_⟩
          rw [hps]
          have B3 : Keep (Below g w w3) := ⟨B2.out.trans (hb3.mono B2x.out)⟩
          have a3 := (HXa.out.below hb3 HXa.out.lt).c 3 (nd_3 _ _ _ _)
          have b3 := (HXb.out.below hb3 HXb.out.lt).c 3 (nd_3 _ _ _ _)
          have B3z := Keep.mk hb3
          clear hb3
          simp only [Act.put, List.setIfInBounds_toArray, List.set_cons_zero, List.set_cons_succ]
          refine WL.val (by kernel_rfl) (.bool false) (by go_simp) ?_
          simp only [Act.put, List.setIfInBounds_toArray, List.set_cons_zero, List.set_cons_succ]
          refine WL.val (by kernel_rfl) (.bool false) (by go_simp) ?_
          simp only [Act.put, List.setIfInBounds_toArray, List.set_cons_zero, List.set_cons_succ]
          refine WL.skip (by kernel_rfl) ?_
          simp only [Act.put, List.setIfInBounds_toArray, List.set_cons_zero, List.set_cons_succ]
          refine WL.skip (by kernel_rfl) ?_
          simp only [Act.put, List.setIfInBounds_toArray, List.set_cons_zero, List.set_cons_succ]
          refine WL.skip (by kernel_rfl) ?_
          simp only [Act.put, List.setIfInBounds_toArray, List.set_cons_zero, List.set_cons_succ]
          refine WL.skip (by kernel_rfl) ?_
          simp only [Act.put, List.setIfInBounds_toArray, List.set_cons_zero, List.set_cons_succ]
          refine WL.skip (by kernel_rfl) ?_
          simp only [Act.put, List.setIfInBounds_toArray, List.set_cons_zero, List.set_cons_succ]
          refine WL.val (by kernel_rfl) (.bool false) (by go_simp) ?_
          simp only [Act.put, List.setIfInBounds_toArray, List.set_cons_zero, List.set_cons_succ]
          refine WL.val (by kernel_rfl) (.bool false) (by go_simp) ?_
          simp only [Act.put, List.setIfInBounds_toArray, List.set_cons_zero, List.set_cons_succ]
          refine WL.nil ?_
          refine hK2 _ _ ?_
          refine wp_ret ?_
          go_ret
          have hv : sameN A B = false := by
            unfold sameN; rw [hps, hos, decide_eq_true h1_4, decide_eq_true h1_10]; rfl
          exact ⟨by rw [hv]; rfl, B3.out⟩
        · skip
          refine WL.val (by kernel_rfl) (.bool false) (by go_simp) ?_
          simp only [Act.put, List.setIfInBounds_toArray, List.set_cons_zero, List.set_cons_succ]
          refine WL.val (by kernel_rfl) (.bool false) (by go_simp) ?_
          simp only [Act.put, List.setIfInBounds_toArray, List.set_cons_zero, List.set_cons_succ]
          refine WL.val (by kernel_rfl) (.bool false) (by go_simp) ?_
          simp only [Act.put, List.setIfInBounds_toArray, List.set_cons_zero, List.set_cons_succ]
          refine WL.skip (by kernel_rfl) ?_
          simp only [Act.put, List.setIfInBounds_toArray, List.set_cons_zero, List.set_cons_succ]
          refine WL.skip (by kernel_rfl) ?_
          simp only [Act.put, List.setIfInBounds_toArray, List.set_cons_zero, List.set_cons_succ]
          refine WL.skip (by kernel_rfl) ?_
          simp only [Act.put, List.setIfInBounds_toArray, List.set_cons_zero, List.set_cons_succ]
          refine WL.skip (by kernel_rfl) ?_
          simp only [Act.put, List.setIfInBounds_toArray, List.set_cons_zero, List.set_cons_succ]
          refine WL.skip (by kernel_rfl) ?_
          simp only [Act.put, List.setIfInBounds_toArray, List.set_cons_zero, List.set_cons_succ]
          refine WL.val (by kernel_rfl) (.bool false) (by go_simp) ?_
          simp only [Act.put, List.setIfInBounds_toArray, List.set_cons_zero, List.set_cons_succ]
          refine WL.val (by kernel_rfl) (.bool false) (by go_simp) ?_
          simp only [Act.put, List.setIfInBounds_toArray, List.set_cons_zero, List.set_cons_succ]
          refine WL.skip (by kernel_rfl) ?_
          simp only [Act.put, List.setIfInBounds_toArray, List.set_cons_zero, List.set_cons_succ]
          refine WL.skip (by kernel_rfl) ?_
          simp only [Act.put, List.setIfInBounds_toArray, List.set_cons_zero, List.set_cons_succ]
          refine WL.skip (by kernel_rfl) ?_
          simp only [Act.put, List.setIfInBounds_toArray, List.set_cons_zero, List.set_cons_succ]
          refine WL.skip (by kernel_rfl) ?_
          simp only [Act.put, List.setIfInBounds_toArray, List.set_cons_zero, List.set_cons_succ]
          refine WL.skip (by kernel_rfl) ?_
          simp only [Act.put, List.setIfInBounds_toArray, List.set_cons_zero, List.set_cons_succ]
          refine WL.val (by kernel_rfl) (.bool false) (by go_simp) ?_
          simp only [Act.put, List.setIfInBounds_toArray, List.set_cons_zero, List.set_cons_succ]
          refine WL.val (by kernel_rfl) (.bool false) (by go_simp) ?_
          simp only [Act.put, List.setIfInBounds_toArray, List.set_cons_zero, List.set_cons_succ]
          refine WL.nil ?_
          refine hK2 _ _ ?_
          refine wp_ret ?_
          go_ret
          have hv : sameN A B = false := by
            simp [sameN, h1_10]
          exact ⟨by rw [hv]; rfl, B2.out⟩
      · skip
        refine WL.val (by kernel_rfl) (.bool false) (by go_simp) ?_
        simp only [Act.put, List.setIfInBounds_toArray, List.set_cons_zero, List.set_cons_succ]
        refine WL.val (by kernel_rfl) (.bool false) (by go_simp) ?_
        simp only [Act.put, List.setIfInBounds_toArray, List.set_cons_zero, List.set_cons_succ]
        refine WL.skip (by kernel_rfl) ?_
        simp only [Act.put, List.setIfInBounds_toArray, List.set_cons_zero, List.set_cons_succ]
        refine WL.skip (by kernel_rfl) ?_
        simp only [Act.put, List.setIfInBounds_toArray, List.set_cons_zero, List.set_cons_succ]
        refine WL.skip (by kernel_rfl) ?_
        simp only [Act.put, List.setIfInBounds_toArray, List.set_cons_zero, List.set_cons_succ]
        refine WL.skip (by kernel_rfl) ?_
        simp only [Act.put, List.setIfInBounds_toArray, List.set_cons_zero, List.set_cons_succ]
        refine WL.skip (by kernel_rfl) ?_
        simp only [Act.put, List.setIfInBounds_toArray, List.set_cons_zero, List.set_cons_succ]
        refine WL.val (by kernel_rfl) (.bool false) (by go_simp) ?_
        simp only [Act.put, List.setIfInBounds_toArray, List.set_cons_zero, List.set_cons_succ]
        refine WL.val (by kernel_rfl) (.bool false) (by go_simp) ?_
        simp only [Act.put, List.setIfInBounds_toArray, List.set_cons_zero, List.set_cons_succ]
        refine WL.skip (by kernel_rfl) ?_
        simp only [Act.put, List.setIfInBounds_toArray, List.set_cons_zero, List.set_cons_succ]
        refine WL.skip (by kernel_rfl) ?_
        simp only [Act.put, List.setIfInBounds_toArray, List.set_cons_zero, List.set_cons_succ]
        refine WL.skip (by kernel_rfl) ?_
        simp only [Act.put, List.setIfInBounds_toArray, List.set_cons_zero, List.set_cons_succ]
        refine WL.skip (by kernel_rfl) ?_
        simp only [Act.put, List.setIfInBounds_toArray, List.set_cons_zero, List.set_cons_succ]
        refine WL.skip (by kernel_rfl) ?_
        simp only [Act.put, List.setIfInBounds_toArray, List.set_cons_zero, List.set_cons_succ]
        refine WL.val (by kernel_rfl) (.bool false) (by go_simp) ?_
        simp only [Act.put, List.setIfInBounds_toArray, List.set_cons_zero, List.set_cons_succ]
        refine WL.val (by kernel_rfl) (.bool false) (by go_simp) ?_
        simp only [Act.put, List.setIfInBounds_toArray, List.set_cons_zero, List.set_cons_succ]
        refine WL.skip (by kernel_rfl) ?_
        simp only [Act.put, List.setIfInBounds_toArray, List.set_cons_zero, List.set_cons_succ]
        refine WL.skip (by kernel_rfl) ?_
        simp only [Act.put, List.setIfInBounds_toArray, List.set_cons_zero, List.set_cons_succ]
        refine WL.skip (by kernel_rfl) ?_
        simp only [Act.put, List.setIfInBounds_toArray, List.set_cons_zero, List.set_cons_succ]
        refine WL.skip (by kernel_rfl) ?_
        simp only [Act.put, List.setIfInBounds_toArray, List.set_cons_zero, List.set_cons_succ]
        refine WL.skip (by kernel_rfl) ?_
        simp only [Act.put, List.setIfInBounds_toArray, List.set_cons_zero, List.set_cons_succ]
        refine WL.val (by kernel_rfl) (.bool false) (by go_simp) ?_
        simp only [Act.put, List.setIfInBounds_toArray, List.set_cons_zero, List.set_cons_succ]
        refine WL.val (by kernel_rfl) (.bool false) (by go_simp) ?_
        simp only [Act.put, List.setIfInBounds_toArray, List.set_cons_zero, List.set_cons_succ]
        refine WL.nil ?_
        refine hK2 _ _ ?_
        refine wp_ret ?_
        go_ret
        have hv : sameN A B = false := by
          simp [sameN, h1_4]
        exact ⟨by rw [hv]; rfl, B2.out⟩
def enL (c : Nat → Int) (N : Array Value) : List Value := (bytesA 32 c).toList ++ N.toList
def enA (c : Nat → Int) (N : Array Value) : Array Value := (enL c N).toArray
theorem enA_size (c : Nat → Int) (a k : Int) (x y : Value) : (enA c (ndA a k x y)).size = 36 := by simp [enA, enL, bytesA_size, ndA]
theorem enL_hash (c : Nat → Int) (N : Array Value) : (enL c N).take 32 = (bytesA 32 c).toList := List.take_left' (by simp [bytesA_size])
theorem enL_node (c : Nat → Int) (N : Array Value) : (enL c N).drop 32 = N.toList := List.drop_left' (by simp [bytesA_size])
theorem Try.size42 : (Try.prog.info? 42).map (·.size) = some 36 := by kernel_rfl
theorem Try.size42B (c : Nat → Int) (a k : Int) (x y : Value) : (Try.prog.info? 42).map (·.size) = some (enA c (ndA a k x y)).size := by rw [enA_size]; exact Try.size42
def zEn : Array Value := enA (fun _ => 0) (ndA 0 0 noS noS)
theorem Try.new42 (w : World) : (Instr.alloc 42 true (.tuple #[])).run Try.prog w = .ok (.pointer (some ⟨w.heap.size, 0, none⟩)) (w.alloc (.cells zEn 42)) := by kernel_rfl
theorem en_built0 : Try.prog.built 42 [] = some zEn := by kernel_rfl
theorem en_built (c : Nat → Int) (a k : Int) (x y : Value) : Try.prog.built 42 [(0, .agg (bytesA 32 c)), (1, .agg (ndA a k x y))] = some (enA c (ndA a k x y)) := by kernel_rfl
theorem enA_one (c : Nat → Int) (a k : Int) (pa : Option Addr) (pn pc : Nat) (oa : Option Addr) (on oc : Nat) : (enA c (ndA a k (.slice pa pn pc) (.slice oa on oc))).all (·.oneCell') = true := by
  rw [Array.all_eq_true_iff_forall_mem]
  intro v hv
  simp only [enA, enL, List.mem_toArray, List.mem_append] at hv
  rcases hv with h | h
  · rw [hl_bytesA] at h; exact bv_one _ v h
  · exact Array.all_eq_true_iff_forall_mem.1 (nd_one a k pa pn pc oa on oc) v (by simpa using h)
theorem en_range {w : World} {g : Nat} {T : TypeId} {c : Nat → Int} {N : Array Value} (h : Blk w g T (enA c N)) : w.rangeAt g 0 (bytesA 32 c).toList ∧ w.rangeAt g 32 N.toList := by
  have hr := blk_range h
  constructor
  · intro j v hv
    refine hr j v ?_
    show (enL c N)[j]? = some v
    unfold enL
    rw [List.getElem?_append_left (List.getElem?_eq_some_iff.1 hv).1]
    exact hv
  · intro j v hv
    have := hr (32 + j) v (by
      show (enL c N)[32 + j]? = some v
      unfold enL
      rw [List.getElem?_append_right (by simp [bytesA_size])]
      simpa [bytesA_size] using hv)
    rwa [Nat.zero_add] at this
theorem nd_back (a k : Int) (x y : Value) : (ndA a k x y).toList.toArray = ndA a k x y := rfl
theorem eqlA (c : Nat → Int) (w : World) : (binOp .eql 40 (.agg (bytesA 32 c)) (.agg (bytesA 32 c))).run Try.prog w = .ok (.bool true) w := by
  have e : bytesA 32 c = bytesA 32 (hof (hl 32 c)) := bytesA_congr fun i hi => by rw [hof, hl_get _ _ _ hi]
  rw [e, run_eqlH, nd_refl]
theorem run_bldEn (c : Nat → Int) (a k : Int) (x y : Value) (w : World) : (Next.value <$> Instr.build 42 #[(0, .agg (bytesA 32 c)), (1, .agg (ndA a k x y))]).run Try.prog w = .ok (.value (.agg (enA c (ndA a k x y)))) w := by kernel_rfl
theorem zEn_size : zEn.size = 36 := enA_size _ _ _ _ _
theorem yieldsIf_bld {P : Program} {ops : Array Oper} {S : World → Prop} {op : Oper} {a : Act} (hw : Region.wanted op (yielded ops a.tmps) = true) (t : TypeId) (parts : Array (Nat × Operand)) (ho : op.op = .build t parts)
    (vs : Array (Nat × Value)) (hv : (parts.map fun (i, x) => (i, a.eval x)) = vs) (v : Value) (hr : ∀ w : World, (Next.value <$> Instr.build t vs).run P w = .ok (.value v) w) : YieldsIf P ops S op v a :=
  .inl ⟨hw, fun w _ => by unfold execOp; simp only [ho, hv]; exact hr w⟩
theorem yieldsIf_loadA {P : Program} {ops : Array Oper} {S : World → Prop} {op : Oper} {a : Act} (hw : Region.wanted op (yielded ops a.tmps) = true) (ty : TypeId) (x : Operand) (ho : op.op = .load ty x)
    (b o : Nat) (hx : a.eval x = .pointer (some ⟨b, o, none⟩)) (cs : Array Value) (d : TypeDesc) (hS : ∀ w, S w → w.rangeAt b o cs.toList)
    (hu : P.underlying ty = some d) (hd : d.isRow = true) (hi : (P.info? ty).map (·.size) = some cs.size) : YieldsIf P ops S op (.agg cs) a := by
  have := yieldsIf_load_mid (P := P) (S := S) hw ty x ho b o hx cs.toList d hS hu hd (by rw [Array.length_toList]; exact hi)
  rwa [Array.toArray_toList] at this
theorem yieldsIf_run {P : Program} {ops : Array Oper} {S : World → Prop} {op : Oper} {a : Act} (hw : Region.wanted op (yielded ops a.tmps) = true) (b : BinOp) (t u : TypeId) (x y : Operand) (ho : op.op = .binOp b t x y u) (vx vy v : Value) (hx : a.eval x = vx) (hy : a.eval y = vy)
    (hg : ∀ w : World, ∃ u, (eqGuard b t x y vx vy).run P w = .ok u w) (hr : ∀ w : World, (binOp b t vx vy).run P w = .ok v w) : YieldsIf P ops S op v a :=
  .inl ⟨hw, fun w _ => by obtain ⟨u, hu⟩ := hg w; unfold execOp; simp only [ho, hx, hy, Sem.run_bind, hu, hr w, Result.andThen_ok]; rfl⟩
def veL (c : Nat → Int) (k : Int) (v : Value) : List Value := (bytesA 32 c).toList ++ [.int .i64 k, v]
def veA (c : Nat → Int) (k : Int) (v : Value) : Array Value := (veL c k v).toArray
def zVe : Array Value := veA (fun _ => 0) 0 noS
theorem veA_size (c : Nat → Int) (k : Int) (v : Value) : (veA c k v).size = 34 := by simp [veA, veL, bytesA_size]
theorem Try.size56 : (Try.prog.info? 56).map (·.size) = some 34 := by kernel_rfl
theorem Try.new56 (w : World) : (Instr.alloc 56 true (.tuple #[])).run Try.prog w = .ok (.pointer (some ⟨w.heap.size, 0, none⟩)) (w.alloc (.cells zVe 56)) := by kernel_rfl
theorem ve_built (c : Nat → Int) (k : Int) (a : Option Addr) (n m : Nat) : Try.prog.built 56 [(0, .agg (bytesA 32 c)), (1, .int .i64 k), (2, .slice a n m)] = some (veA c k (.slice a n m)) := by kernel_rfl
theorem veA_one (c : Nat → Int) (k : Int) (a : Option Addr) (n m : Nat) : (veA c k (.slice a n m)).all (·.oneCell') = true := by
  rw [Array.all_eq_true_iff_forall_mem]
  intro v hv
  simp only [veA, veL, List.mem_toArray, List.mem_append, List.mem_cons, List.not_mem_nil, or_false] at hv
  rcases hv with h | rfl | rfl
  · rw [hl_bytesA] at h; exact bv_one _ v h
  · rfl
  · rfl
theorem ve_range {w : World} {g : Nat} {T : TypeId} {c : Nat → Int} {k : Int} {x : Value} (h : Blk w g T (veA c k x)) : w.rangeAt g 0 (bytesA 32 c).toList ∧ w.cell? ⟨g, 32, none⟩ = some (.int .i64 k) ∧ w.cell? ⟨g, 33, none⟩ = some x := by
  have hr := blk_range h
  refine ⟨fun j v hv => hr j v ?_, ?_, ?_⟩
  · show (veL c k x)[j]? = some v
    unfold veL
    rw [List.getElem?_append_left (List.getElem?_eq_some_iff.1 hv).1]
    exact hv
  · have := hr 32 (.int .i64 k) (by show (veL c k x)[32]? = _; unfold veL; rw [List.getElem?_append_right (by simp [bytesA_size])]; simp [bytesA_size])
    rwa [Nat.zero_add] at this
  · have := hr 33 x (by show (veL c k x)[33]? = _; unfold veL; rw [List.getElem?_append_right (by simp [bytesA_size])]; simp [bytesA_size])
    rwa [Nat.zero_add] at this
theorem en_cells {w : World} {g : Nat} {T : TypeId} {c : Nat → Int} {a k : Int} {x y : Value} (h : Blk w g T (enA c (ndA a k x y))) : w.cell? ⟨g, 33, none⟩ = some (.int .i64 k) ∧ w.cell? ⟨g, 34, none⟩ = some x := by
  have hr := (en_range h).2
  exact ⟨hr 1 _ rfl, hr 2 _ rfl⟩
theorem run_makeH (n : Nat) (hn : n ≤ 4398046511104) (w : World) : (Instr.makeSlice 24 (.int .i64 (n : Int)) (.int .i64 (n : Int))).run Try.prog w = .ok (.slice (some ⟨w.heap.size, 0, none⟩) n n) (w.alloc (.cells (madeCells (bytesA 32 fun _ => 0) (n * 32)) 40)) := by
  obtain ⟨i, hi, hzz⟩ := Option.map_eq_some_iff.1 Try.infoH
  simp only [Prod.mk.injEq] at hzz
  obtain ⟨hz, hs, hb⟩ := hzz
  have hr := run_make (P := Try.prog) w 24 40 i _ Try.underlying24 hi hz .i64 .i64 (n : Int) (n : Int) (by omega) (by omega) (by rw [hb]; omega) (by omega)
  simp only [Int.toNat_natCast, hs, Value.cells] at hr
  exact hr
theorem run_copyH (w : World) (g cap : Nat) (v : Value) (D : List Hs) (ty : TypeId) (cur : Array Value) (hg : Blk w g 40 cur) (hs : cur.size = D.length * 32) (hr : Sh.HRow w v D) :
    (Builtin.copy_ #[24, 24] ty #[.slice (some ⟨g, 0, none⟩) D.length cap, v]).run Try.prog w = .ok (goInt D.length) (w.setRow g (Sh.flatH D).toArray) := by
  have hst := run_storeCells_at Try.prog g 0 40 (Sh.flatH D) 0 cur w hg (by rw [Sh.flatH_len]; omega) (Sh.flatH_one D)
  have hcur : (cur.toList.take (0 + 0) ++ Sh.flatH D ++ cur.toList.drop (0 + 0 + (Sh.flatH D).length)).toArray = (Sh.flatH D).toArray := by
    rw [Sh.flatH_len, List.drop_of_length_le (by rw [Array.length_toList]; omega)]; simp
  rw [hcur] at hst
  obtain ⟨i, hi, hsz⟩ := Option.map_eq_some_iff.1 Try.size40
  rcases hr with ⟨a, c, rfl, rfl, hac⟩ | ⟨b, off, cap2, rfl, _, hc⟩
  · rw [Sh.flatH_nil] at hst
    rw [Sh.flatH_nil]
    cases a with
    | none => simp [Builtin.copy_, run_underlying Try.underlying24, Builtin.lenOf, Builtin.firstCells, sizeOf, typeInfo, hi, hst]
    | some ad => simp [Builtin.copy_, run_underlying Try.underlying24, Builtin.lenOf, Builtin.firstCells, sizeOf, typeInfo, hi, loadCells, loadCellsFrom, hst]
  · have hl := run_loadCells_list (P := Try.prog) w ⟨b, off, none⟩ (Sh.flatH D) (fun j v hv => by rw [Addr.add_mid]; exact hc j v hv)
    rw [Sh.flatH_len] at hl
    simp [Builtin.copy_, run_underlying Try.underlying24, Builtin.lenOf, Builtin.firstCells, sizeOf, typeInfo, hi, hsz, hl, hst]
theorem WL.makeH {ops : Array Oper} {rest : List Oper} {o : Oper} {a : Act} {w : World} {Q : Exit → Act → World → Prop} (hw : Region.wanted o (yielded ops a.tmps) = true) (x y : Operand) (ho : o.op = .makeSlice 24 x y) (n : Nat) (hn : n ≤ 4398046511104)
    (hx : a.eval x = .int .i64 (n : Int)) (hy : a.eval y = .int .i64 (n : Int))
    (h : WL Try.prog ops Q rest (a.put o.dst (.slice (some ⟨w.heap.size, 0, none⟩) n n)) (w.alloc (.cells (madeCells (bytesA 32 fun _ => 0) (n * 32)) 40))) : WL Try.prog ops Q (o :: rest) a w :=
  ⟨wpList_wanted hw fun K hK => by
    unfold Oper.wp
    simp only [execOp, ho, hx, hy, Sem.run_bind, run_makeH n hn w, Result.andThen_ok]
    exact hK _ _ h.out⟩
theorem WL.copyH {ops : Array Oper} {rest : List Oper} {o : Oper} {a : Act} {w : World} {Q : Exit → Act → World → Prop} (hw : Region.wanted o (yielded ops a.tmps) = true) (d s : Operand)
    (ho : o.op = .call { callee := .builtin .copy, args := #[d, s], argTypes := #[24, 24] }) (g cap : Nat) (v : Value) (D : List Hs) (cur : Array Value)
    (hd : a.eval d = .slice (some ⟨g, 0, none⟩) D.length cap) (hs : a.eval s = v) (hg : Blk w g 40 cur) (hsz : cur.size = D.length * 32) (hr : Sh.HRow w v D)
    (h : WL Try.prog ops Q rest (a.put o.dst (goInt D.length)) (w.setRow g (Sh.flatH D).toArray)) : WL Try.prog ops Q (o :: rest) a w :=
  ⟨wpList_wanted hw fun K hK => by
    have hrun := run_copyH w g cap v D o.type cur hg hsz hr
    unfold Oper.wp
    simp only [execOp, ho, resolve, invoke, builtin, List.map_toArray, List.map_cons, List.map_nil, hd, hs, Sem.run_bind, Sem.run_pure, hrun, Result.andThen_ok]
    exact hK _ _ h.out⟩
theorem made_size (n : Nat) : (madeCells (bytesA 32 fun _ => 0) (n * 32)).size = n * 32 := by simp [madeCells]
theorem hrow_blk {w : World} {g : Nat} {D : List Hs} {n : Nat} (hn : n = D.length) (h : Blk w g 40 (Sh.flatH D).toArray) : Sh.HRow w (.slice (some ⟨g, 0, none⟩) n n) D := by
  subst hn
  refine .inr ⟨g, 0, D.length, rfl, Nat.le_refl _, fun j v hv => ?_⟩
  rw [Nat.zero_add, h.cell, List.getElem?_toArray]
  exact hv
theorem Try.in23 (w : World) (vs : Array Value) : (callFunc 23 vs).run Try.prog w = .ok (.enter 23 vs) w := by kernel_rfl
theorem Try.in24 (w : World) (vs : Array Value) : (callFunc 24 vs).run Try.prog w = .ok (.enter 24 vs) w := by kernel_rfl
theorem Try.in8 (w : World) (vs : Array Value) : (callFunc 8 vs).run Try.prog w = .ok (.enter 8 vs) w := by kernel_rfl
set_option maxRecDepth 8000 in
set_option maxHeartbeats 2000000 in
theorem vertex_any (c : Nat → Int) (A : NodeV) (vp vo : Value) (w : World) (hA : NdAt w A vp vo) : Calls Try.prog 23 #[.agg (enA c (ndA A.au A.ck vp vo))] w fun e w' => ∃ g, e = .returned (.agg (veA c A.ck (.slice (some ⟨g, 0, none⟩) A.ps.length A.ps.length))) ∧ w.heap.size ≤ g ∧ Blk w' g 40 (Sh.flatH A.ps).toArray ∧ Below w.heap.size w w' := by
  obtain ⟨pa, pc, rfl⟩ := hA.ps.form
  obtain ⟨oa, oc, rfl⟩ := hA.ops.form
  have HA := Keep.mk hA
  obtain ⟨EN, hEN⟩ : ∃ EN, EN = enA c (ndA A.au A.ck (.slice pa A.ps.length pc) (.slice oa A.ops.length oc)) := ⟨_, rfl⟩
  have HEc : Keep (∀ (wx : World) (gx : Nat), Blk wx gx 42 EN → wx.cell? ⟨gx, 33, none⟩ = some (.int .i64 A.ck) ∧ wx.cell? ⟨gx, 34, none⟩ = some (.slice pa A.ps.length pc)) := ⟨fun wx gx h => by rw [hEN] at h; exact en_cells h⟩
  have HEr : Keep (∀ (wx : World) (gx : Nat), Blk wx gx 42 EN → wx.rangeAt gx 0 (bytesA 32 c).toList) := ⟨fun wx gx h => by rw [hEN] at h; exact (en_range h).1⟩
  rw [← hEN]
  clear hA hEN
  go_enter Try.func23, Try.ntmps23
  refine wp_seq_k fun K1 hK1 => ?_
  refine wp_region_list (WL.out ?_)
  refine WL.box (by kernel_rfl) 42 (.tmp 0) rfl _ rfl ?_
  have HX1 := Keep.mk (Blk.new w 42 EN)
  have B1 := Keep.mk (below_new w (.cells EN 42))
  generalize w.alloc (.cells EN 42) = w1 at *
  have Hg : Keep (w.heap.size < w1.heap.size) := ⟨HX1.out.lt⟩
  simp only [Act.put, List.setIfInBounds_toArray, List.set_cons_zero, List.set_cons_succ]
  refine WL.new (by kernel_rfl) 56 rfl _ Try.new56 ?_
  have HX2 := Keep.mk (HX1.out.alloc (.cells zVe 56))
  have HV2 := Keep.mk (Blk.new w1 56 zVe)
  have B2 : Keep (Below w.heap.size w (w1.alloc (.cells zVe 56))) := ⟨B1.out.trans ((below_new w1 _).mono B1.out.size)⟩
  generalize w1.alloc (.cells zVe 56) = w2 at *
  generalize w1.heap.size = gv at *
  have ⟨e33, e34⟩ := HEc.out _ _ HX2.out
  simp only [Act.put, List.setIfInBounds_toArray, List.set_cons_zero, List.set_cons_succ]
  refine WL.nil ?_
  refine hK1 _ _ ?_
  refine wp_seq_k fun K2 hK2 => ?_
  refine wp_region_list (WL.out ?_)
  refine WL.val (by kernel_rfl) (.pointer (some ⟨w.heap.size, 32, none⟩)) (by go_simp) ?_
  simp only [Act.put, List.setIfInBounds_toArray, List.set_cons_zero, List.set_cons_succ]
  refine WL.val (by kernel_rfl) (.pointer (some ⟨w.heap.size, 34, none⟩)) (by go_simp) ?_
  simp only [Act.put, List.setIfInBounds_toArray, List.set_cons_zero, List.set_cons_succ]
  refine WL.val (by kernel_rfl) (.slice pa A.ps.length pc) (by go_simp) ?_
  simp only [Act.put, List.setIfInBounds_toArray, List.set_cons_zero, List.set_cons_succ]
  refine WL.val (by kernel_rfl) (.int .i64 (A.ps.length : Int)) (by go_simp) ?_
  simp only [Act.put, List.setIfInBounds_toArray, List.set_cons_zero, List.set_cons_succ]
  refine WL.makeH (by kernel_rfl) (.tmp 7) (.tmp 7) rfl A.ps.length HA.out.lp rfl rfl ?_
  have HM3 := Keep.mk (Blk.new w2 40 (madeCells (bytesA 32 fun _ => 0) (A.ps.length * 32)))
  have BS3 : Keep (Below w2.heap.size w2 (w2.alloc (.cells (madeCells (bytesA 32 fun _ => 0) (A.ps.length * 32)) 40))) := ⟨below_new w2 _⟩
  generalize w2.alloc (.cells (madeCells (bytesA 32 fun _ => 0) (A.ps.length * 32)) 40) = w3 at *
  have B3 : Keep (Below w.heap.size w w3) := ⟨B2.out.trans (BS3.out.mono B2.out.size)⟩
  have HX3 := Keep.mk (HX2.out.below BS3.out HX2.out.lt)
  have HV3 := Keep.mk (HV2.out.below BS3.out HV2.out.lt)
  have Hn : Keep (gv < w2.heap.size) := ⟨HV2.out.lt⟩
  clear e33 e34
  have ⟨e33, e34⟩ := HEc.out _ _ HX3.out
  generalize w2.heap.size = gn at *
  simp only [Act.put, List.setIfInBounds_toArray, List.set_cons_zero, List.set_cons_succ]
  refine WL.val (by kernel_rfl) (.slice (some ⟨gn, 0, none⟩) A.ps.length A.ps.length) (by go_simp) ?_
  simp only [Act.put, List.setIfInBounds_toArray, List.set_cons_zero, List.set_cons_succ]
  refine WL.nil ?_
  refine hK2 _ _ ?_
  refine wp_seq_k fun K3 hK3 => ?_
  refine wp_region_list (WL.out ?_)
  refine WL.val (by kernel_rfl) (.slice (some ⟨gn, 0, none⟩) A.ps.length A.ps.length) (by go_simp) ?_
  simp only [Act.put, List.setIfInBounds_toArray, List.set_cons_zero, List.set_cons_succ]
  refine WL.val (by kernel_rfl) (.pointer (some ⟨w.heap.size, 32, none⟩)) (by go_simp) ?_
  simp only [Act.put, List.setIfInBounds_toArray, List.set_cons_zero, List.set_cons_succ]
  refine WL.val (by kernel_rfl) (.pointer (some ⟨w.heap.size, 34, none⟩)) (by go_simp) ?_
  simp only [Act.put, List.setIfInBounds_toArray, List.set_cons_zero, List.set_cons_succ]
  refine WL.val (by kernel_rfl) (.slice pa A.ps.length pc) (by go_simp) ?_
  simp only [Act.put, List.setIfInBounds_toArray, List.set_cons_zero, List.set_cons_succ]
  refine WL.copyH (by kernel_rfl) (.tmp 9) (.tmp 12) rfl gn A.ps.length (.slice pa A.ps.length pc) A.ps _ rfl rfl HM3.out (made_size _) (HA.out.ps.below B3.out) ?_
  have HM4 := Keep.mk (HM3.out.setRow (Sh.flatH A.ps).toArray)
  have HX4 := Keep.mk (HX3.out.setRow_ne (b' := gn) (by have := Hn.out; have := Hg.out; omega) (Sh.flatH A.ps).toArray)
  have HV4 := Keep.mk (HV3.out.setRow_ne (b' := gn) (by have := Hn.out; omega) (Sh.flatH A.ps).toArray)
  have B4 : Keep (Below w.heap.size w (w3.setRow gn (Sh.flatH A.ps).toArray)) := ⟨below_setRow B3.out (by have := Hn.out; have := Hg.out; omega) _⟩
  generalize w3.setRow gn (Sh.flatH A.ps).toArray = w4 at *
  clear e33 e34
  have ⟨e33, e34⟩ := HEc.out _ _ HX4.out
  have eh := HEr.out _ _ HX4.out
  simp only [Act.put, List.setIfInBounds_toArray, List.set_cons_zero, List.set_cons_succ]
  refine WL.nil ?_
  refine hK3 _ _ ?_
  refine wp_seq_k fun K4 hK4 => ?_
  refine wp_region_list (WL.out ?_)
  refine WL.val (by kernel_rfl) (.pointer (some ⟨w.heap.size, 0, none⟩)) (by go_simp) ?_
  simp only [Act.put, List.setIfInBounds_toArray, List.set_cons_zero, List.set_cons_succ]
  refine WL.mid (by kernel_rfl) 40 (.tmp 14) rfl w.heap.size 0 rfl (bytesA 32 c).toList _ eh Try.underlying40 rfl (by rw [Array.length_toList]; exact Try.size40B _) ?_
  rw [bytesA_list]
  simp only [Act.put, List.setIfInBounds_toArray, List.set_cons_zero, List.set_cons_succ]
  refine WL.val (by kernel_rfl) (.pointer (some ⟨w.heap.size, 32, none⟩)) (by go_simp) ?_
  simp only [Act.put, List.setIfInBounds_toArray, List.set_cons_zero, List.set_cons_succ]
  refine WL.val (by kernel_rfl) (.pointer (some ⟨w.heap.size, 33, none⟩)) (by go_simp) ?_
  simp only [Act.put, List.setIfInBounds_toArray, List.set_cons_zero, List.set_cons_succ]
  refine WL.val (by kernel_rfl) (.int .i64 A.ck) (by go_simp) ?_
  simp only [Act.put, List.setIfInBounds_toArray, List.set_cons_zero, List.set_cons_succ]
  refine WL.val (by kernel_rfl) (.slice (some ⟨gn, 0, none⟩) A.ps.length A.ps.length) (by go_simp) ?_
  simp only [Act.put, List.setIfInBounds_toArray, List.set_cons_zero, List.set_cons_succ]
  refine WL.bld (by kernel_rfl) 56 _ rfl [(0, .agg (bytesA 32 c)), (1, .int .i64 A.ck), (2, .slice (some ⟨gn, 0, none⟩) A.ps.length A.ps.length)] (by simp [Act.eval]) _ (ve_built c A.ck _ _ _) ?_
  obtain ⟨VE, hVE⟩ : ∃ VE, VE = veA c A.ck (.slice (some ⟨gn, 0, none⟩) A.ps.length A.ps.length) := ⟨_, rfl⟩
  have HVs : Keep (VE.size = 34) := ⟨by rw [hVE]; exact veA_size _ _ _⟩
  have HVo : Keep (VE.all (·.oneCell') = true) := ⟨by rw [hVE]; exact veA_one _ _ _ _ _⟩
  rw [← hVE]
  have HVe := Keep.mk hVE
  clear hVE
  simp only [Act.put, List.setIfInBounds_toArray, List.set_cons_zero, List.set_cons_succ]
  refine WL.storeR (by kernel_rfl) 56 (.tmp 2) (.tmp 20) rfl gv VE rfl rfl 56 zVe HV4.out (by rw [HVs.out]; exact Try.size56) ((veA_size _ _ _).trans HVs.out.symm) HVo.out ?_
  have HV5 := Keep.mk (HV4.out.setRow VE)
  have HM5 := Keep.mk (HM4.out.setRow_ne (b' := gv) (by have := Hn.out; omega) VE)
  have B5 : Keep (Below w.heap.size w (w4.setRow gv VE)) := ⟨below_setRow B4.out (by have := Hg.out; omega) _⟩
  generalize w4.setRow gv VE = w5 at *
  simp only [Act.put]
  refine WL.nil ?_
  refine hK4 _ _ ?_
  refine wp_ret ?_
  try simp only [Exit.then]
  refine bodyPost_ret (v := .agg VE) (results_cell_row Try.results23 _ _ gv 56 _ (0, 0) _ rfl HV5.out Try.underlying56 rfl (by rw [HVs.out]; exact Try.size56)) rfl ?_
  exact ⟨gn, by rw [HVe.out], by have := Hn.out; have := Hg.out; omega, HM5.out, B5.out⟩
set_option maxRecDepth 8000 in
set_option maxHeartbeats 4000000 in
theorem sames_any (c d : Nat → Int) (A B : NodeV) (vp vo vq vr : Value) (w : World) (hA : NdAt w A vp vo) (hB : NdAt w B vq vr) : Calls Try.prog 8 #[.agg (enA c (ndA A.au A.ck vp vo)), .agg (enA d (ndA B.au B.ck vq vr))] w fun e w' => e = .returned (.bool true) ∧ Below w.heap.size w w' := by
  obtain ⟨pa, pc, rfl⟩ := hA.ps.form
  obtain ⟨oa, oc, rfl⟩ := hA.ops.form
  obtain ⟨pb, pd, rfl⟩ := hB.ps.form
  obtain ⟨ob, od, rfl⟩ := hB.ops.form
  have HA := Keep.mk hA
  have HB := Keep.mk hB
  have HVx0 := Keep.mk (fun (w : World) (h : NdAt w A (.slice pa A.ps.length pc) (.slice oa A.ops.length oc)) => vertex_any c A _ _ w h)
  obtain ⟨EA, hEA⟩ : ∃ EA, EA = enA c (ndA A.au A.ck (.slice pa A.ps.length pc) (.slice oa A.ops.length oc)) := ⟨_, rfl⟩
  obtain ⟨EB, hEB⟩ : ∃ EB, EB = enA d (ndA B.au B.ck (.slice pb B.ps.length pd) (.slice ob B.ops.length od)) := ⟨_, rfl⟩
  have HEs : Keep (EA.size = 36) := ⟨by rw [hEA]; exact enA_size _ _ _ _ _⟩
  have HEr : Keep (∀ (wx : World) (gx : Nat), Blk wx gx 42 EA → wx.rangeAt gx 0 (bytesA 32 c).toList ∧ wx.rangeAt gx 32 (ndA A.au A.ck (.slice pa A.ps.length pc) (.slice oa A.ops.length oc)).toList ∧ wx.cell? ⟨gx, 33, none⟩ = some (.int .i64 A.ck) ∧ wx.cell? ⟨gx, 34, none⟩ = some (.slice pa A.ps.length pc)) := ⟨fun wx gx h => by rw [hEA] at h; exact ⟨(en_range h).1, (en_range h).2, en_cells h⟩⟩
  have HFr : Keep (∀ (wx : World) (gx : Nat), Blk wx gx 42 EB → wx.rangeAt gx 32 (ndA B.au B.ck (.slice pb B.ps.length pd) (.slice ob B.ops.length od)).toList) := ⟨fun wx gx h => by rw [hEB] at h; exact (en_range h).2⟩
  have HVx : Keep (∀ w : World, NdAt w A (.slice pa A.ps.length pc) (.slice oa A.ops.length oc) → Calls Try.prog 23 #[.agg EA] w fun e w' => ∃ g, e = .returned (.agg (veA c A.ck (.slice (some ⟨g, 0, none⟩) A.ps.length A.ps.length))) ∧ w.heap.size ≤ g ∧ Blk w' g 40 (Sh.flatH A.ps).toArray ∧ Below w.heap.size w w') := ⟨fun w h => by rw [hEA]; exact HVx0.out w h⟩
  rw [← hEA, ← hEB]
  clear hA hB hEA hEB HVx0
  go_enter Try.func8, Try.ntmps8
  refine wp_seq_k fun K1 hK1 => ?_
  refine wp_region_list (WL.out ?_)
  refine WL.box (by kernel_rfl) 42 (.tmp 0) rfl _ rfl ?_
  have HX0 := Keep.mk (Blk.new w 42 EA)
  have B0 := Keep.mk (below_new w (.cells EA 42))
  generalize w.alloc (.cells EA 42) = w1 at *
  have B0x : Keep (w.heap.size ≤ w1.heap.size) := ⟨B0.out.size⟩
  generalize hgg : w.heap.size = g at *
  simp only [Act.put, List.setIfInBounds_toArray, List.set_cons_zero, List.set_cons_succ]
  refine WL.box (by kernel_rfl) 42 (.tmp 1) rfl _ rfl ?_
  have HXa := Keep.mk (HX0.out.alloc (.cells EB 42))
  have HXb := Keep.mk (Blk.new w1 42 EB)
  have B2 : Keep (Below g w (w1.alloc (.cells EB 42))) := ⟨B0.out.trans ((below_new w1 _).mono B0x.out)⟩
  generalize w1.alloc (.cells EB 42) = w2 at *
  have HA2 := Keep.mk (HA.out.below (by rw [hgg]; exact B2.out))
  have HB2 := Keep.mk (HB.out.below (by rw [hgg]; exact B2.out))
  have B2x : Keep (g ≤ w2.heap.size) := ⟨by have := B2.out.size; omega⟩
  generalize w1.heap.size = k at *
  simp only [Act.put, List.setIfInBounds_toArray, List.set_cons_zero, List.set_cons_succ]
  refine WL.val (by kernel_rfl) (.bool false) (by go_simp) ?_
  simp only [Act.put, List.setIfInBounds_toArray, List.set_cons_zero, List.set_cons_succ]
  refine WL.nil ?_
  refine hK1 _ _ ?_
  refine wp_seq_k fun K2 hK2 => ?_
  refine wp_seq_k fun K3 hK3 => ?_
  refine wp_region_list (WL.out ?_)
  refine WL.callF (by kernel_rfl) 9 _ _ rfl Try.in9 #[] (by simp) ?_
  refine (awake_any w2).mono ?_
  rintro e w3 ⟨rfl, hb3⟩
  refine ⟨_, rfl, ?_⟩
  have B3 := Keep.mk hb3
  have HX3 := Keep.mk (HXa.out.below hb3 HXa.out.lt)
  have HA3 := Keep.mk (HA2.out.below hb3)
  clear hb3
  simp only [Act.put, List.setIfInBounds_toArray, List.set_cons_zero, List.set_cons_succ]
  refine WL.val (by kernel_rfl) (.bool false) (by go_simp) ?_
  simp only [Act.put, List.setIfInBounds_toArray, List.set_cons_zero, List.set_cons_succ]
  refine WL.nil ?_
  refine hK3 _ _ ?_
  refine wp_cond_false rfl ?_
  refine wp_skip ?_
  refine hK2 _ _ ?_
  refine wp_seq_k fun K4 hK4 => ?_
  refine wp_region_list (WL.out ?_)
  refine WL.row (by kernel_rfl) 42 (.tmp 2) rfl g rfl 42 EA _ HX3.out Try.underlying42 rfl (by rw [HEs.out]; exact Try.size42) ?_
  simp only [Act.put, List.setIfInBounds_toArray, List.set_cons_zero, List.set_cons_succ]
  refine WL.callF (by kernel_rfl) 23 _ _ rfl Try.in23 #[.agg EA] (by simp [Act.eval]) ?_
  refine (HVx.out w3 HA3.out).mono ?_
  rintro e w4 ⟨gn, rfl, hgn, hbn, hb4⟩
  refine ⟨_, rfl, ?_⟩
  obtain ⟨VE, hVE⟩ : ∃ VE, VE = veA c A.ck (.slice (some ⟨gn, 0, none⟩) A.ps.length A.ps.length) := ⟨_, rfl⟩
  have HVs : Keep (VE.size = 34) := ⟨by rw [hVE]; exact veA_size _ _ _⟩
  have HVo : Keep (VE.all (·.oneCell') = true) := ⟨by rw [hVE]; exact veA_one _ _ _ _ _⟩
  have HVr : Keep (∀ (wx : World) (gx : Nat), Blk wx gx 56 VE → wx.rangeAt gx 0 (bytesA 32 c).toList ∧ wx.cell? ⟨gx, 32, none⟩ = some (.int .i64 A.ck) ∧ wx.cell? ⟨gx, 33, none⟩ = some (.slice (some ⟨gn, 0, none⟩) A.ps.length A.ps.length)) := ⟨fun wx gx h => by rw [hVE] at h; exact ve_range h⟩
  rw [← hVE]
  have HP4 := Keep.mk (hrow_blk rfl hbn)
  have B4 : Keep (Below w2.heap.size w2 w4) := ⟨B3.out.trans (hb4.mono B3.out.size)⟩
  clear hVE hbn hb4 hgn
  simp only [Act.put, List.setIfInBounds_toArray, List.set_cons_zero, List.set_cons_succ]
  refine WL.new (by kernel_rfl) 56 rfl _ Try.new56 ?_
  simp only [Act.put, List.setIfInBounds_toArray, List.set_cons_zero, List.set_cons_succ]
  refine WL.storeR (by kernel_rfl) 56 (.tmp 5) (.tmp 9) rfl w4.heap.size VE rfl rfl 56 zVe (Blk.new w4 56 _) (by rw [HVs.out]; exact Try.size56) ((veA_size _ _ _).trans HVs.out.symm) HVo.out ?_
  have HV5 := Keep.mk ((Blk.new w4 56 zVe).setRow VE)
  have BS5 : Keep (Below w4.heap.size w4 ((w4.alloc (.cells zVe 56)).setRow w4.heap.size VE)) := ⟨below_setRow (below_new w4 _) (Nat.le_refl _) _⟩
  generalize (w4.alloc (.cells zVe 56)).setRow w4.heap.size VE = w5 at *
  have B5 : Keep (Below w2.heap.size w2 w5) := ⟨B4.out.trans (BS5.out.mono B4.out.size)⟩
  have HP5 := Keep.mk (HP4.out.below BS5.out)
  have HA5 := Keep.mk (HA2.out.below B5.out)
  have HB5 := Keep.mk (HB2.out.below B5.out)
  have HXa5 := Keep.mk (HXa.out.below B5.out HXa.out.lt)
  have HXb5 := Keep.mk (HXb.out.below B5.out HXb.out.lt)
  generalize w4.heap.size = gv at *
  simp only [Act.put]
  refine WL.nil ?_
  refine hK4 _ _ ?_
  refine wp_seq_k fun K5 hK5 => ?_
  have hD0 : Below w5.heap.size w5 w5.drew := (Below.refl _ _).drew
  obtain ⟨sb, hsb⟩ : ∃ sb, sameN A B = sb := ⟨_, rfl⟩
  have Hsb := Keep.mk hsb
  clear hsb
  have HS0 : Keep (∀ wx, Below w5.heap.size w5 wx → (wx.rangeAt g 0 (bytesA 32 c).toList ∧ wx.rangeAt g 32 (ndA A.au A.ck (.slice pa A.ps.length pc) (.slice oa A.ops.length oc)).toList ∧ wx.rangeAt k 32 (ndA B.au B.ck (.slice pb B.ps.length pd) (.slice ob B.ops.length od)).toList ∧ wx.rangeAt gv 0 (bytesA 32 c).toList) ∧ (wx.cell? ⟨gv, 32, none⟩ = some (.int .i64 A.ck) ∧ wx.cell? ⟨gv, 33, none⟩ = some (.slice (some ⟨gn, 0, none⟩) A.ps.length A.ps.length) ∧ wx.cell? ⟨g, 33, none⟩ = some (.int .i64 A.ck) ∧ wx.cell? ⟨g, 34, none⟩ = some (.slice pa A.ps.length pc))) := ⟨fun wx hb => ⟨⟨(HEr.out wx g (HXa5.out.below hb HXa5.out.lt)).1, (HEr.out wx g (HXa5.out.below hb HXa5.out.lt)).2.1, HFr.out wx k (HXb5.out.below hb HXb5.out.lt), (HVr.out wx gv (HV5.out.below hb HV5.out.lt)).1⟩, (HVr.out wx gv (HV5.out.below hb HV5.out.lt)).2.1, (HVr.out wx gv (HV5.out.below hb HV5.out.lt)).2.2, (HEr.out wx g (HXa5.out.below hb HXa5.out.lt)).2.2⟩⟩
  refine wp_region_held_drew (S := fun wx => (wx.rangeAt g 0 (bytesA 32 c).toList ∧ wx.rangeAt g 32 (ndA A.au A.ck (.slice pa A.ps.length pc) (.slice oa A.ops.length oc)).toList ∧ wx.rangeAt k 32 (ndA B.au B.ck (.slice pb B.ps.length pd) (.slice ob B.ops.length od)).toList ∧ wx.rangeAt gv 0 (bytesA 32 c).toList) ∧ (wx.cell? ⟨gv, 32, none⟩ = some (.int .i64 A.ck) ∧ wx.cell? ⟨gv, 33, none⟩ = some (.slice (some ⟨gn, 0, none⟩) A.ps.length A.ps.length) ∧ wx.cell? ⟨g, 33, none⟩ = some (.int .i64 A.ck) ∧ wx.cell? ⟨g, 34, none⟩ = some (.slice pa A.ps.length pc))) (by kernel_rfl) (HS0.out _ hD0) (fun hHeld => ?_)
  refine wpAnyH_take (i := 0) (oi := ⟨some 10, Op.fieldAddr 42 (Operand.tmp 2) 1, 0, _, _, none⟩) (v := .pointer (some ⟨g, 32, none⟩)) rfl (by kernel_rfl) (by kernel_rfl) (by kernel_rfl) (fun _ _ _ h => h) (Or.inl ⟨by rfl, fun w hS => by clear hS; go_simp⟩) hHeld ?_
  simp only [Act.put, List.setIfInBounds_toArray, List.set_cons_zero, List.set_cons_succ]
  refine wpAnyH_take (i := 1) (oi := ⟨some 11, Op.load 27 (Operand.tmp 10), 27, _, _, none⟩) (v := .agg (ndA A.au A.ck (.slice pa A.ps.length pc) (.slice oa A.ops.length oc))) rfl (by kernel_rfl) (by kernel_rfl) (by kernel_rfl) (fun _ _ _ h => h) (yieldsIf_loadA (by rfl) 27 (Operand.tmp 10) rfl g 32 rfl (ndA A.au A.ck (.slice pa A.ps.length pc) (.slice oa A.ops.length oc)) _ (fun w hS => hS.1.2.1) Try.underlying27 rfl (Try.size27B _ _ _ _)) hHeld ?_
  simp only [Act.put, List.setIfInBounds_toArray, List.set_cons_zero, List.set_cons_succ]
  refine wpAnyH_take (i := 2) (oi := ⟨some 12, Op.fieldAddr 42 (Operand.tmp 3) 1, 0, _, _, none⟩) (v := .pointer (some ⟨k, 32, none⟩)) rfl (by kernel_rfl) (by kernel_rfl) (by kernel_rfl) (fun _ _ _ h => h) (Or.inl ⟨by rfl, fun w hS => by clear hS; go_simp⟩) hHeld ?_
  simp only [Act.put, List.setIfInBounds_toArray, List.set_cons_zero, List.set_cons_succ]
  refine wpAnyH_take (i := 3) (oi := ⟨some 13, Op.load 27 (Operand.tmp 12), 27, _, _, none⟩) (v := .agg (ndA B.au B.ck (.slice pb B.ps.length pd) (.slice ob B.ops.length od))) rfl (by kernel_rfl) (by kernel_rfl) (by kernel_rfl) (fun _ _ _ h => h) (yieldsIf_loadA (by rfl) 27 (Operand.tmp 12) rfl k 32 rfl (ndA B.au B.ck (.slice pb B.ps.length pd) (.slice ob B.ops.length od)) _ (fun w hS => hS.1.2.2.1) Try.underlying27 rfl (Try.size27B _ _ _ _)) hHeld ?_
  simp only [Act.put, List.setIfInBounds_toArray, List.set_cons_zero, List.set_cons_succ]
  refine wpAnyH_take (i := 5) (oi := ⟨some 15, Op.fieldAddr 42 (Operand.tmp 2) 1, 0, _, _, none⟩) (v := .pointer (some ⟨g, 32, none⟩)) rfl (by kernel_rfl) (by kernel_rfl) (by kernel_rfl) (fun _ _ _ h => h) (Or.inl ⟨by rfl, fun w hS => by clear hS; go_simp⟩) hHeld ?_
  simp only [Act.put, List.setIfInBounds_toArray, List.set_cons_zero, List.set_cons_succ]
  refine wpAnyH_take (i := 6) (oi := ⟨some 16, Op.load 27 (Operand.tmp 15), 27, _, _, none⟩) (v := .agg (ndA A.au A.ck (.slice pa A.ps.length pc) (.slice oa A.ops.length oc))) rfl (by kernel_rfl) (by kernel_rfl) (by kernel_rfl) (fun _ _ _ h => h) (yieldsIf_loadA (by rfl) 27 (Operand.tmp 15) rfl g 32 rfl (ndA A.au A.ck (.slice pa A.ps.length pc) (.slice oa A.ops.length oc)) _ (fun w hS => hS.1.2.1) Try.underlying27 rfl (Try.size27B _ _ _ _)) hHeld ?_
  simp only [Act.put, List.setIfInBounds_toArray, List.set_cons_zero, List.set_cons_succ]
  refine wpAnyH_take (i := 7) (oi := ⟨some 17, Op.fieldAddr 42 (Operand.tmp 3) 1, 0, _, _, none⟩) (v := .pointer (some ⟨k, 32, none⟩)) rfl (by kernel_rfl) (by kernel_rfl) (by kernel_rfl) (fun _ _ _ h => h) (Or.inl ⟨by rfl, fun w hS => by clear hS; go_simp⟩) hHeld ?_
  simp only [Act.put, List.setIfInBounds_toArray, List.set_cons_zero, List.set_cons_succ]
  refine wpAnyH_take (i := 8) (oi := ⟨some 18, Op.load 27 (Operand.tmp 17), 27, _, _, none⟩) (v := .agg (ndA B.au B.ck (.slice pb B.ps.length pd) (.slice ob B.ops.length od))) rfl (by kernel_rfl) (by kernel_rfl) (by kernel_rfl) (fun _ _ _ h => h) (yieldsIf_loadA (by rfl) 27 (Operand.tmp 17) rfl k 32 rfl (ndA B.au B.ck (.slice pb B.ps.length pd) (.slice ob B.ops.length od)) _ (fun w hS => hS.1.2.2.1) Try.underlying27 rfl (Try.size27B _ _ _ _)) hHeld ?_
  simp only [Act.put, List.setIfInBounds_toArray, List.set_cons_zero, List.set_cons_succ]
  refine wpAnyH_ready (rs := [4]) (by kernel_rfl) (by simp) ?_
  refine AllReadyH.cons (o := ⟨some 14, Op.call { callee := Callee.value (Operand.func 20), args := #[Operand.tmp 11, Operand.tmp 13], argTypes := #[27, 27] }, 4, _, _, none⟩) rfl (fun K hK => ?_) AllReadyH.nil
  rw [if_pos (by rfl)]
  refine wp_callF 20 _ _ rfl Try.in20 #[.agg (ndA A.au A.ck (.slice pa A.ps.length pc) (.slice oa A.ops.length oc)), .agg (ndA B.au B.ck (.slice pb B.ps.length pd) (.slice ob B.ops.length od))] (by simp [Act.eval]) (fun vz wz => vz = .bool sb ∧ Below w5.heap.size w5 wz) ?_ ?_
  · refine (same_node A B _ _ _ _ w5.drew (HA5.out.below hD0) (HB5.out.below hD0)).mono ?_
    rintro e wz ⟨rfl, h⟩
    rw [Hsb.out]
    exact ⟨_, rfl, rfl, hD0.trans (h.mono hD0.size)⟩
  rintro vz x1 ⟨rfl, hx1⟩
  have HBx1 := Keep.mk hx1
  clear hx1
  refine hK.out _ _ (HS0.out _ HBx1.out) fun hHeldx1 => ?_
  clear hK
  simp only [Act.put, List.setIfInBounds_toArray, List.set_cons_zero, List.set_cons_succ]
  refine wpAnyH_ready (rs := [9]) (by kernel_rfl) (by simp) ?_
  refine AllReadyH.cons (o := ⟨some 19, Op.call { callee := Callee.value (Operand.func 18), args := #[Operand.tmp 16, Operand.tmp 18], argTypes := #[27, 27] }, 4, _, _, none⟩) rfl (fun K hK => ?_) AllReadyH.nil
  rw [if_pos (by rfl)]
  refine wp_callF 18 _ _ rfl Try.in18 #[.agg (ndA A.au A.ck (.slice pa A.ps.length pc) (.slice oa A.ops.length oc)), .agg (ndA B.au B.ck (.slice pb B.ps.length pd) (.slice ob B.ops.length od))] (by simp [Act.eval]) (fun vz wz => vz = .bool sb ∧ Below w5.heap.size w5 wz) ?_ ?_
  · refine (rsame_node A B _ _ _ _ x1 (HA5.out.below HBx1.out) (HB5.out.below HBx1.out)).mono ?_
    rintro e wz ⟨rfl, h⟩
    rw [Hsb.out]
    exact ⟨_, rfl, rfl, HBx1.out.trans (h.mono HBx1.out.size)⟩
  rintro vz x2 ⟨rfl, hx2⟩
  have HBx2 := Keep.mk hx2
  clear hx2
  refine hK.out _ _ (HS0.out _ HBx2.out) fun hHeldx2 => ?_
  clear hK
  simp only [Act.put, List.setIfInBounds_toArray, List.set_cons_zero, List.set_cons_succ]
  refine wpAnyH_take (i := 10) (oi := ⟨some 20, Op.binOp BinOp.eql 4 (Operand.tmp 14) (Operand.tmp 19) 4, 4, _, _, none⟩) (v := .bool true) rfl (by kernel_rfl) (by kernel_rfl) (by kernel_rfl) (fun _ _ _ h => h) (Or.inl ⟨by rfl, fun w hS => by clear hS; cases sb <;> go_simp⟩) hHeldx2 ?_
  simp only [Act.put, List.setIfInBounds_toArray, List.set_cons_zero, List.set_cons_succ]
  refine wpAnyH_take (i := 11) (oi := ⟨some 21, Op.move (Operand.tmp 20), 4, _, _, none⟩) (v := .bool true) rfl (by kernel_rfl) (by kernel_rfl) (by kernel_rfl) (fun _ _ _ h => h) (Or.inl ⟨by rfl, fun w hS => by obtain ⟨_, hs1, hs2, hs3, hs4⟩ := hS; go_simp⟩) hHeldx2 ?_
  simp only [Act.put, List.setIfInBounds_toArray, List.set_cons_zero, List.set_cons_succ]
  refine wpAnyH_take (i := 12) (oi := ⟨some 22, Op.fieldAddr 42 (Operand.tmp 3) 1, 0, _, _, some (11, true)⟩) (v := .pointer (some ⟨k, 32, none⟩)) rfl (by kernel_rfl) (by kernel_rfl) (by kernel_rfl) (fun _ _ _ h => h) (Or.inl ⟨by rfl, fun w hS => by clear hS; go_simp⟩) hHeldx2 ?_
  simp only [Act.put, List.setIfInBounds_toArray, List.set_cons_zero, List.set_cons_succ]
  refine wpAnyH_take (i := 13) (oi := ⟨some 23, Op.load 27 (Operand.tmp 22), 27, _, _, some (11, true)⟩) (v := .agg (ndA B.au B.ck (.slice pb B.ps.length pd) (.slice ob B.ops.length od))) rfl (by kernel_rfl) (by kernel_rfl) (by kernel_rfl) (fun _ _ _ h => h) (yieldsIf_loadA (by rfl) 27 (Operand.tmp 22) rfl k 32 rfl (ndA B.au B.ck (.slice pb B.ps.length pd) (.slice ob B.ops.length od)) _ (fun w hS => hS.1.2.2.1) Try.underlying27 rfl (Try.size27B _ _ _ _)) hHeldx2 ?_
  simp only [Act.put, List.setIfInBounds_toArray, List.set_cons_zero, List.set_cons_succ]
  refine wpAnyH_take (i := 14) (oi := ⟨some 24, Op.fieldAddr 42 (Operand.tmp 3) 1, 0, _, _, some (11, true)⟩) (v := .pointer (some ⟨k, 32, none⟩)) rfl (by kernel_rfl) (by kernel_rfl) (by kernel_rfl) (fun _ _ _ h => h) (Or.inl ⟨by rfl, fun w hS => by clear hS; go_simp⟩) hHeldx2 ?_
  simp only [Act.put, List.setIfInBounds_toArray, List.set_cons_zero, List.set_cons_succ]
  refine wpAnyH_take (i := 15) (oi := ⟨some 25, Op.load 27 (Operand.tmp 24), 27, _, _, some (11, true)⟩) (v := .agg (ndA B.au B.ck (.slice pb B.ps.length pd) (.slice ob B.ops.length od))) rfl (by kernel_rfl) (by kernel_rfl) (by kernel_rfl) (fun _ _ _ h => h) (yieldsIf_loadA (by rfl) 27 (Operand.tmp 24) rfl k 32 rfl (ndA B.au B.ck (.slice pb B.ps.length pd) (.slice ob B.ops.length od)) _ (fun w hS => hS.1.2.2.1) Try.underlying27 rfl (Try.size27B _ _ _ _)) hHeldx2 ?_
  simp only [Act.put, List.setIfInBounds_toArray, List.set_cons_zero, List.set_cons_succ]
  refine wpAnyH_ready (rs := [16]) (by kernel_rfl) (by simp) ?_
  refine AllReadyH.cons (o := ⟨some 26, Op.call { callee := Callee.value (Operand.func 20), args := #[Operand.tmp 23, Operand.tmp 25], argTypes := #[27, 27] }, 4, _, _, some (11, true)⟩) rfl (fun K hK => ?_) AllReadyH.nil
  rw [if_pos (by rfl)]
  refine wp_callF 20 _ _ rfl Try.in20 #[.agg (ndA B.au B.ck (.slice pb B.ps.length pd) (.slice ob B.ops.length od)), .agg (ndA B.au B.ck (.slice pb B.ps.length pd) (.slice ob B.ops.length od))] (by simp [Act.eval]) (fun vz wz => vz = .bool true ∧ Below w5.heap.size w5 wz) ?_ ?_
  · refine (same_node B B _ _ _ _ x2 (HB5.out.below HBx2.out) (HB5.out.below HBx2.out)).mono ?_
    rintro e wz ⟨rfl, h⟩
    rw [sameN_refl]
    exact ⟨_, rfl, rfl, HBx2.out.trans (h.mono HBx2.out.size)⟩
  rintro vz x3 ⟨rfl, hx3⟩
  have HBx3 := Keep.mk hx3
  clear hx3
  refine hK.out _ _ (HS0.out _ HBx3.out) fun hHeldx3 => ?_
  clear hK
  simp only [Act.put, List.setIfInBounds_toArray, List.set_cons_zero, List.set_cons_succ]
  refine wpAnyH_take (i := 17) (oi := ⟨some 27, Op.pick (Operand.tmp 21) (Operand.tmp 26) (Operand.const (Value.bool false)), 4, _, _, none⟩) (v := .bool true) rfl (by kernel_rfl) (by kernel_rfl) (by kernel_rfl) (fun _ _ _ h => h) (Or.inl ⟨by rfl, fun w hS => by obtain ⟨_, hs1, hs2, hs3, hs4⟩ := hS; go_simp⟩) hHeldx3 ?_
  simp only [Act.put, List.setIfInBounds_toArray, List.set_cons_zero, List.set_cons_succ]
  refine wpAnyH_take (i := 18) (oi := ⟨some 28, Op.move (Operand.tmp 27), 4, _, _, none⟩) (v := .bool true) rfl (by kernel_rfl) (by kernel_rfl) (by kernel_rfl) (fun _ _ _ h => h) (Or.inl ⟨by rfl, fun w hS => by obtain ⟨_, hs1, hs2, hs3, hs4⟩ := hS; go_simp⟩) hHeldx3 ?_
  simp only [Act.put, List.setIfInBounds_toArray, List.set_cons_zero, List.set_cons_succ]
  refine wpAnyH_take (i := 19) (oi := ⟨some 29, Op.fieldAddr 56 (Operand.tmp 5) 0, 0, _, _, some (18, true)⟩) (v := .pointer (some ⟨gv, 0, none⟩)) rfl (by kernel_rfl) (by kernel_rfl) (by kernel_rfl) (fun _ _ _ h => h) (Or.inl ⟨by rfl, fun w hS => by clear hS; go_simp⟩) hHeldx3 ?_
  simp only [Act.put, List.setIfInBounds_toArray, List.set_cons_zero, List.set_cons_succ]
  refine wpAnyH_take (i := 20) (oi := ⟨some 30, Op.load 40 (Operand.tmp 29), 40, _, _, some (18, true)⟩) (v := .agg (bytesA 32 c)) rfl (by kernel_rfl) (by kernel_rfl) (by kernel_rfl) (fun _ _ _ h => h) (yieldsIf_loadA (by rfl) 40 (Operand.tmp 29) rfl gv 0 rfl (bytesA 32 c) _ (fun w hS => hS.1.2.2.2) Try.underlying40 rfl (Try.size40B _)) hHeldx3 ?_
  simp only [Act.put, List.setIfInBounds_toArray, List.set_cons_zero, List.set_cons_succ]
  refine wpAnyH_take (i := 21) (oi := ⟨some 31, Op.fieldAddr 42 (Operand.tmp 2) 0, 0, _, _, some (18, true)⟩) (v := .pointer (some ⟨g, 0, none⟩)) rfl (by kernel_rfl) (by kernel_rfl) (by kernel_rfl) (fun _ _ _ h => h) (Or.inl ⟨by rfl, fun w hS => by clear hS; go_simp⟩) hHeldx3 ?_
  simp only [Act.put, List.setIfInBounds_toArray, List.set_cons_zero, List.set_cons_succ]
  refine wpAnyH_take (i := 22) (oi := ⟨some 32, Op.load 40 (Operand.tmp 31), 40, _, _, some (18, true)⟩) (v := .agg (bytesA 32 c)) rfl (by kernel_rfl) (by kernel_rfl) (by kernel_rfl) (fun _ _ _ h => h) (yieldsIf_loadA (by rfl) 40 (Operand.tmp 31) rfl g 0 rfl (bytesA 32 c) _ (fun w hS => hS.1.1) Try.underlying40 rfl (Try.size40B _)) hHeldx3 ?_
  simp only [Act.put, List.setIfInBounds_toArray, List.set_cons_zero, List.set_cons_succ]
  refine wpAnyH_take (i := 23) (oi := ⟨some 33, Op.binOp BinOp.eql 40 (Operand.tmp 30) (Operand.tmp 32) 40, 4, _, _, some (18, true)⟩) (v := .bool true) rfl (by kernel_rfl) (by kernel_rfl) (by kernel_rfl) (fun _ _ _ h => h) (yieldsIf_run (by rfl) .eql 40 40 (Operand.tmp 30) (Operand.tmp 32) rfl _ _ _ rfl rfl (fun w => ⟨_, rfl⟩) (eqlA c)) hHeldx3 ?_
  simp only [Act.put, List.setIfInBounds_toArray, List.set_cons_zero, List.set_cons_succ]
  refine wpAnyH_take (i := 24) (oi := ⟨some 34, Op.pick (Operand.tmp 28) (Operand.tmp 33) (Operand.const (Value.bool false)), 4, _, _, none⟩) (v := .bool true) rfl (by kernel_rfl) (by kernel_rfl) (by kernel_rfl) (fun _ _ _ h => h) (Or.inl ⟨by rfl, fun w hS => by obtain ⟨_, hs1, hs2, hs3, hs4⟩ := hS; go_simp⟩) hHeldx3 ?_
  simp only [Act.put, List.setIfInBounds_toArray, List.set_cons_zero, List.set_cons_succ]
  refine wpAnyH_take (i := 25) (oi := ⟨some 35, Op.move (Operand.tmp 34), 4, _, _, none⟩) (v := .bool true) rfl (by kernel_rfl) (by kernel_rfl) (by kernel_rfl) (fun _ _ _ h => h) (Or.inl ⟨by rfl, fun w hS => by obtain ⟨_, hs1, hs2, hs3, hs4⟩ := hS; go_simp⟩) hHeldx3 ?_
  simp only [Act.put, List.setIfInBounds_toArray, List.set_cons_zero, List.set_cons_succ]
  refine wpAnyH_take (i := 26) (oi := ⟨some 36, Op.fieldAddr 56 (Operand.tmp 5) 1, 0, _, _, some (25, true)⟩) (v := .pointer (some ⟨gv, 32, none⟩)) rfl (by kernel_rfl) (by kernel_rfl) (by kernel_rfl) (fun _ _ _ h => h) (Or.inl ⟨by rfl, fun w hS => by clear hS; go_simp⟩) hHeldx3 ?_
  simp only [Act.put, List.setIfInBounds_toArray, List.set_cons_zero, List.set_cons_succ]
  refine wpAnyH_take (i := 27) (oi := ⟨some 37, Op.load 3 (Operand.tmp 36), 3, _, _, some (25, true)⟩) (v := .int .i64 A.ck) rfl (by kernel_rfl) (by kernel_rfl) (by kernel_rfl) (fun _ _ _ h => h) (Or.inl ⟨by rfl, fun w hS => by obtain ⟨_, hs1, hs2, hs3, hs4⟩ := hS; go_simp⟩) hHeldx3 ?_
  simp only [Act.put, List.setIfInBounds_toArray, List.set_cons_zero, List.set_cons_succ]
  refine wpAnyH_take (i := 28) (oi := ⟨some 38, Op.fieldAddr 42 (Operand.tmp 2) 1, 0, _, _, some (25, true)⟩) (v := .pointer (some ⟨g, 32, none⟩)) rfl (by kernel_rfl) (by kernel_rfl) (by kernel_rfl) (fun _ _ _ h => h) (Or.inl ⟨by rfl, fun w hS => by clear hS; go_simp⟩) hHeldx3 ?_
  simp only [Act.put, List.setIfInBounds_toArray, List.set_cons_zero, List.set_cons_succ]
  refine wpAnyH_take (i := 29) (oi := ⟨some 39, Op.fieldAddr 27 (Operand.tmp 38) 1, 0, _, _, some (25, true)⟩) (v := .pointer (some ⟨g, 33, none⟩)) rfl (by kernel_rfl) (by kernel_rfl) (by kernel_rfl) (fun _ _ _ h => h) (Or.inl ⟨by rfl, fun w hS => by clear hS; go_simp⟩) hHeldx3 ?_
  simp only [Act.put, List.setIfInBounds_toArray, List.set_cons_zero, List.set_cons_succ]
  refine wpAnyH_take (i := 30) (oi := ⟨some 40, Op.load 3 (Operand.tmp 39), 3, _, _, some (25, true)⟩) (v := .int .i64 A.ck) rfl (by kernel_rfl) (by kernel_rfl) (by kernel_rfl) (fun _ _ _ h => h) (Or.inl ⟨by rfl, fun w hS => by obtain ⟨_, hs1, hs2, hs3, hs4⟩ := hS; go_simp⟩) hHeldx3 ?_
  simp only [Act.put, List.setIfInBounds_toArray, List.set_cons_zero, List.set_cons_succ]
  refine wpAnyH_take (i := 31) (oi := ⟨some 41, Op.binOp BinOp.eql 3 (Operand.tmp 37) (Operand.tmp 40) 3, 4, _, _, some (25, true)⟩) (v := .bool true) rfl (by kernel_rfl) (by kernel_rfl) (by kernel_rfl) (fun _ _ _ h => h) (Or.inl ⟨by rfl, fun w hS => by clear hS; go_simp⟩) hHeldx3 ?_
  simp only [Act.put, List.setIfInBounds_toArray, List.set_cons_zero, List.set_cons_succ]
  refine wpAnyH_take (i := 32) (oi := ⟨some 42, Op.pick (Operand.tmp 35) (Operand.tmp 41) (Operand.const (Value.bool false)), 4, _, _, none⟩) (v := .bool true) rfl (by kernel_rfl) (by kernel_rfl) (by kernel_rfl) (fun _ _ _ h => h) (Or.inl ⟨by rfl, fun w hS => by obtain ⟨_, hs1, hs2, hs3, hs4⟩ := hS; go_simp⟩) hHeldx3 ?_
  simp only [Act.put, List.setIfInBounds_toArray, List.set_cons_zero, List.set_cons_succ]
  refine wpAnyH_take (i := 33) (oi := ⟨some 43, Op.move (Operand.tmp 42), 4, _, _, none⟩) (v := .bool true) rfl (by kernel_rfl) (by kernel_rfl) (by kernel_rfl) (fun _ _ _ h => h) (Or.inl ⟨by rfl, fun w hS => by obtain ⟨_, hs1, hs2, hs3, hs4⟩ := hS; go_simp⟩) hHeldx3 ?_
  simp only [Act.put, List.setIfInBounds_toArray, List.set_cons_zero, List.set_cons_succ]
  refine wpAnyH_take (i := 34) (oi := ⟨some 44, Op.fieldAddr 56 (Operand.tmp 5) 2, 0, _, _, some (33, true)⟩) (v := .pointer (some ⟨gv, 33, none⟩)) rfl (by kernel_rfl) (by kernel_rfl) (by kernel_rfl) (fun _ _ _ h => h) (Or.inl ⟨by rfl, fun w hS => by clear hS; go_simp⟩) hHeldx3 ?_
  simp only [Act.put, List.setIfInBounds_toArray, List.set_cons_zero, List.set_cons_succ]
  refine wpAnyH_take (i := 35) (oi := ⟨some 45, Op.load 24 (Operand.tmp 44), 24, _, _, some (33, true)⟩) (v := .slice (some ⟨gn, 0, none⟩) A.ps.length A.ps.length) rfl (by kernel_rfl) (by kernel_rfl) (by kernel_rfl) (fun _ _ _ h => h) (Or.inl ⟨by rfl, fun w hS => by obtain ⟨_, hs1, hs2, hs3, hs4⟩ := hS; go_simp⟩) hHeldx3 ?_
  simp only [Act.put, List.setIfInBounds_toArray, List.set_cons_zero, List.set_cons_succ]
  refine wpAnyH_take (i := 36) (oi := ⟨some 46, Op.fieldAddr 42 (Operand.tmp 2) 1, 0, _, _, some (33, true)⟩) (v := .pointer (some ⟨g, 32, none⟩)) rfl (by kernel_rfl) (by kernel_rfl) (by kernel_rfl) (fun _ _ _ h => h) (Or.inl ⟨by rfl, fun w hS => by clear hS; go_simp⟩) hHeldx3 ?_
  simp only [Act.put, List.setIfInBounds_toArray, List.set_cons_zero, List.set_cons_succ]
  refine wpAnyH_take (i := 37) (oi := ⟨some 47, Op.fieldAddr 27 (Operand.tmp 46) 2, 0, _, _, some (33, true)⟩) (v := .pointer (some ⟨g, 34, none⟩)) rfl (by kernel_rfl) (by kernel_rfl) (by kernel_rfl) (fun _ _ _ h => h) (Or.inl ⟨by rfl, fun w hS => by clear hS; go_simp⟩) hHeldx3 ?_
  simp only [Act.put, List.setIfInBounds_toArray, List.set_cons_zero, List.set_cons_succ]
  refine wpAnyH_take (i := 38) (oi := ⟨some 48, Op.load 24 (Operand.tmp 47), 24, _, _, some (33, true)⟩) (v := .slice pa A.ps.length pc) rfl (by kernel_rfl) (by kernel_rfl) (by kernel_rfl) (fun _ _ _ h => h) (Or.inl ⟨by rfl, fun w hS => by obtain ⟨_, hs1, hs2, hs3, hs4⟩ := hS; go_simp⟩) hHeldx3 ?_
  simp only [Act.put, List.setIfInBounds_toArray, List.set_cons_zero, List.set_cons_succ]
  refine wpAnyH_ready (rs := [39]) (by kernel_rfl) (by simp) ?_
  refine AllReadyH.cons (o := ⟨some 49, Op.call { callee := Callee.value (Operand.func 24), args := #[Operand.tmp 45, Operand.tmp 48], argTypes := #[24, 24] }, 4, _, _, some (33, true)⟩) rfl (fun K hK => ?_) AllReadyH.nil
  rw [if_pos (by rfl)]
  refine wp_callF 24 _ _ rfl Try.in24 #[.slice (some ⟨gn, 0, none⟩) A.ps.length A.ps.length, .slice pa A.ps.length pc] (by simp [Act.eval]) (fun vz wz => vz = .bool true ∧ Below w5.heap.size w5 wz) ?_ ?_
  · refine (Sh.same_any _ _ A.ps A.ps x3 (HP5.out.below HBx3.out) (HA5.out.below HBx3.out).ps (by have := HA.out.lp; omega)).mono ?_
    rintro e wz ⟨rfl, qq, hqq⟩
    have h : Below x3.heap.size x3 wz := by rw [hqq]; exact below_drewN x3 qq
    rw [decide_eq_true rfl]
    exact ⟨_, rfl, rfl, HBx3.out.trans (h.mono HBx3.out.size)⟩
  rintro vz x4 ⟨rfl, hx4⟩
  have HBx4 := Keep.mk hx4
  clear hx4
  refine hK.out _ _ (HS0.out _ HBx4.out) fun hHeldx4 => ?_
  clear hK
  simp only [Act.put, List.setIfInBounds_toArray, List.set_cons_zero, List.set_cons_succ]
  refine wpAnyH_take (i := 40) (oi := ⟨some 50, Op.pick (Operand.tmp 43) (Operand.tmp 49) (Operand.const (Value.bool false)), 4, _, _, none⟩) (v := .bool true) rfl (by kernel_rfl) (by kernel_rfl) (by kernel_rfl) (fun _ _ _ h => h) (Or.inl ⟨by rfl, fun w hS => by obtain ⟨_, hs1, hs2, hs3, hs4⟩ := hS; go_simp⟩) hHeldx4 ?_
  simp only [Act.put, List.setIfInBounds_toArray, List.set_cons_zero, List.set_cons_succ]
  refine wpAnyH_take (i := 41) (oi := ⟨some 4, Op.assign (Operand.tmp 50), 4, _, _, none⟩) (v := .bool true) rfl (by kernel_rfl) (by kernel_rfl) (by kernel_rfl) (fun _ _ _ h => h) (Or.inl ⟨by rfl, fun w hS => by obtain ⟨_, hs1, hs2, hs3, hs4⟩ := hS; go_simp⟩) hHeldx4 ?_
  simp only [Act.put, List.setIfInBounds_toArray, List.set_cons_zero, List.set_cons_succ]
  refine wpAnyH_done (by kernel_rfl) ?_ _
  refine hK5 _ _ ?_
  refine wp_ret ?_
  go_ret
  exact ⟨rfl, B2.out.trans ((B5.out.mono B2x.out).trans (HBx4.out.mono (Nat.le_trans B2x.out B5.out.size)))⟩
end Go.Proofs.Ytgpgnldcdimmbaa
namespace Go.Proofs.Ytgpgnldcdimmbaa
open Go.ChangeShapes Go.WideShapes Go.ChangeAt Go.RowKit Go.Deep

theorem Try.cellsOf79 : Try.prog.cellsOf 79 = 37 := by kernel_rfl
theorem Try.cellsOf77 : Try.prog.cellsOf 77 = 33 := by kernel_rfl
theorem Try.cellsOf40 : Try.prog.cellsOf 40 = 32 := by kernel_rfl
theorem Try.cellsOf28 : Try.prog.cellsOf 28 = 1 := by kernel_rfl
theorem Try.cellsOf3 : Try.prog.cellsOf 3 = 1 := by kernel_rfl
theorem Try.cellsOf2 : Try.prog.cellsOf 2 = 1 := by kernel_rfl
theorem Try.cellsOf9 : Try.prog.cellsOf 9 = 1 := by kernel_rfl
theorem Try.cellsOf5 : Try.prog.cellsOf 5 = 1 := by kernel_rfl
theorem Try.bytesOf79 : Try.prog.bytesOf 79 = 88 := by kernel_rfl
theorem Try.bytesOf5 : Try.prog.bytesOf 5 = 1 := by kernel_rfl
theorem reach_is : reachBytes = 140737488351232 := by decide
theorem add_none' (b o i : Nat) : (⟨b, o, none⟩ : Addr).add i = ⟨b, o + i, none⟩ := by
  cases i with
  | zero => rfl
  | succ i => rfl
theorem mem_weightsAll {H : Type} {P : Program} {e : TypeId} {d : DataW H} : ∀ {ds : List (DataW H)}, d ∈ ds → ∀ n ∈ d.weights P e, n ∈ DataW.weightsAll P e ds
  | d0 :: ds, h, n, hn => by
    simp only [DataW.weightsAll, List.mem_append]
    rcases List.mem_cons.1 h with rfl | h
    · exact .inl hn
    · exact .inr (mem_weightsAll h n hn)
theorem wf_u8 {n : Int} (h : (Lit.int .u8 n).wf = true) : 0 ≤ n ∧ n < 256 := by
  have h1 : IntKind.u8.min = 0 := by decide
  have h2 : IntKind.u8.max = 255 := by decide
  simp only [Lit.wf, h1, h2, Bool.and_eq_true, decide_eq_true_eq] at h
  omega
theorem wf_i64 {n : Int} (h : (Lit.int .i64 n).wf = true) : -9223372036854775808 ≤ n ∧ n ≤ 9223372036854775807 := by
  have h1 : IntKind.i64.min = -9223372036854775808 := by decide
  have h2 : IntKind.i64.max = 9223372036854775807 := by decide
  simp only [Lit.wf, h1, h2, Bool.and_eq_true, decide_eq_true_eq] at h
  omega

theorem row_of_trod {H : Type} {enc : TypeId × Value → H} {W : World} {sp : Nat → Bool} {held : Bool} {n base : Nat} {v : Value} {x : DataW H × List MemPlace} (hf : DataW.trod enc Try.prog W base sp held n 28 [v] = some x) (hw : ∀ n ∈ x.1.weights Try.prog 28, n ≤ reachBytes) :
    ∃ l : List Int, RowAt W v l ∧ Byts l ∧ l.length ≤ 140737488351232 := by
  rcases open_ints Try.underlying28 Try.underlying5 Try.cellsOf5 hf with ⟨hcs, _⟩ | ⟨a, len, cap, zs, hcs, _, hl, hm, hz, hx, hcell, hwz⟩
  · simp at hcs
    subst hcs
    exact ⟨[], .inl ⟨rfl, rfl⟩, Byts.nil, by simp⟩
  · simp at hcs
    subst hcs
    unfold maxLen at hm
    have hlz : len ≤ zs.length := by rw [hz]; split <;> omega
    have hbz : Byts zs := fun c hc => wf_u8 (hwz c hc)
    have hb : len ≤ 140737488351232 := by
      have h1 := hw ((zs.take len).length + (zs.drop len).length) (by
        rw [hx]
        simp only [DataW.weights, Try.underlying28]
        simp [lits, Try.bytesOf5])
      rw [List.length_take, reach_is] at h1
      omega
    by_cases h0 : len = 0
    · subst h0
      exact ⟨[], .inr (.inl ⟨a, cap, rfl, rfl⟩), Byts.nil, by simp⟩
    · have hs : a.spot = none := by
        have := hcell 0 (by omega)
        rw [show a.add 0 = a from rfl] at this
        exact World.cell?_spot this
      obtain ⟨b, off, sp⟩ := a
      obtain rfl : sp = none := hs
      have hlen : (zs.take len).length = len := by rw [List.length_take]; omega
      refine ⟨zs.take len, .inr (.inr ⟨b, off, cap, by rw [hlen], by omega, fun i hi => ?_⟩), hbz.take len, by omega⟩
      rw [hlen] at hi
      have := hcell i (by omega)
      rw [add_none'] at this
      rw [this]
      simp [List.getD, hi]

theorem trod_struct5 {H : Type} {enc : TypeId × Value → H} {P : Program} {w : World} {base : Nat} {spare : Nat → Bool} {held : Bool} {t : TypeId} {f0 f1 f2 f3 f4 : Field} {fuel : Nat} {cs : List Value} {x : DataW H × List MemPlace} (ht : P.underlying t = some (.struct #[f0, f1, f2, f3, f4])) (h : DataW.trod enc P w base spare held fuel t cs = some x) :
    ∃ y0 y1 y2 y3 y4 n, x.1 = .agg [y0.1, y1.1, y2.1, y3.1, y4.1] ∧ cs.length = P.cellsOf t ∧ DataW.trod enc P w base spare held n f0.type ((cs.drop f0.offset).take (P.cellsOf f0.type)) = some y0 ∧
      DataW.trod enc P w base spare held n f1.type ((cs.drop f1.offset).take (P.cellsOf f1.type)) = some y1 ∧ DataW.trod enc P w base spare held n f2.type ((cs.drop f2.offset).take (P.cellsOf f2.type)) = some y2 ∧ DataW.trod enc P w base spare held n f3.type ((cs.drop f3.offset).take (P.cellsOf f3.type)) = some y3 ∧ DataW.trod enc P w base spare held n f4.type ((cs.drop f4.offset).take (P.cellsOf f4.type)) = some y4 := by
  obtain ⟨xs, n, _, rfl, hl, hlen, hf⟩ := DataW.trod_struct ht h
  match xs, hlen with
  | [y0, y1, y2, y3, y4], _ => exact ⟨y0, y1, y2, y3, y4, n, by simp, hl, by simpa using hf 0 f0 rfl, by simpa using hf 1 f1 rfl, by simpa using hf 2 f2 rfl, by simpa using hf 3 f3 rfl, by simpa using hf 4 f4 rfl⟩
theorem trod_struct2 {H : Type} {enc : TypeId × Value → H} {P : Program} {w : World} {base : Nat} {spare : Nat → Bool} {held : Bool} {t : TypeId} {f0 f1 : Field} {fuel : Nat} {cs : List Value} {x : DataW H × List MemPlace} (ht : P.underlying t = some (.struct #[f0, f1])) (h : DataW.trod enc P w base spare held fuel t cs = some x) :
    ∃ y0 y1 n, x.1 = .agg [y0.1, y1.1] ∧ cs.length = P.cellsOf t ∧ DataW.trod enc P w base spare held n f0.type ((cs.drop f0.offset).take (P.cellsOf f0.type)) = some y0 ∧
      DataW.trod enc P w base spare held n f1.type ((cs.drop f1.offset).take (P.cellsOf f1.type)) = some y1 := by
  obtain ⟨xs, n, _, rfl, hl, hlen, hf⟩ := DataW.trod_struct ht h
  match xs, hlen with
  | [y0, y1], _ => exact ⟨y0, y1, n, by simp, hl, by simpa using hf 0 f0 rfl, by simpa using hf 1 f1 rfl⟩
theorem take_one {l : List Value} {i : Nat} {v : Value} (h : (l.drop i).take 1 = [v]) : l[i]? = some v := by
  have h2 : ((l.drop i).take 1)[0]? = some v := by rw [h]; rfl
  rw [List.getElem?_take, if_pos (by omega), List.getElem?_drop] at h2
  simpa using h2
theorem hash_of_trod {H : Type} {enc : TypeId × Value → H} {W : World} {sp : Nat → Bool} {held : Bool} {n base : Nat} {l : List Value} {x : DataW H × List MemPlace} (hf : DataW.trod enc Try.prog W base sp held n 40 l = some x) :
    ∃ c : List Int, l = bv (hl 32 (hof c)) ∧ c.length = 32 ∧ Byts c := by
  obtain ⟨xs, m, _, _, hl_, hx, hel⟩ := DataW.trod_array Try.underlying40 hf
  rw [Try.cellsOf40] at hl_
  rw [Try.cellsOf5] at hel
  have each : ∀ i, i < 32 → ∃ z : Int, l[i]? = some (.int .u8 z) ∧ 0 ≤ z ∧ z < 256 := by
    intro i hi
    have h1 := hel i hi
    rw [List.getElem?_eq_getElem (by omega), Nat.mul_one] at h1
    obtain ⟨z, hz, _, hw⟩ := DataW.trod_int Try.underlying5 h1
    have hb := wf_u8 hw
    exact ⟨z, take_one hz, by omega, by omega⟩
  obtain ⟨c, hc⟩ := Go.Deep.choose_lt each
  refine ⟨hl 32 c, ?_, hl_len _ _, fun z hz => ?_⟩
  · rw [hl_of, ← hl_bytesA]
    apply List.ext_getElem?
    intro i
    by_cases hi : i < 32
    · rw [(hc i hi).1, Array.getElem?_toList, bytesA_get _ _ _ hi]
    · rw [List.getElem?_eq_none (by omega), List.getElem?_eq_none (by rw [Array.length_toList, bytesA_size]; omega)]
  · unfold hl at hz
    obtain ⟨i, hi, rfl⟩ := List.mem_map.1 hz
    exact (hc i (List.mem_range.1 hi)).2
theorem one_of {cs : List Value} {v : Value} {j : Nat} (h : (cs.drop j).take 1 = [v]) : cs[j]? = some v := take_one h
theorem op_of_trod {H : Type} {enc : TypeId × Value → H} {W : World} {sp : Nat → Bool} {held : Bool} {n base : Nat} {cs : List Value} {x : DataW H × List MemPlace} (hf : DataW.trod enc Try.prog W base sp held n 79 cs = some x) (hw : ∀ n ∈ x.1.weights Try.prog 79, n ≤ reachBytes) :
    ∃ q : OpV, cs = opL q ∧ OpOk q := by
  obtain ⟨y0, y1, y2, y3, y4, k, hx, hl0, h0, h1, h2, h3, h4⟩ := trod_struct5 Try.underlying79 hf
  rw [Try.cellsOf79] at hl0
  simp only [Try.cellsOf3, Try.cellsOf9, Try.cellsOf2, Try.cellsOf77] at h0 h1 h2 h3 h4
  obtain ⟨z0, e0, _, w0⟩ := DataW.trod_int Try.underlying3 h0
  obtain ⟨s1, e1, f1, w1⟩ := DataW.trod_string Try.underlying9 h1
  obtain ⟨s2, e2, f2, w2⟩ := DataW.trod_string Try.underlying9 h2
  obtain ⟨z3, e3, _, w3⟩ := DataW.trod_int Try.underlying2 h3
  obtain ⟨a0, a1, k2, hx4, hl4, g0, g1⟩ := trod_struct2 Try.underlying77 h4
  rw [Try.cellsOf77] at hl4
  simp only [Try.cellsOf40, Try.cellsOf3] at g0 g1
  obtain ⟨c, ec, hc1, hc2⟩ := hash_of_trod g0
  obtain ⟨z4, e4, _, w4⟩ := DataW.trod_int Try.underlying3 g1
  have b0 := wf_i64 w0
  have b3 := wf_i64 w3
  have b4 := wf_i64 w4
  have kb1 : s1.size ≤ reachBytes := hw s1.size (by
    rw [hx]
    simp only [DataW.weights, Try.underlying79]
    refine DataW.weights_mem_each (j := 1) (t := 9) rfl rfl _ ?_
    rw [f1]
    simp [DataW.weights])
  have kb2 : s2.size ≤ reachBytes := hw s2.size (by
    rw [hx]
    simp only [DataW.weights, Try.underlying79]
    refine DataW.weights_mem_each (j := 2) (t := 9) rfl rfl _ ?_
    rw [f2]
    simp [DataW.weights])
  rw [reach_is] at kb1 kb2
  refine ⟨⟨z0, s1, s2, z3, c, z4⟩, ?_, ⟨hc1, hc2, b0.1, b0.2, b3.1, b3.2, b4.1, b4.2, by simp only; omega, by simp only; omega⟩⟩
  have q0 : cs[0]? = some (.int .i64 z0) := one_of (by simpa using e0)
  have q1 : cs[1]? = some (.string s1) := one_of (by simpa using e1)
  have q2 : cs[2]? = some (.string s2) := one_of (by simpa using e2)
  have q3 : cs[3]? = some (.int .i64 z3) := one_of (by simpa using e3)
  have hd : cs.drop 4 = idL c z4 := by
    have hfull : (cs.drop 4).take 33 = cs.drop 4 := List.take_of_length_le (by rw [List.length_drop]; omega)
    rw [hfull] at ec e4
    have q4 : (cs.drop 4)[32]? = some (.int .i64 z4) := one_of (by simpa using e4)
    rw [List.drop_zero] at ec
    unfold idL
    rw [← ec, ← List.take_append_drop 32 (cs.drop 4)]
    congr 1
    · rw [List.take_append_drop]
    · apply List.ext_getElem?
      intro i
      match i with
      | 0 => rw [List.getElem?_drop]; simpa using q4
      | i + 1 => rw [List.getElem?_eq_none (by rw [List.length_drop, List.length_drop]; omega)]; simp
  unfold opL
  rw [← hd, ← List.take_append_drop 4 cs]
  congr 1
  · apply List.ext_getElem?
    intro i
    match i with
    | 0 => rw [List.getElem?_take, if_pos (by omega), q0]; rfl
    | 1 => rw [List.getElem?_take, if_pos (by omega), q1]; rfl
    | 2 => rw [List.getElem?_take, if_pos (by omega), q2]; rfl
    | 3 => rw [List.getElem?_take, if_pos (by omega), q3]; rfl
    | i + 4 => rw [List.getElem?_eq_none (by rw [List.length_take]; omega)]; simp
  · rw [List.take_append_drop]
theorem ops_of_trod {H : Type} {enc : TypeId × Value → H} {W : World} {sp : Nat → Bool} {held : Bool} {fuel base : Nat} {v : Value} {x : DataW H × List MemPlace} (hf : DataW.trod enc Try.prog W base sp held fuel 25 [v] = some x) (hw : ∀ n ∈ x.1.weights Try.prog 25, n ≤ reachBytes) :
    ∃ l : List OpV, OpsAt W v l ∧ (∀ q ∈ l, OpOk q) ∧ l.length ≤ 4398046511104 := by
  rcases open_slice Try.underlying25 hf with ⟨hcs, _⟩ | ⟨a, len, cap, m, n, D, Pl, hcs, _, hl_, hm, hz, hx, hcell⟩
  · simp at hcs
    subst hcs
    exact ⟨[], .inl ⟨none, 0, rfl, rfl⟩, by simp, by simp⟩
  · simp at hcs
    subst hcs
    have hlz : len ≤ m := by rw [hz]; split <;> omega
    have hb : len ≤ 4398046511104 := by
      have h1 := hw ((((List.range len).map D).length + ((List.range (m - len)).map fun j => D (len + j)).length) * 88) (by
        rw [hx]
        simp only [DataW.weights, Try.underlying25]
        simp [Try.bytesOf79])
      rw [reach_is] at h1
      simp only [List.length_map, List.length_range] at h1
      omega
    have hwD : ∀ i, i < len → ∀ n ∈ (D i).weights Try.prog 79, n ≤ reachBytes := fun i hi n hn => hw n (by
      rw [hx]
      simp only [DataW.weights, Try.underlying25]
      refine List.mem_cons_of_mem _ (List.mem_append_left _ (mem_weightsAll (d := D i) ?_ n hn))
      exact List.mem_map.2 ⟨i, List.mem_range.2 hi, rfl⟩)
    have each : ∀ i, i < len → ∃ q : OpV, (∀ j v, (opL q)[j]? = some v → W.cell? ((a.add (i * 37)).add j) = some v) ∧ OpOk q := by
      intro i hi
      obtain ⟨cs', h1, h2⟩ := hcell i (by omega)
      rw [Try.cellsOf79] at h1
      obtain ⟨_, hlen, hce⟩ := World.cells?_some h1
      obtain ⟨q, rfl, h3⟩ := op_of_trod h2 (hwD i hi)
      refine ⟨q, fun j v hv => ?_, h3⟩
      obtain ⟨hj, e⟩ := List.getElem?_eq_some_iff.1 hv
      rw [opL_len] at hj
      rw [hce j (by omega), ← hv]
    haveI : Inhabited OpV := ⟨zeroOp⟩
    obtain ⟨q, hq⟩ := Go.Deep.choose_lt each
    refine ⟨(List.range len).map q, ?_, ?_, by simpa using hb⟩
    · by_cases h0 : len = 0
      · subst h0
        exact .inl ⟨_, _, rfl, rfl⟩
      · have hs : a.spot = none := by
          have := (hq 0 (by omega)).1 0 _ (show (opL (q 0))[0]? = some (.int .i64 (q 0).kind) by simp [opL])
          rw [Nat.zero_mul, show a.add 0 = a from rfl] at this
          rw [show a.add 0 = a from rfl] at this
          exact World.cell?_spot this
        obtain ⟨b, off, sp⟩ := a
        obtain rfl : sp = none := hs
        refine .inr ⟨b, off, cap, by simp, by simp; omega, fun i x hxi j v hv => ?_⟩
        obtain ⟨hi, e⟩ := List.getElem?_eq_some_iff.1 hxi
        simp at hi e
        subst e
        have := (hq i hi).1 j v hv
        simp only [add_none'] at this
        exact this
    · intro z hz'
      obtain ⟨i, hi, rfl⟩ := List.mem_map.1 hz'
      exact (hq i (List.mem_range.1 hi)).2
set_option maxRecDepth 8000 in
theorem wide_lt {W : World} {r : Reach} {base : Nat} {t e : TypeId} (hu : Try.prog.underlying t = some (.slice e)) {a : Option Addr} {n c : Nat} (h : Value.okWide Try.prog W r base t (.slice a n c)) : ∀ k, (Value.slice a n c).ownBlock = some k → k < W.heap.size := by
  intro k hk
  cases a with
  | none => simp [Value.ownBlock] at hk
  | some ad =>
    simp [Value.ownBlock] at hk
    subst hk
    unfold Value.okWide at h
    simp only [hu] at h
    unfold Cell.okWide at h
    simp only [hu] at h
    unfold Cell.ok at h
    simp only [hu] at h
    obtain ⟨_, _, _, _, row, cells, hs, _⟩ := h
    apply Nat.lt_of_not_le
    intro hle
    simp [World.shape?, Array.getElem?_eq_none hle] at hs
end Go.Proofs.Ytgpgnldcdimmbaa
