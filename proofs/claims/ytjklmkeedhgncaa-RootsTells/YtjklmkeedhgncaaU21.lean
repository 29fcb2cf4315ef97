import Derived.Test.YtjklmkeedhgncaaU19
import Derived.Test.YtjklmkeedhgncaaU10
import Derived.Test.YtjklmkeedhgncaaU06
import Derived.Test.YtjklmkeedhgncaaU20
import Derived.Test.YtjklmkeedhgncaaU09
import Derived.Test.YtjklmkeedhgncaaU14
import Derived.Deep.RegionHeld3
namespace Go.Proofs.Ytjklmkeedhgncaa
open Go.RowKit
set_option linter.unusedSimpArgs false
set_option linter.unusedVariables false
theorem Try.in34 (w : World) (vs : Array Value) : (callFunc 34 vs).run Try.prog w = .ok (.enter 34 vs) w := by kernel_rfl
set_option maxRecDepth 8000 in
theorem smh_len (pa qa : Option Addr) (n pc m qc : Nat) (ps qs : List Hs) (w : World) (hd : Keep (decide (ps = qs) = false)) (hne : ¬ n = m) : Calls Try.prog 34 #[.slice pa n pc, .slice qa m qc] w fun e w' => e = .returned (.bool (decide (ps = qs))) ∧ Below w.heap.size w w' := by
  have hne' : ((n : Int) == (m : Int)) = false := by simp; omega
  have hne2 : ¬ (n : Int) = (m : Int) := by omega
  go_enter Try.func34, Try.ntmps34
  refine wp_seq_k fun K1 hK1 => ?_
  refine wp_region_list (WL.out ?_)
  refine WL.val (by kernel_rfl) (.bool false) (by go_simp) ?_
  simp only [Act.put, List.setIfInBounds_toArray, List.set_cons_zero, List.set_cons_succ]
  refine WL.nil ?_
  refine hK1 _ _ ?_
  refine wp_seq_k fun K2 hK2 => ?_
  refine wp_seq_k fun K3 hK3 => ?_
  refine wp_region_list (WL.out ?_)
  refine WL.val (by kernel_rfl) (.slice pa n pc) (by go_simp) ?_
  simp only [Act.put, List.setIfInBounds_toArray, List.set_cons_zero, List.set_cons_succ]
  refine WL.val (by kernel_rfl) (.int .i64 (n : Int)) (by go_simp) ?_
  simp only [Act.put, List.setIfInBounds_toArray, List.set_cons_zero, List.set_cons_succ]
  refine WL.val (by kernel_rfl) (.slice qa m qc) (by go_simp) ?_
  simp only [Act.put, List.setIfInBounds_toArray, List.set_cons_zero, List.set_cons_succ]
  refine WL.val (by kernel_rfl) (.int .i64 (m : Int)) (by go_simp) ?_
  simp only [Act.put, List.setIfInBounds_toArray, List.set_cons_zero, List.set_cons_succ]
  refine WL.val (by kernel_rfl) (.bool true) (by go_simp) ?_
  simp only [Act.put, List.setIfInBounds_toArray, List.set_cons_zero, List.set_cons_succ]
  refine WL.nil ?_
  refine hK3 _ _ ?_
  refine wp_cond_true rfl ?_
  refine wp_seq_k fun K4 hK4 => ?_
  refine wp_region_list (WL.out ?_)
  refine WL.val (by kernel_rfl) (.bool false) (by go_simp) ?_
  simp only [Act.put, List.setIfInBounds_toArray, List.set_cons_zero, List.set_cons_succ]
  refine WL.nil ?_
  refine hK4 _ _ ?_
  refine wp_ret ?_
  go_ret
  rw [hd.out]
  exact ⟨rfl, Below.refl _ _⟩
set_option maxRecDepth 8000 in
set_option maxHeartbeats 1000000 in
theorem smh_eq (pa qa : Option Addr) (n pc qc : Nat) (ps qs : List Hs) (w : World) (hn : Keep (ps.length = n)) (hm : Keep (qs.length = n)) (HN : Keep (n ≤ 4398046511104)) (HP : Keep (0 < n → ∃ b o, pa = some ⟨b, o, none⟩ ∧ b < w.heap.size ∧ w.rangeAt b o (flatH ps))) (HQ : Keep (0 < n → ∃ b o, qa = some ⟨b, o, none⟩ ∧ b < w.heap.size ∧ w.rangeAt b o (flatH qs))) : Calls Try.prog 34 #[.slice pa n pc, .slice qa n qc] w fun e w' => e = .returned (.bool (decide (ps = qs))) ∧ Below w.heap.size w w' := by
  go_enter Try.func34, Try.ntmps34
  refine wp_seq_k fun K1 hK1 => ?_
  refine wp_region_list (WL.out ?_)
  refine WL.val (by kernel_rfl) (.bool false) (by go_simp) ?_
  simp only [Act.put, List.setIfInBounds_toArray, List.set_cons_zero, List.set_cons_succ]
  refine WL.nil ?_
  refine hK1 _ _ ?_
  refine wp_seq_k fun K2 hK2 => ?_
  refine wp_seq_k fun K3 hK3 => ?_
  refine wp_region_list (WL.out ?_)
  refine WL.val (by kernel_rfl) (.slice pa n pc) (by go_simp) ?_
  simp only [Act.put, List.setIfInBounds_toArray, List.set_cons_zero, List.set_cons_succ]
  refine WL.val (by kernel_rfl) (.int .i64 (n : Int)) (by go_simp) ?_
  simp only [Act.put, List.setIfInBounds_toArray, List.set_cons_zero, List.set_cons_succ]
  refine WL.val (by kernel_rfl) (.slice qa n qc) (by go_simp) ?_
  simp only [Act.put, List.setIfInBounds_toArray, List.set_cons_zero, List.set_cons_succ]
  refine WL.val (by kernel_rfl) (.int .i64 (n : Int)) (by go_simp) ?_
  simp only [Act.put, List.setIfInBounds_toArray, List.set_cons_zero, List.set_cons_succ]
  refine WL.val (by kernel_rfl) (.bool false) (by go_simp) ?_
  simp only [Act.put, List.setIfInBounds_toArray, List.set_cons_zero, List.set_cons_succ]
  refine WL.nil ?_
  refine hK3 _ _ ?_
  refine wp_cond_false rfl ?_
  refine wp_skip ?_
  refine hK2 _ _ ?_
  refine wp_seq_k fun K4 hK4 => ?_
  refine wp_seq_k fun K5 hK5 => ?_
  refine wp_region_list (WL.out ?_)
  refine WL.val (by kernel_rfl) (.int .i64 0) (by go_simp) ?_
  simp only [Act.put, List.setIfInBounds_toArray, List.set_cons_zero, List.set_cons_succ]
  refine WL.nil ?_
  refine hK5 _ _ ?_
  refine wp_block ?_
  refine wp_loop (fun ac wr => ∃ (t : Nat) (f : Nat → Value), ac = { tmps := #[.slice pa n pc, .slice qa n qc, undef, undef, f 4, .int .i64 (t : Int), .slice pa n pc, .int .i64 (n : Int), .slice qa n qc, .int .i64 (n : Int), .bool false, f 11, f 12, f 13, f 14, f 15, f 16, f 17, f 18, f 19, f 20, f 21, f 22, f 23, f 24, f 25], defers := [] } ∧ t ≤ n ∧ Below w.heap.size w wr ∧ (∀ i, i < t → ps[i]? = qs[i]?)) (fun a _ => n - (intOf (a.tmps.getD 5 undef)).toNat) ⟨0, fun zz => [.slice pa n pc, .slice qa n qc, undef, undef, .bool false, .int .i64 0, .slice pa n pc, .int .i64 (n : Int), .slice qa n qc, .int .i64 (n : Int), .bool false, undef, undef, undef, undef, undef, undef, undef, undef, undef, undef, undef, undef, undef, undef, undef].getD zz undef, rfl, by omega, Below.refl _ _, fun i hi => by omega⟩ ?_
  rintro ac wr ⟨t, f, rfl, ht, hb, hI⟩
  have B1 := Keep.mk hb
  have HI := Keep.mk hI
  clear hb hI
  by_cases htl : t < n
  · have htl' : (t : Int) < (n : Int) := by omega
    obtain ⟨b, o, hpa, hb1, hr1⟩ := HP.out (by omega)
    obtain ⟨d, o2, hqa, hb2, hr2⟩ := HQ.out (by omega)
    subst hpa hqa
    obtain ⟨x, Hx⟩ : ∃ z, Keep (ps[t]? = some z) := ⟨ps[t]'(by rw [hn.out]; exact htl), ⟨List.getElem?_eq_getElem _⟩⟩
    obtain ⟨y, Hy⟩ : ∃ z, Keep (qs[t]? = some z) := ⟨qs[t]'(by rw [hm.out]; exact htl), ⟨List.getElem?_eq_getElem _⟩⟩
    obtain ⟨h1, h1e⟩ : ∃ z : Array Value, Keep (z = bytesA 32 x.f) := ⟨_, ⟨rfl⟩⟩
    obtain ⟨h2, h2e⟩ : ∃ z : Array Value, Keep (z = bytesA 32 y.f) := ⟨_, ⟨rfl⟩⟩
    have S0 : Keep (wr.drew.rangeAt b (o + t * 32) h1.toList ∧ wr.drew.rangeAt d (o2 + t * 32) h2.toList) := ⟨by
      have hx := (List.getElem?_eq_some_iff.mp Hx.out)
      have hy := (List.getElem?_eq_some_iff.mp Hy.out)
      obtain ⟨lx, ex⟩ := hx
      obtain ⟨ly, ey⟩ := hy
      constructor
      · have h := rangeAt_below (rangeAt_elem hr1 t lx) (B1.out.drew) hb1
        rw [ex] at h
        rw [h1e.out, ← encH_arr]
        simpa using h
      · have h := rangeAt_below (rangeAt_elem hr2 t ly) (B1.out.drew) hb2
        rw [ey] at h
        rw [h2e.out, ← encH_arr]
        simpa using h⟩
    have Bd : Keep (Below w.heap.size w wr.drew) := ⟨B1.out.drew⟩
    cases hxy : decide (x = y)
    · have HE := Keep.mk hxy
      clear hxy
      have hw9 : IntKind.i64.wrap ((t : Int) + 1) = ((t + 1 : Nat) : Int) := by rw [IntKind.wrap_i64]; have := HN.out; omega
      refine wp_seq_k fun K6 hK6 => ?_
      refine wp_seq_k fun K7 hK7 => ?_
      refine wp_region_list (WL.out ?_)
      refine WL.val (by kernel_rfl) (.int .i64 (t : Int)) (by go_simp) ?_
      simp only [Act.put, List.setIfInBounds_toArray, List.set_cons_zero, List.set_cons_succ]
      refine WL.val (by kernel_rfl) (.slice (some ⟨b, o, none⟩) n pc) (by go_simp) ?_
      simp only [Act.put, List.setIfInBounds_toArray, List.set_cons_zero, List.set_cons_succ]
      refine WL.val (by kernel_rfl) (.int .i64 (n : Int)) (by go_simp) ?_
      simp only [Act.put, List.setIfInBounds_toArray, List.set_cons_zero, List.set_cons_succ]
      refine WL.val (by kernel_rfl) (.bool true) (by go_simp) ?_
      simp only [Act.put, List.setIfInBounds_toArray, List.set_cons_zero, List.set_cons_succ]
      refine WL.nil ?_
      refine hK7 _ _ ?_
      refine wp_cond_true rfl ?_
      refine wp_skip ?_
      refine hK6 _ _ ?_
      refine wp_seq_k fun K8 hK8 => ?_
      refine wp_block ?_
      refine wp_seq_k fun K9 hK9 => ?_
      refine wp_region_held_drew (S := fun wx => wx.rangeAt b (o + t * 32) h1.toList ∧ wx.rangeAt d (o2 + t * 32) h2.toList) (by kernel_rfl) (S0.out) (fun hHeld => ?_)
      refine wpAnyH_take (i := 0) (oi := ⟨some 17, Op.move (Operand.tmp 0), 67, _, _, none⟩) (v := .slice (some ⟨b, o, none⟩) n pc) rfl (by kernel_rfl) (by kernel_rfl) (by kernel_rfl) (fun _ _ _ h => h) (Or.inl ⟨by rfl, fun w hS => by clear hS; go_simp⟩) hHeld ?_
      simp only [Act.put, List.setIfInBounds_toArray, List.set_cons_zero, List.set_cons_succ]
      refine wpAnyH_take (i := 1) (oi := ⟨some 18, Op.move (Operand.tmp 5), 3, _, _, none⟩) (v := .int .i64 (t : Int)) rfl (by kernel_rfl) (by kernel_rfl) (by kernel_rfl) (fun _ _ _ h => h) (Or.inl ⟨by rfl, fun w hS => by clear hS; go_simp⟩) hHeld ?_
      simp only [Act.put, List.setIfInBounds_toArray, List.set_cons_zero, List.set_cons_succ]
      refine wpAnyH_take (i := 4) (oi := ⟨some 21, Op.move (Operand.tmp 1), 67, _, _, none⟩) (v := .slice (some ⟨d, o2, none⟩) n qc) rfl (by kernel_rfl) (by kernel_rfl) (by kernel_rfl) (fun _ _ _ h => h) (Or.inl ⟨by rfl, fun w hS => by clear hS; go_simp⟩) hHeld ?_
      simp only [Act.put, List.setIfInBounds_toArray, List.set_cons_zero, List.set_cons_succ]
      refine wpAnyH_take (i := 5) (oi := ⟨some 22, Op.move (Operand.tmp 5), 3, _, _, none⟩) (v := .int .i64 (t : Int)) rfl (by kernel_rfl) (by kernel_rfl) (by kernel_rfl) (fun _ _ _ h => h) (Or.inl ⟨by rfl, fun w hS => by clear hS; go_simp⟩) hHeld ?_
      simp only [Act.put, List.setIfInBounds_toArray, List.set_cons_zero, List.set_cons_succ]
      refine wpAnyH_take (i := 2) (oi := ⟨some 19, Op.indexAddr 67 (Operand.tmp 17) (Operand.tmp 18), 0, _, _, none⟩) (v := .pointer (some ⟨b, o + t * 32, none⟩)) rfl (by kernel_rfl) (by kernel_rfl) (by kernel_rfl) (fun _ _ _ h => h) (Or.inl ⟨by rfl, fun w hS => by clear hS; go_simp⟩) hHeld ?_
      simp only [Act.put, List.setIfInBounds_toArray, List.set_cons_zero, List.set_cons_succ]
      refine wpAnyH_take (i := 6) (oi := ⟨some 23, Op.indexAddr 67 (Operand.tmp 21) (Operand.tmp 22), 0, _, _, none⟩) (v := .pointer (some ⟨d, o2 + t * 32, none⟩)) rfl (by kernel_rfl) (by kernel_rfl) (by kernel_rfl) (fun _ _ _ h => h) (Or.inl ⟨by rfl, fun w hS => by clear hS; go_simp⟩) hHeld ?_
      simp only [Act.put, List.setIfInBounds_toArray, List.set_cons_zero, List.set_cons_succ]
      refine wpAnyH_take (i := 3) (oi := ⟨some 20, Op.load 25 (Operand.tmp 19), 25, _, _, none⟩) (v := .agg h1) rfl (by kernel_rfl) (by kernel_rfl) (by kernel_rfl) (fun _ _ _ h => h) (yieldsIf_ld (by rfl) (Operand.tmp 19) 25 rfl b (o + t * 32) rfl h1 _ Try.underlying25 rfl (by rw [h1e.out]; exact Try.size25B _) fun w hS => hS.1) hHeld ?_
      simp only [Act.put, List.setIfInBounds_toArray, List.set_cons_zero, List.set_cons_succ]
      refine wpAnyH_take (i := 7) (oi := ⟨some 24, Op.load 25 (Operand.tmp 23), 25, _, _, none⟩) (v := .agg h2) rfl (by kernel_rfl) (by kernel_rfl) (by kernel_rfl) (fun _ _ _ h => h) (yieldsIf_ld (by rfl) (Operand.tmp 23) 25 rfl d (o2 + t * 32) rfl h2 _ Try.underlying25 rfl (by rw [h2e.out]; exact Try.size25B _) fun w hS => hS.2) hHeld ?_
      simp only [Act.put, List.setIfInBounds_toArray, List.set_cons_zero, List.set_cons_succ]
      refine wpAnyH_take (i := 8) (oi := ⟨some 25, Op.binOp BinOp.neq 25 (Operand.tmp 20) (Operand.tmp 24) 25, 4, _, _, none⟩) (v := .bool true) rfl (by kernel_rfl) (by kernel_rfl) (by kernel_rfl) (fun _ _ _ h => h) (Or.inl ⟨by rfl, fun w hS => by have hq_ := eqB h1e.out h2e.out HE.out w; clear hS; go_simp⟩) hHeld ?_
      simp only [Act.put, List.setIfInBounds_toArray, List.set_cons_zero, List.set_cons_succ]
      refine wpAnyH_done (by kernel_rfl) ?_ _
      refine hK9 _ _ ?_
      refine wp_cond_true rfl ?_
      refine wp_seq_k fun K10 hK10 => ?_
      refine wp_region_list (WL.out ?_)
      refine WL.val (by kernel_rfl) (.bool false) (by go_simp) ?_
      simp only [Act.put, List.setIfInBounds_toArray, List.set_cons_zero, List.set_cons_succ]
      refine WL.nil ?_
      refine hK10 _ _ ?_
      refine wp_ret ?_
      go_ret
      have hf : decide (ps = qs) = false := decide_eq_false fun e => of_decide_eq_false HE.out (Option.some.inj (Hx.out.symm.trans ((congrArg (·[t]?) e).trans Hy.out)))
      rw [hf]
      exact ⟨rfl, Bd.out⟩
    · have HE := Keep.mk hxy
      clear hxy
      have hw9 : IntKind.i64.wrap ((t : Int) + 1) = ((t + 1 : Nat) : Int) := by rw [IntKind.wrap_i64]; have := HN.out; omega
      refine wp_seq_k fun K11 hK11 => ?_
      refine wp_seq_k fun K12 hK12 => ?_
      refine wp_region_list (WL.out ?_)
      refine WL.val (by kernel_rfl) (.int .i64 (t : Int)) (by go_simp) ?_
      simp only [Act.put, List.setIfInBounds_toArray, List.set_cons_zero, List.set_cons_succ]
      refine WL.val (by kernel_rfl) (.slice (some ⟨b, o, none⟩) n pc) (by go_simp) ?_
      simp only [Act.put, List.setIfInBounds_toArray, List.set_cons_zero, List.set_cons_succ]
      refine WL.val (by kernel_rfl) (.int .i64 (n : Int)) (by go_simp) ?_
      simp only [Act.put, List.setIfInBounds_toArray, List.set_cons_zero, List.set_cons_succ]
      refine WL.val (by kernel_rfl) (.bool true) (by go_simp) ?_
      simp only [Act.put, List.setIfInBounds_toArray, List.set_cons_zero, List.set_cons_succ]
      refine WL.nil ?_
      refine hK12 _ _ ?_
      refine wp_cond_true rfl ?_
      refine wp_skip ?_
      refine hK11 _ _ ?_
      refine wp_seq_k fun K13 hK13 => ?_
      refine wp_block ?_
      refine wp_seq_k fun K14 hK14 => ?_
      refine wp_region_held_drew (S := fun wx => wx.rangeAt b (o + t * 32) h1.toList ∧ wx.rangeAt d (o2 + t * 32) h2.toList) (by kernel_rfl) (S0.out) (fun hHeld => ?_)
      refine wpAnyH_take (i := 0) (oi := ⟨some 17, Op.move (Operand.tmp 0), 67, _, _, none⟩) (v := .slice (some ⟨b, o, none⟩) n pc) rfl (by kernel_rfl) (by kernel_rfl) (by kernel_rfl) (fun _ _ _ h => h) (Or.inl ⟨by rfl, fun w hS => by clear hS; go_simp⟩) hHeld ?_
      simp only [Act.put, List.setIfInBounds_toArray, List.set_cons_zero, List.set_cons_succ]
      refine wpAnyH_take (i := 1) (oi := ⟨some 18, Op.move (Operand.tmp 5), 3, _, _, none⟩) (v := .int .i64 (t : Int)) rfl (by kernel_rfl) (by kernel_rfl) (by kernel_rfl) (fun _ _ _ h => h) (Or.inl ⟨by rfl, fun w hS => by clear hS; go_simp⟩) hHeld ?_
      simp only [Act.put, List.setIfInBounds_toArray, List.set_cons_zero, List.set_cons_succ]
      refine wpAnyH_take (i := 4) (oi := ⟨some 21, Op.move (Operand.tmp 1), 67, _, _, none⟩) (v := .slice (some ⟨d, o2, none⟩) n qc) rfl (by kernel_rfl) (by kernel_rfl) (by kernel_rfl) (fun _ _ _ h => h) (Or.inl ⟨by rfl, fun w hS => by clear hS; go_simp⟩) hHeld ?_
      simp only [Act.put, List.setIfInBounds_toArray, List.set_cons_zero, List.set_cons_succ]
      refine wpAnyH_take (i := 5) (oi := ⟨some 22, Op.move (Operand.tmp 5), 3, _, _, none⟩) (v := .int .i64 (t : Int)) rfl (by kernel_rfl) (by kernel_rfl) (by kernel_rfl) (fun _ _ _ h => h) (Or.inl ⟨by rfl, fun w hS => by clear hS; go_simp⟩) hHeld ?_
      simp only [Act.put, List.setIfInBounds_toArray, List.set_cons_zero, List.set_cons_succ]
      refine wpAnyH_take (i := 2) (oi := ⟨some 19, Op.indexAddr 67 (Operand.tmp 17) (Operand.tmp 18), 0, _, _, none⟩) (v := .pointer (some ⟨b, o + t * 32, none⟩)) rfl (by kernel_rfl) (by kernel_rfl) (by kernel_rfl) (fun _ _ _ h => h) (Or.inl ⟨by rfl, fun w hS => by clear hS; go_simp⟩) hHeld ?_
      simp only [Act.put, List.setIfInBounds_toArray, List.set_cons_zero, List.set_cons_succ]
      refine wpAnyH_take (i := 6) (oi := ⟨some 23, Op.indexAddr 67 (Operand.tmp 21) (Operand.tmp 22), 0, _, _, none⟩) (v := .pointer (some ⟨d, o2 + t * 32, none⟩)) rfl (by kernel_rfl) (by kernel_rfl) (by kernel_rfl) (fun _ _ _ h => h) (Or.inl ⟨by rfl, fun w hS => by clear hS; go_simp⟩) hHeld ?_
      simp only [Act.put, List.setIfInBounds_toArray, List.set_cons_zero, List.set_cons_succ]
      refine wpAnyH_take (i := 3) (oi := ⟨some 20, Op.load 25 (Operand.tmp 19), 25, _, _, none⟩) (v := .agg h1) rfl (by kernel_rfl) (by kernel_rfl) (by kernel_rfl) (fun _ _ _ h => h) (yieldsIf_ld (by rfl) (Operand.tmp 19) 25 rfl b (o + t * 32) rfl h1 _ Try.underlying25 rfl (by rw [h1e.out]; exact Try.size25B _) fun w hS => hS.1) hHeld ?_
      simp only [Act.put, List.setIfInBounds_toArray, List.set_cons_zero, List.set_cons_succ]
      refine wpAnyH_take (i := 7) (oi := ⟨some 24, Op.load 25 (Operand.tmp 23), 25, _, _, none⟩) (v := .agg h2) rfl (by kernel_rfl) (by kernel_rfl) (by kernel_rfl) (fun _ _ _ h => h) (yieldsIf_ld (by rfl) (Operand.tmp 23) 25 rfl d (o2 + t * 32) rfl h2 _ Try.underlying25 rfl (by rw [h2e.out]; exact Try.size25B _) fun w hS => hS.2) hHeld ?_
      simp only [Act.put, List.setIfInBounds_toArray, List.set_cons_zero, List.set_cons_succ]
      refine wpAnyH_take (i := 8) (oi := ⟨some 25, Op.binOp BinOp.neq 25 (Operand.tmp 20) (Operand.tmp 24) 25, 4, _, _, none⟩) (v := .bool false) rfl (by kernel_rfl) (by kernel_rfl) (by kernel_rfl) (fun _ _ _ h => h) (Or.inl ⟨by rfl, fun w hS => by have hq_ := eqB h1e.out h2e.out HE.out w; clear hS; go_simp⟩) hHeld ?_
      simp only [Act.put, List.setIfInBounds_toArray, List.set_cons_zero, List.set_cons_succ]
      refine wpAnyH_done (by kernel_rfl) ?_ _
      refine hK14 _ _ ?_
      refine wp_cond_false rfl ?_
      refine wp_skip ?_
      refine hK13 _ _ ?_
      refine wp_region_list (WL.out ?_)
      refine WL.val (by kernel_rfl) (.int .i64 (t : Int)) (by go_simp) ?_
      simp only [Act.put, List.setIfInBounds_toArray, List.set_cons_zero, List.set_cons_succ]
      refine WL.val (by kernel_rfl) (.int .i64 ((t + 1 : Nat) : Int)) (by go_simp) ?_
      simp only [Act.put, List.setIfInBounds_toArray, List.set_cons_zero, List.set_cons_succ]
      refine WL.val (by kernel_rfl) (.int .i64 ((t + 1 : Nat) : Int)) (by go_simp) ?_
      simp only [Act.put, List.setIfInBounds_toArray, List.set_cons_zero, List.set_cons_succ]
      refine WL.nil ?_
      refine ⟨⟨t + 1, fun zz => [.slice (some ⟨b, o, none⟩) n pc, .slice (some ⟨d, o2, none⟩) n qc, undef, undef, f 4, .int .i64 ((t + 1 : Nat) : Int), .slice (some ⟨b, o, none⟩) n pc, .int .i64 (n : Int), .slice (some ⟨d, o2, none⟩) n qc, .int .i64 (n : Int), .bool false, .int .i64 (t : Int), .slice (some ⟨b, o, none⟩) n pc, .int .i64 (n : Int), .bool true, .int .i64 (t : Int), .int .i64 ((t + 1 : Nat) : Int), .slice (some ⟨b, o, none⟩) n pc, .int .i64 (t : Int), .pointer (some ⟨b, o + t * 32, none⟩), .agg h1, .slice (some ⟨d, o2, none⟩) n qc, .int .i64 (t : Int), .pointer (some ⟨d, o2 + t * 32, none⟩), .agg h2, .bool false].getD zz undef, rfl, by omega, Bd.out, fun i hi => ?_⟩, ?_⟩
      · by_cases e : i = t
        · subst e; rw [Hx.out, Hy.out, of_decide_eq_true HE.out]
        · exact HI.out i (by omega)
      · simp only [intOf]; show n - (((t + 1 : Nat) : Int)).toNat < n - ((t : Int)).toNat; omega
  · have htl' : ¬ (t : Int) < (n : Int) := by omega
    have hf : Keep (decide (ps = qs) = true) := ⟨decide_eq_true (List.ext_getElem? fun i => by
      by_cases hi : i < t
      · exact HI.out i hi
      · rw [List.getElem?_eq_none (by rw [hn.out]; omega), List.getElem?_eq_none (by rw [hm.out]; omega)])⟩
    refine wp_seq_k fun K15 hK15 => ?_
    refine wp_seq_k fun K16 hK16 => ?_
    refine wp_region_list (WL.out ?_)
    refine WL.val (by kernel_rfl) (.int .i64 (t : Int)) (by go_simp) ?_
    simp only [Act.put, List.setIfInBounds_toArray, List.set_cons_zero, List.set_cons_succ]
    refine WL.val (by kernel_rfl) (.slice pa n pc) (by go_simp) ?_
    simp only [Act.put, List.setIfInBounds_toArray, List.set_cons_zero, List.set_cons_succ]
    refine WL.val (by kernel_rfl) (.int .i64 (n : Int)) (by go_simp) ?_
    simp only [Act.put, List.setIfInBounds_toArray, List.set_cons_zero, List.set_cons_succ]
    refine WL.val (by kernel_rfl) (.bool false) (by go_simp) ?_
    simp only [Act.put, List.setIfInBounds_toArray, List.set_cons_zero, List.set_cons_succ]
    refine WL.nil ?_
    refine hK16 _ _ ?_
    refine wp_cond_false rfl ?_
    refine wp_exit ?_
    refine hK4 _ _ ?_
    refine wp_seq_k fun K17 hK17 => ?_
    refine wp_region_list (WL.out ?_)
    refine WL.val (by kernel_rfl) (.bool true) (by go_simp) ?_
    simp only [Act.put, List.setIfInBounds_toArray, List.set_cons_zero, List.set_cons_succ]
    refine WL.nil ?_
    refine hK17 _ _ ?_
    refine wp_ret ?_
    go_ret
    rw [hf.out]
    exact ⟨rfl, B1.out⟩

theorem smh_any (v u : Value) (ps qs : List Hs) (w : World) (hv : HPa w.heap.size w v ps) (hu : HPa w.heap.size w u qs) (hN : ps.length ≤ 4398046511104) : Calls Try.prog 34 #[v, u] w fun e w' => e = .returned (.bool (decide (ps = qs))) ∧ Below w.heap.size w w' := by
  have form : ∀ (v : Value) (ps : List Hs), HPa w.heap.size w v ps → ∃ pa pc, v = .slice pa ps.length pc ∧ (0 < ps.length → ∃ b o, pa = some ⟨b, o, none⟩ ∧ b < w.heap.size ∧ w.rangeAt b o (flatH ps)) := fun v ps h => by
    rcases h with ⟨a, c, rfl, rfl⟩ | ⟨b, off, cap, rfl, h2, h3, h4⟩
    · exact ⟨a, c, rfl, fun h => by simp at h⟩
    · exact ⟨_, cap, rfl, fun _ => ⟨b, off, rfl, h3, h4⟩⟩
  obtain ⟨pa, pc, rfl, h1⟩ := form v ps hv
  obtain ⟨qa, qc, rfl, h2⟩ := form u qs hu
  by_cases hl : ps.length = qs.length
  · rw [← hl] at h2 ⊢
    exact smh_eq pa qa _ pc qc ps qs w ⟨rfl⟩ ⟨hl.symm⟩ ⟨hN⟩ ⟨h1⟩ ⟨h2⟩
  · exact smh_len pa qa _ pc _ qc ps qs w ⟨decide_eq_false fun e => hl (by rw [e])⟩ hl

theorem Try.in14 (w : World) (vs : Array Value) : (callFunc 14 vs).run Try.prog w = .ok (.enter 14 vs) w := by kernel_rfl
theorem HPa.mono {B B' : Nat} {w : World} {v : Value} {ps : List Hs} (h : HPa B w v ps) (hB : B ≤ B') : HPa B' w v ps := by
  rcases h with h | ⟨b, off, cap, h1, h2, h3, h4⟩
  · exact .inl h
  · exact .inr ⟨b, off, cap, h1, h2, Nat.lt_of_lt_of_le h3 hB, h4⟩
def sameL (x y : LV) : Bool := decide (x.num = y.num) && (sameC x.c y.c && decide (x.ps = y.ps))
def SameW (n : Int) (ls : List LV) (m : Int) (ms : List LV) : Prop := n = m ∧ ls.length = ms.length ∧ ∀ (i : Nat) (x y : LV), ls[i]? = some x → ms[i]? = some y → sameL x y = true
def SwP (n : Int) (ls : List LV) (m : Int) (ms : List LV) (w : World) (e : Ending) (w' : World) : Prop := ∃ b : Bool, e = .returned (.bool b) ∧ (b = true ↔ SameW n ls m ms) ∧ Below w.heap.size w w'
set_option maxRecDepth 8000 in
theorem sw_num (la lb : Option Addr) (k ca j cb : Nat) (n : Int) (ls ms : List LV) (w : World) (m : Int) (hne : ¬ n = m) (hno : Keep (¬ SameW n ls m ms)) : Calls Try.prog 14 #[.agg #[.int .i64 n, .slice la k ca], .agg #[.int .i64 m, .slice lb j cb]] w (SwP n ls m ms w) := by
  have hne' : (n == m) = false := by simpa using hne
  go_enter Try.func14, Try.ntmps14
  refine wp_seq_k fun K1 hK1 => ?_
  refine wp_region_list (WL.out ?_)
  refine WL.box (by kernel_rfl) 31 (.tmp 0) rfl #[.int .i64 n, .slice la k ca] rfl ?_
  have P1 := Keep.mk (Blk.new w 31 #[.int .i64 n, .slice la k ca])
  have b_ := below_new w (.cells #[.int .i64 n, .slice la k ca] 31)
  change WL _ _ _ _ _ (w.alloc (.cells #[.int .i64 n, .slice la k ca] 31))
  generalize w.alloc (.cells #[.int .i64 n, .slice la k ca] 31) = w1 at *
  obtain ⟨p, hp0⟩ : ∃ z, Keep (z = w.heap.size) := ⟨_, ⟨rfl⟩⟩
  rw [← hp0.out] at P1 ⊢
  have B1 : Keep (Below w.heap.size w w1) := ⟨b_⟩
  have gp : Keep (w.heap.size ≤ p) := ⟨by rw [hp0.out]; exact Nat.le_refl _⟩
  clear b_
  simp only [Act.put, List.setIfInBounds_toArray, List.set_cons_zero, List.set_cons_succ]
  refine WL.box (by kernel_rfl) 31 (.tmp 1) rfl #[.int .i64 m, .slice lb j cb] rfl ?_
  have Q2 := Keep.mk (Blk.new w1 31 #[.int .i64 m, .slice lb j cb])
  have b_ := below_new w1 (.cells #[.int .i64 m, .slice lb j cb] 31)
  change WL _ _ _ _ _ (w1.alloc (.cells #[.int .i64 m, .slice lb j cb] 31))
  generalize w1.alloc (.cells #[.int .i64 m, .slice lb j cb] 31) = w2 at *
  obtain ⟨q, hq0⟩ : ∃ z, Keep (z = w1.heap.size) := ⟨_, ⟨rfl⟩⟩
  rw [← hq0.out] at Q2 ⊢
  have P2 := Keep.mk (P1.out.below b_ P1.out.lt)
  have B2 : Keep (Below w.heap.size w w2) := ⟨B1.out.trans (b_.mono B1.out.size)⟩
  have gq : Keep (w.heap.size ≤ q) := ⟨by rw [hq0.out]; exact B1.out.size⟩
  clear b_
  have p0_ := P2.out.c 0 (by rfl)
  have p1_ := P2.out.c 1 (by rfl)
  have q0_ := Q2.out.c 0 (by rfl)
  have q1_ := Q2.out.c 1 (by rfl)
  simp only [Act.put, List.setIfInBounds_toArray, List.set_cons_zero, List.set_cons_succ]
  refine WL.val (by kernel_rfl) (.bool false) (by go_simp) ?_
  simp only [Act.put, List.setIfInBounds_toArray, List.set_cons_zero, List.set_cons_succ]
  refine WL.nil ?_
  refine hK1 _ _ ?_
  refine wp_seq_k fun K2 hK2 => ?_
  refine wp_seq_k fun K3 hK3 => ?_
  refine wp_region_list (WL.out ?_)
  refine WL.val (by kernel_rfl) (.pointer (some ⟨p, 0, none⟩)) (by go_simp) ?_
  simp only [Act.put, List.setIfInBounds_toArray, List.set_cons_zero, List.set_cons_succ]
  refine WL.val (by kernel_rfl) (.int .i64 n) (by go_simp) ?_
  simp only [Act.put, List.setIfInBounds_toArray, List.set_cons_zero, List.set_cons_succ]
  refine WL.val (by kernel_rfl) (.pointer (some ⟨q, 0, none⟩)) (by go_simp) ?_
  simp only [Act.put, List.setIfInBounds_toArray, List.set_cons_zero, List.set_cons_succ]
  refine WL.val (by kernel_rfl) (.int .i64 m) (by go_simp) ?_
  simp only [Act.put, List.setIfInBounds_toArray, List.set_cons_zero, List.set_cons_succ]
  refine WL.val (by kernel_rfl) (.bool true) (by go_simp) ?_
  simp only [Act.put, List.setIfInBounds_toArray, List.set_cons_zero, List.set_cons_succ]
  refine WL.val (by kernel_rfl) (.bool true) (by go_simp) ?_
  simp only [Act.put, List.setIfInBounds_toArray, List.set_cons_zero, List.set_cons_succ]
  refine WL.skip (by kernel_rfl) ?_
  simp only [Act.put, List.setIfInBounds_toArray, List.set_cons_zero, List.set_cons_succ]
  refine WL.skip (by kernel_rfl) ?_
  simp only [Act.put, List.setIfInBounds_toArray, List.set_cons_zero, List.set_cons_succ]
  refine WL.skip (by kernel_rfl) ?_
  simp only [Act.put, List.setIfInBounds_toArray, List.set_cons_zero, List.set_cons_succ]
  refine WL.skip (by kernel_rfl) ?_
  simp only [Act.put, List.setIfInBounds_toArray, List.set_cons_zero, List.set_cons_succ]
  refine WL.skip (by kernel_rfl) ?_
  simp only [Act.put, List.setIfInBounds_toArray, List.set_cons_zero, List.set_cons_succ]
  refine WL.skip (by kernel_rfl) ?_
  simp only [Act.put, List.setIfInBounds_toArray, List.set_cons_zero, List.set_cons_succ]
  refine WL.skip (by kernel_rfl) ?_
  simp only [Act.put, List.setIfInBounds_toArray, List.set_cons_zero, List.set_cons_succ]
  refine WL.val (by kernel_rfl) (.bool true) (by go_simp) ?_
  simp only [Act.put, List.setIfInBounds_toArray, List.set_cons_zero, List.set_cons_succ]
  refine WL.nil ?_
  refine hK3 _ _ ?_
  refine wp_cond_true rfl ?_
  refine wp_seq_k fun K4 hK4 => ?_
  refine wp_region_list (WL.out ?_)
  refine WL.val (by kernel_rfl) (.bool false) (by go_simp) ?_
  simp only [Act.put, List.setIfInBounds_toArray, List.set_cons_zero, List.set_cons_succ]
  refine WL.nil ?_
  refine hK4 _ _ ?_
  refine wp_ret ?_
  go_ret
  exact ⟨false, rfl, ⟨fun h => (by cases h), fun h => absurd h hno.out⟩, B2.out⟩
set_option maxRecDepth 8000 in
theorem sw_len (la lb : Option Addr) (k ca j cb : Nat) (n : Int) (ls ms : List LV) (w : World) (hne : ¬ k = j) (hno : Keep (¬ SameW n ls n ms)) : Calls Try.prog 14 #[.agg #[.int .i64 n, .slice la k ca], .agg #[.int .i64 n, .slice lb j cb]] w (SwP n ls n ms w) := by
  have hne' : ((k : Int) == (j : Int)) = false := by simp; omega
  have hne2 : ¬ (k : Int) = (j : Int) := by omega
  go_enter Try.func14, Try.ntmps14
  refine wp_seq_k fun K1 hK1 => ?_
  refine wp_region_list (WL.out ?_)
  refine WL.box (by kernel_rfl) 31 (.tmp 0) rfl #[.int .i64 n, .slice la k ca] rfl ?_
  have P1 := Keep.mk (Blk.new w 31 #[.int .i64 n, .slice la k ca])
  have b_ := below_new w (.cells #[.int .i64 n, .slice la k ca] 31)
  change WL _ _ _ _ _ (w.alloc (.cells #[.int .i64 n, .slice la k ca] 31))
  generalize w.alloc (.cells #[.int .i64 n, .slice la k ca] 31) = w1 at *
  obtain ⟨p, hp0⟩ : ∃ z, Keep (z = w.heap.size) := ⟨_, ⟨rfl⟩⟩
  rw [← hp0.out] at P1 ⊢
  have B1 : Keep (Below w.heap.size w w1) := ⟨b_⟩
  have gp : Keep (w.heap.size ≤ p) := ⟨by rw [hp0.out]; exact Nat.le_refl _⟩
  clear b_
  simp only [Act.put, List.setIfInBounds_toArray, List.set_cons_zero, List.set_cons_succ]
  refine WL.box (by kernel_rfl) 31 (.tmp 1) rfl #[.int .i64 n, .slice lb j cb] rfl ?_
  have Q2 := Keep.mk (Blk.new w1 31 #[.int .i64 n, .slice lb j cb])
  have b_ := below_new w1 (.cells #[.int .i64 n, .slice lb j cb] 31)
  change WL _ _ _ _ _ (w1.alloc (.cells #[.int .i64 n, .slice lb j cb] 31))
  generalize w1.alloc (.cells #[.int .i64 n, .slice lb j cb] 31) = w2 at *
  obtain ⟨q, hq0⟩ : ∃ z, Keep (z = w1.heap.size) := ⟨_, ⟨rfl⟩⟩
  rw [← hq0.out] at Q2 ⊢
  have P2 := Keep.mk (P1.out.below b_ P1.out.lt)
  have B2 : Keep (Below w.heap.size w w2) := ⟨B1.out.trans (b_.mono B1.out.size)⟩
  have gq : Keep (w.heap.size ≤ q) := ⟨by rw [hq0.out]; exact B1.out.size⟩
  clear b_
  have p0_ := P2.out.c 0 (by rfl)
  have p1_ := P2.out.c 1 (by rfl)
  have q0_ := Q2.out.c 0 (by rfl)
  have q1_ := Q2.out.c 1 (by rfl)
  simp only [Act.put, List.setIfInBounds_toArray, List.set_cons_zero, List.set_cons_succ]
  refine WL.val (by kernel_rfl) (.bool false) (by go_simp) ?_
  simp only [Act.put, List.setIfInBounds_toArray, List.set_cons_zero, List.set_cons_succ]
  refine WL.nil ?_
  refine hK1 _ _ ?_
  refine wp_seq_k fun K2 hK2 => ?_
  refine wp_seq_k fun K3 hK3 => ?_
  refine wp_region_list (WL.out ?_)
  refine WL.val (by kernel_rfl) (.pointer (some ⟨p, 0, none⟩)) (by go_simp) ?_
  simp only [Act.put, List.setIfInBounds_toArray, List.set_cons_zero, List.set_cons_succ]
  refine WL.val (by kernel_rfl) (.int .i64 n) (by go_simp) ?_
  simp only [Act.put, List.setIfInBounds_toArray, List.set_cons_zero, List.set_cons_succ]
  refine WL.val (by kernel_rfl) (.pointer (some ⟨q, 0, none⟩)) (by go_simp) ?_
  simp only [Act.put, List.setIfInBounds_toArray, List.set_cons_zero, List.set_cons_succ]
  refine WL.val (by kernel_rfl) (.int .i64 n) (by go_simp) ?_
  simp only [Act.put, List.setIfInBounds_toArray, List.set_cons_zero, List.set_cons_succ]
  refine WL.val (by kernel_rfl) (.bool false) (by go_simp) ?_
  simp only [Act.put, List.setIfInBounds_toArray, List.set_cons_zero, List.set_cons_succ]
  refine WL.val (by kernel_rfl) (.bool false) (by go_simp) ?_
  simp only [Act.put, List.setIfInBounds_toArray, List.set_cons_zero, List.set_cons_succ]
  refine WL.val (by kernel_rfl) (.pointer (some ⟨p, 1, none⟩)) (by go_simp) ?_
  simp only [Act.put, List.setIfInBounds_toArray, List.set_cons_zero, List.set_cons_succ]
  refine WL.val (by kernel_rfl) (.slice la k ca) (by go_simp) ?_
  simp only [Act.put, List.setIfInBounds_toArray, List.set_cons_zero, List.set_cons_succ]
  refine WL.val (by kernel_rfl) (.int .i64 (k : Int)) (by go_simp) ?_
  simp only [Act.put, List.setIfInBounds_toArray, List.set_cons_zero, List.set_cons_succ]
  refine WL.val (by kernel_rfl) (.pointer (some ⟨q, 1, none⟩)) (by go_simp) ?_
  simp only [Act.put, List.setIfInBounds_toArray, List.set_cons_zero, List.set_cons_succ]
  refine WL.val (by kernel_rfl) (.slice lb j cb) (by go_simp) ?_
  simp only [Act.put, List.setIfInBounds_toArray, List.set_cons_zero, List.set_cons_succ]
  refine WL.val (by kernel_rfl) (.int .i64 (j : Int)) (by go_simp) ?_
  simp only [Act.put, List.setIfInBounds_toArray, List.set_cons_zero, List.set_cons_succ]
  refine WL.val (by kernel_rfl) (.bool true) (by go_simp) ?_
  simp only [Act.put, List.setIfInBounds_toArray, List.set_cons_zero, List.set_cons_succ]
  refine WL.val (by kernel_rfl) (.bool true) (by go_simp) ?_
  simp only [Act.put, List.setIfInBounds_toArray, List.set_cons_zero, List.set_cons_succ]
  refine WL.nil ?_
  refine hK3 _ _ ?_
  refine wp_cond_true rfl ?_
  refine wp_seq_k fun K4 hK4 => ?_
  refine wp_region_list (WL.out ?_)
  refine WL.val (by kernel_rfl) (.bool false) (by go_simp) ?_
  simp only [Act.put, List.setIfInBounds_toArray, List.set_cons_zero, List.set_cons_succ]
  refine WL.nil ?_
  refine hK4 _ _ ?_
  refine wp_ret ?_
  go_ret
  exact ⟨false, rfl, ⟨fun h => (by cases h), fun h => absurd h hno.out⟩, B2.out⟩
set_option maxRecDepth 8000 in
set_option maxHeartbeats 2000000 in
theorem sw_loop (la lb : Option Addr) (k ca cb : Nat) (n : Int) (ls ms : List LV) (w : World) (hn : Keep (ls.length = k)) (hm : Keep (ms.length = k)) (HN : Keep (k ≤ 4398046511104)) (HL : Keep (0 < k → ∃ b o, la = some ⟨b, o, none⟩ ∧ LsAt w.heap.size w b o ls)) (HM : Keep (0 < k → ∃ b o, lb = some ⟨b, o, none⟩ ∧ LsAt w.heap.size w b o ms)) (HSz : Keep (∀ x ∈ ls, x.ps.length ≤ 4398046511104)) : Calls Try.prog 14 #[.agg #[.int .i64 n, .slice la k ca], .agg #[.int .i64 n, .slice lb k cb]] w (SwP n ls n ms w) := by
  have hnn0 : (n == n) = true := by simp
  have hkk0 : ((k : Int) == (k : Int)) = true := by simp
  go_enter Try.func14, Try.ntmps14
  refine wp_seq_k fun K1 hK1 => ?_
  refine wp_region_list (WL.out ?_)
  refine WL.box (by kernel_rfl) 31 (.tmp 0) rfl #[.int .i64 n, .slice la k ca] rfl ?_
  have P1 := Keep.mk (Blk.new w 31 #[.int .i64 n, .slice la k ca])
  have b_ := below_new w (.cells #[.int .i64 n, .slice la k ca] 31)
  change WL _ _ _ _ _ (w.alloc (.cells #[.int .i64 n, .slice la k ca] 31))
  generalize w.alloc (.cells #[.int .i64 n, .slice la k ca] 31) = w1 at *
  obtain ⟨p, hp0⟩ : ∃ z, Keep (z = w.heap.size) := ⟨_, ⟨rfl⟩⟩
  rw [← hp0.out] at P1 ⊢
  have B1 : Keep (Below w.heap.size w w1) := ⟨b_⟩
  have gp : Keep (w.heap.size ≤ p) := ⟨by rw [hp0.out]; exact Nat.le_refl _⟩
  clear b_
  simp only [Act.put, List.setIfInBounds_toArray, List.set_cons_zero, List.set_cons_succ]
  refine WL.box (by kernel_rfl) 31 (.tmp 1) rfl #[.int .i64 n, .slice lb k cb] rfl ?_
  have Q2 := Keep.mk (Blk.new w1 31 #[.int .i64 n, .slice lb k cb])
  have b_ := below_new w1 (.cells #[.int .i64 n, .slice lb k cb] 31)
  change WL _ _ _ _ _ (w1.alloc (.cells #[.int .i64 n, .slice lb k cb] 31))
  generalize w1.alloc (.cells #[.int .i64 n, .slice lb k cb] 31) = w2 at *
  obtain ⟨q, hq0⟩ : ∃ z, Keep (z = w1.heap.size) := ⟨_, ⟨rfl⟩⟩
  rw [← hq0.out] at Q2 ⊢
  have P2 := Keep.mk (P1.out.below b_ P1.out.lt)
  have B2 : Keep (Below w.heap.size w w2) := ⟨B1.out.trans (b_.mono B1.out.size)⟩
  have gq : Keep (w.heap.size ≤ q) := ⟨by rw [hq0.out]; exact B1.out.size⟩
  clear b_
  have p0_ := P2.out.c 0 (by rfl)
  have p1_ := P2.out.c 1 (by rfl)
  have q0_ := Q2.out.c 0 (by rfl)
  have q1_ := Q2.out.c 1 (by rfl)
  simp only [Act.put, List.setIfInBounds_toArray, List.set_cons_zero, List.set_cons_succ]
  refine WL.val (by kernel_rfl) (.bool false) (by go_simp) ?_
  simp only [Act.put, List.setIfInBounds_toArray, List.set_cons_zero, List.set_cons_succ]
  refine WL.nil ?_
  refine hK1 _ _ ?_
  refine wp_seq_k fun K2 hK2 => ?_
  refine wp_seq_k fun K3 hK3 => ?_
  refine wp_region_list (WL.out ?_)
  refine WL.val (by kernel_rfl) (.pointer (some ⟨p, 0, none⟩)) (by go_simp) ?_
  simp only [Act.put, List.setIfInBounds_toArray, List.set_cons_zero, List.set_cons_succ]
  refine WL.val (by kernel_rfl) (.int .i64 n) (by go_simp) ?_
  simp only [Act.put, List.setIfInBounds_toArray, List.set_cons_zero, List.set_cons_succ]
  refine WL.val (by kernel_rfl) (.pointer (some ⟨q, 0, none⟩)) (by go_simp) ?_
  simp only [Act.put, List.setIfInBounds_toArray, List.set_cons_zero, List.set_cons_succ]
  refine WL.val (by kernel_rfl) (.int .i64 n) (by go_simp) ?_
  simp only [Act.put, List.setIfInBounds_toArray, List.set_cons_zero, List.set_cons_succ]
  refine WL.val (by kernel_rfl) (.bool false) (by go_simp) ?_
  simp only [Act.put, List.setIfInBounds_toArray, List.set_cons_zero, List.set_cons_succ]
  refine WL.val (by kernel_rfl) (.bool false) (by go_simp) ?_
  simp only [Act.put, List.setIfInBounds_toArray, List.set_cons_zero, List.set_cons_succ]
  refine WL.val (by kernel_rfl) (.pointer (some ⟨p, 1, none⟩)) (by go_simp) ?_
  simp only [Act.put, List.setIfInBounds_toArray, List.set_cons_zero, List.set_cons_succ]
  refine WL.val (by kernel_rfl) (.slice la k ca) (by go_simp) ?_
  simp only [Act.put, List.setIfInBounds_toArray, List.set_cons_zero, List.set_cons_succ]
  refine WL.val (by kernel_rfl) (.int .i64 (k : Int)) (by go_simp) ?_
  simp only [Act.put, List.setIfInBounds_toArray, List.set_cons_zero, List.set_cons_succ]
  refine WL.val (by kernel_rfl) (.pointer (some ⟨q, 1, none⟩)) (by go_simp) ?_
  simp only [Act.put, List.setIfInBounds_toArray, List.set_cons_zero, List.set_cons_succ]
  refine WL.val (by kernel_rfl) (.slice lb k cb) (by go_simp) ?_
  simp only [Act.put, List.setIfInBounds_toArray, List.set_cons_zero, List.set_cons_succ]
  refine WL.val (by kernel_rfl) (.int .i64 (k : Int)) (by go_simp) ?_
  simp only [Act.put, List.setIfInBounds_toArray, List.set_cons_zero, List.set_cons_succ]
  refine WL.val (by kernel_rfl) (.bool false) (by go_simp) ?_
  simp only [Act.put, List.setIfInBounds_toArray, List.set_cons_zero, List.set_cons_succ]
  refine WL.val (by kernel_rfl) (.bool false) (by go_simp) ?_
  simp only [Act.put, List.setIfInBounds_toArray, List.set_cons_zero, List.set_cons_succ]
  refine WL.nil ?_
  refine hK3 _ _ ?_
  refine wp_cond_false rfl ?_
  refine wp_skip ?_
  refine hK2 _ _ ?_
  refine wp_seq_k fun K4 hK4 => ?_
  refine wp_seq_k fun K5 hK5 => ?_
  refine wp_region_list (WL.out ?_)
  refine WL.val (by kernel_rfl) (.int .i64 0) (by go_simp) ?_
  simp only [Act.put, List.setIfInBounds_toArray, List.set_cons_zero, List.set_cons_succ]
  refine WL.nil ?_
  refine hK5 _ _ ?_
  refine wp_block ?_
  refine wp_loop (fun ac wr => ∃ (t : Nat) (f : Nat → Value), ac = { tmps := #[.agg #[.int .i64 n, .slice la k ca], .agg #[.int .i64 n, .slice lb k cb], .pointer (some ⟨p, 0, none⟩), .pointer (some ⟨q, 0, none⟩), f 4, .int .i64 (t : Int), f 6, f 7, f 8, f 9, .pointer (some ⟨p, 0, none⟩), .int .i64 n, .pointer (some ⟨q, 0, none⟩), .int .i64 n, .bool false, .bool false, .pointer (some ⟨p, 1, none⟩), .slice la k ca, .int .i64 (k : Int), .pointer (some ⟨q, 1, none⟩), .slice lb k cb, .int .i64 (k : Int), .bool false, .bool false, f 24, f 25, f 26, f 27, f 28, f 29, f 30, f 31, f 32, f 33, f 34, f 35, f 36, f 37, f 38, f 39, f 40, f 41, f 42, f 43, f 44, f 45, f 46, f 47, f 48, f 49, f 50, f 51, f 52, f 53, f 54, f 55, f 56, f 57, f 58, f 59, f 60, f 61, f 62, f 63], defers := [] } ∧ t ≤ k ∧ Below w2.heap.size w2 wr ∧ (∀ (i : Nat) (x y : LV), i < t → ls[i]? = some x → ms[i]? = some y → sameL x y = true)) (fun a _ => k - (intOf (a.tmps.getD 5 undef)).toNat) ⟨0, fun zz => [.agg #[.int .i64 n, .slice la k ca], .agg #[.int .i64 n, .slice lb k cb], .pointer (some ⟨p, 0, none⟩), .pointer (some ⟨q, 0, none⟩), .bool false, .int .i64 0, undef, undef, undef, undef, .pointer (some ⟨p, 0, none⟩), .int .i64 n, .pointer (some ⟨q, 0, none⟩), .int .i64 n, .bool false, .bool false, .pointer (some ⟨p, 1, none⟩), .slice la k ca, .int .i64 (k : Int), .pointer (some ⟨q, 1, none⟩), .slice lb k cb, .int .i64 (k : Int), .bool false, .bool false, undef, undef, undef, undef, undef, undef, undef, undef, undef, undef, undef, undef, undef, undef, undef, undef, undef, undef, undef, undef, undef, undef, undef, undef, undef, undef, undef, undef, undef, undef, undef, undef, undef, undef, undef, undef, undef, undef, undef, undef].getD zz undef, rfl, by omega, Below.refl _ _, fun i x y hi => by omega⟩ ?_
  rintro ac wr ⟨t, f, rfl, ht, hb, hI⟩
  have b1 := Keep.mk hb
  have HI := Keep.mk hI
  clear hb hI
  have Pr := Keep.mk (P2.out.below b1.out P2.out.lt)
  have Qr := Keep.mk (Q2.out.below b1.out Q2.out.lt)
  have Br : Keep (Below w.heap.size w wr) := ⟨B2.out.trans (b1.out.mono B2.out.size)⟩
  have p1_ := Pr.out.c 1 (by rfl)
  by_cases htl : t < k
  · have htl' : (t : Int) < (k : Int) := by omega
    have hw9 : IntKind.i64.wrap ((t : Int) + 1) = ((t + 1 : Nat) : Int) := by rw [IntKind.wrap_i64]; have := HN.out; omega
    obtain ⟨b, of1, hla, hL1⟩ := HL.out (by omega)
    obtain ⟨d, of2, hlb, hM1⟩ := HM.out (by omega)
    subst hla hlb
    obtain ⟨x, Hx⟩ : ∃ z, Keep (ls[t]? = some z) := ⟨ls[t]'(by rw [hn.out]; exact htl), ⟨List.getElem?_eq_getElem _⟩⟩
    obtain ⟨y, Hy⟩ : ∃ z, Keep (ms[t]? = some z) := ⟨ms[t]'(by rw [hm.out]; exact htl), ⟨List.getElem?_eq_getElem _⟩⟩
    have HLx : Keep (∀ wx, Below w.heap.size w wx → LfAt w.heap.size wx x) := ⟨fun wx hb => (hL1.below hb).lf x (List.mem_of_getElem? Hx.out)⟩
    have HLy : Keep (∀ wx, Below w.heap.size w wx → LfAt w.heap.size wx y) := ⟨fun wx hb => (hM1.below hb).lf y (List.mem_of_getElem? Hy.out)⟩
    have hPx : Keep (x.ps.length ≤ 4398046511104) := ⟨HSz.out x (List.mem_of_getElem? Hx.out)⟩
    have hS0 : Keep (∀ wx, Below w2.heap.size w2 wx → wx.cell? ⟨p, 1, none⟩ = some (.slice (some ⟨b, of1, none⟩) k ca) ∧ wx.cell? ⟨q, 1, none⟩ = some (.slice (some ⟨d, of2, none⟩) k cb) ∧ wx.rangeAt b (of1 + t * 5) (lvA x).toList ∧ wx.rangeAt d (of2 + t * 5) (lvA y).toList) := ⟨fun wx hb =>
      have hb' : Below w.heap.size w wx := B2.out.trans (hb.mono B2.out.size)
      ⟨(P2.out.below hb P2.out.lt).c 1 (by rfl), (Q2.out.below hb Q2.out.lt).c 1 (by rfl), (hL1.below hb').at_ t x Hx.out, (hM1.below hb').at_ t y Hy.out⟩⟩
    
    refine wp_seq_k fun K6 hK6 => ?_
    refine wp_seq_k fun K7 hK7 => ?_
    refine wp_region_list (WL.out ?_)
    refine WL.val (by kernel_rfl) (.int .i64 (t : Int)) (by go_simp) ?_
    simp only [Act.put, List.setIfInBounds_toArray, List.set_cons_zero, List.set_cons_succ]
    refine WL.val (by kernel_rfl) (.pointer (some ⟨p, 1, none⟩)) (by go_simp) ?_
    simp only [Act.put, List.setIfInBounds_toArray, List.set_cons_zero, List.set_cons_succ]
    refine WL.val (by kernel_rfl) (.slice (some ⟨b, of1, none⟩) k ca) (by go_simp) ?_
    simp only [Act.put, List.setIfInBounds_toArray, List.set_cons_zero, List.set_cons_succ]
    refine WL.val (by kernel_rfl) (.int .i64 (k : Int)) (by go_simp) ?_
    simp only [Act.put, List.setIfInBounds_toArray, List.set_cons_zero, List.set_cons_succ]
    refine WL.val (by kernel_rfl) (.bool true) (by go_simp) ?_
    simp only [Act.put, List.setIfInBounds_toArray, List.set_cons_zero, List.set_cons_succ]
    refine WL.nil ?_
    refine hK7 _ _ ?_
    refine wp_cond_true rfl ?_
    refine wp_skip ?_
    refine hK6 _ _ ?_
    refine wp_seq_k fun K8 hK8 => ?_
    refine wp_block ?_
    refine wp_seq_k fun K9 hK9 => ?_
    have bd : Keep (Below w2.heap.size w2 wr.drew) := ⟨b1.out.drew⟩
    refine wp_region_held_drew (S := fun wx => wx.cell? ⟨p, 1, none⟩ = some (.slice (some ⟨b, of1, none⟩) k ca) ∧ wx.cell? ⟨q, 1, none⟩ = some (.slice (some ⟨d, of2, none⟩) k cb) ∧ wx.rangeAt b (of1 + t * 5) (lvA x).toList ∧ wx.rangeAt d (of2 + t * 5) (lvA y).toList) (by kernel_rfl) (hS0.out _ bd.out) (fun hHeld => ?_)
    refine wpAnyH_take (i := 0) (oi := ⟨some 31, Op.fieldAddr 31 (Operand.tmp 2) 1, 0, _, _, none⟩) (v := .pointer (some ⟨p, 1, none⟩)) rfl (by kernel_rfl) (by kernel_rfl) (by kernel_rfl) (fun _ _ _ h => h) (Or.inl ⟨by rfl, fun w hS => by obtain ⟨hS1, hS2, hS3, hS4⟩ := hS; clear hS3 hS4; go_simp⟩) hHeld ?_
    simp only [Act.put, List.setIfInBounds_toArray, List.set_cons_zero, List.set_cons_succ]
    refine wpAnyH_take (i := 2) (oi := ⟨some 33, Op.move (Operand.tmp 5), 3, _, _, none⟩) (v := .int .i64 (t : Int)) rfl (by kernel_rfl) (by kernel_rfl) (by kernel_rfl) (fun _ _ _ h => h) (Or.inl ⟨by rfl, fun w hS => by obtain ⟨hS1, hS2, hS3, hS4⟩ := hS; clear hS3 hS4; go_simp⟩) hHeld ?_
    simp only [Act.put, List.setIfInBounds_toArray, List.set_cons_zero, List.set_cons_succ]
    refine wpAnyH_take (i := 5) (oi := ⟨some 36, Op.fieldAddr 31 (Operand.tmp 3) 1, 0, _, _, none⟩) (v := .pointer (some ⟨q, 1, none⟩)) rfl (by kernel_rfl) (by kernel_rfl) (by kernel_rfl) (fun _ _ _ h => h) (Or.inl ⟨by rfl, fun w hS => by obtain ⟨hS1, hS2, hS3, hS4⟩ := hS; clear hS3 hS4; go_simp⟩) hHeld ?_
    simp only [Act.put, List.setIfInBounds_toArray, List.set_cons_zero, List.set_cons_succ]
    refine wpAnyH_take (i := 7) (oi := ⟨some 38, Op.move (Operand.tmp 5), 3, _, _, none⟩) (v := .int .i64 (t : Int)) rfl (by kernel_rfl) (by kernel_rfl) (by kernel_rfl) (fun _ _ _ h => h) (Or.inl ⟨by rfl, fun w hS => by obtain ⟨hS1, hS2, hS3, hS4⟩ := hS; clear hS3 hS4; go_simp⟩) hHeld ?_
    simp only [Act.put, List.setIfInBounds_toArray, List.set_cons_zero, List.set_cons_succ]
    refine wpAnyH_take (i := 1) (oi := ⟨some 32, Op.load 29 (Operand.tmp 31), 29, _, _, none⟩) (v := .slice (some ⟨b, of1, none⟩) k ca) rfl (by kernel_rfl) (by kernel_rfl) (by kernel_rfl) (fun _ _ _ h => h) (Or.inl ⟨by rfl, fun w hS => by obtain ⟨hS1, hS2, hS3, hS4⟩ := hS; clear hS3 hS4; go_simp⟩) hHeld ?_
    simp only [Act.put, List.setIfInBounds_toArray, List.set_cons_zero, List.set_cons_succ]
    refine wpAnyH_take (i := 6) (oi := ⟨some 37, Op.load 29 (Operand.tmp 36), 29, _, _, none⟩) (v := .slice (some ⟨d, of2, none⟩) k cb) rfl (by kernel_rfl) (by kernel_rfl) (by kernel_rfl) (fun _ _ _ h => h) (Or.inl ⟨by rfl, fun w hS => by obtain ⟨hS1, hS2, hS3, hS4⟩ := hS; clear hS3 hS4; go_simp⟩) hHeld ?_
    simp only [Act.put, List.setIfInBounds_toArray, List.set_cons_zero, List.set_cons_succ]
    refine wpAnyH_take (i := 3) (oi := ⟨some 34, Op.indexAddr 29 (Operand.tmp 32) (Operand.tmp 33), 0, _, _, none⟩) (v := .pointer (some ⟨b, of1 + t * 5, none⟩)) rfl (by kernel_rfl) (by kernel_rfl) (by kernel_rfl) (fun _ _ _ h => h) (Or.inl ⟨by rfl, fun w hS => by obtain ⟨hS1, hS2, hS3, hS4⟩ := hS; clear hS3 hS4; go_simp⟩) hHeld ?_
    simp only [Act.put, List.setIfInBounds_toArray, List.set_cons_zero, List.set_cons_succ]
    refine wpAnyH_take (i := 8) (oi := ⟨some 39, Op.indexAddr 29 (Operand.tmp 37) (Operand.tmp 38), 0, _, _, none⟩) (v := .pointer (some ⟨d, of2 + t * 5, none⟩)) rfl (by kernel_rfl) (by kernel_rfl) (by kernel_rfl) (fun _ _ _ h => h) (Or.inl ⟨by rfl, fun w hS => by obtain ⟨hS1, hS2, hS3, hS4⟩ := hS; clear hS3 hS4; go_simp⟩) hHeld ?_
    simp only [Act.put, List.setIfInBounds_toArray, List.set_cons_zero, List.set_cons_succ]
    refine wpAnyH_take (i := 4) (oi := ⟨some 35, Op.load 69 (Operand.tmp 34), 69, _, _, none⟩) (v := .agg (lvA x)) rfl (by kernel_rfl) (by kernel_rfl) (by kernel_rfl) (fun _ _ _ h => h) (yieldsIf_ld (by rfl) (Operand.tmp 34) 69 rfl b (of1 + t * 5) rfl (lvA x) _ Try.underlying69 rfl (Try.sizeLf x) fun w hS => hS.2.2.1) hHeld ?_
    simp only [Act.put, List.setIfInBounds_toArray, List.set_cons_zero, List.set_cons_succ]
    refine wpAnyH_take (i := 9) (oi := ⟨some 40, Op.load 69 (Operand.tmp 39), 69, _, _, none⟩) (v := .agg (lvA y)) rfl (by kernel_rfl) (by kernel_rfl) (by kernel_rfl) (fun _ _ _ h => h) (yieldsIf_ld (by rfl) (Operand.tmp 39) 69 rfl d (of2 + t * 5) rfl (lvA y) _ Try.underlying69 rfl (Try.sizeLf y) fun w hS => hS.2.2.2) hHeld ?_
    simp only [Act.put, List.setIfInBounds_toArray, List.set_cons_zero, List.set_cons_succ]
    refine wpAnyH_ready (rs := [10, 11]) (by kernel_rfl) (by simp) ?_
    refine AllReadyH.cons (o := ⟨some 6, Op.alloc 69, 0, _, _, none⟩) rfl (fun K hK => ?_) (AllReadyH.cons (o := ⟨some 7, Op.alloc 69, 0, _, _, none⟩) rfl (fun K hK => ?_) AllReadyH.nil)
    all_goals rw [if_pos (by rfl)]
    · refine wp_newA 69 rfl _ Try.newLf ?_
      have Xa := Keep.mk (Blk.new wr.drew 69 zLf)
      have b_ := below_new wr.drew (.cells zLf 69)
      generalize wr.drew.alloc (.cells zLf 69) = wa at *
      obtain ⟨xg, hxg⟩ : ∃ z, Keep (z = wr.drew.heap.size) := ⟨_, ⟨rfl⟩⟩
      rw [← hxg.out] at Xa ⊢
      have gxg : Keep (w2.heap.size ≤ xg) := ⟨by rw [hxg.out]; exact bd.out.size⟩
      have ba : Keep (Below w2.heap.size w2 wa) := ⟨bd.out.trans (b_.mono bd.out.size)⟩
      clear b_
      refine hK _ _ (hS0.out _ ba.out) fun hHa => ?_
      clear hK
      simp only [Act.put, List.setIfInBounds_toArray, List.set_cons_zero, List.set_cons_succ]
      refine wpAnyH_ready (rs := [11]) (by kernel_rfl) (by simp) ?_
      refine AllReadyH.cons (o := ⟨some 7, Op.alloc 69, 0, _, _, none⟩) rfl (fun K hK => ?_) AllReadyH.nil
      rw [if_pos (by rfl)]
      refine wp_newA 69 rfl _ Try.newLf ?_
      have Yb := Keep.mk (Blk.new wa 69 zLf)
      have b_ := below_new wa (.cells zLf 69)
      generalize wa.alloc (.cells zLf 69) = wb at *
      obtain ⟨yg, hyg⟩ : ∃ z, Keep (z = wa.heap.size) := ⟨_, ⟨rfl⟩⟩
      rw [← hyg.out] at Yb ⊢
      have gyg : Keep (w2.heap.size ≤ yg) := ⟨by rw [hyg.out]; exact ba.out.size⟩
      have bb : Keep (Below w2.heap.size w2 wb) := ⟨ba.out.trans (b_.mono ba.out.size)⟩
      have Xb := Keep.mk (Xa.out.below b_ Xa.out.lt)
      have hxy : Keep (xg ≠ yg) := ⟨by have := Xa.out.lt; have := hyg.out; omega⟩
      clear b_
      refine hK _ _ (hS0.out _ bb.out) fun hHb => ?_
      clear hK
      simp only [Act.put, List.setIfInBounds_toArray, List.set_cons_zero, List.set_cons_succ]
      refine wpAnyH_ready (rs := [12]) (by kernel_rfl) (by simp) ?_
      refine AllReadyH.cons (o := ⟨none, Op.store 69 (Operand.tmp 6) (Operand.tmp 35), 0, _, _, none⟩) rfl (fun K hK => ?_) AllReadyH.nil
      rw [if_pos (by rfl)]
      refine wp_store_row 69 (.tmp 6) (.tmp 35) rfl xg (lvA x) rfl rfl 69 zLf Xb.out (Try.sizeLf x) rfl (lvA_one (HLx.out w (Below.refl _ _))) ?_
      have Xc := Keep.mk (Xb.out.setRow (lvA x))
      have Yc := Keep.mk (Yb.out.setRow_ne (fun e => hxy.out e.symm) (lvA x))
      have bc : Keep (Below w2.heap.size w2 (wb.setRow xg (lvA x))) := ⟨below_setRow bb.out gxg.out _⟩
      generalize wb.setRow xg (lvA x) = wc at *
      refine hK _ _ (hS0.out _ bc.out) fun hHc => ?_
      clear hK
      simp only [Act.put, List.setIfInBounds_toArray, List.set_cons_zero, List.set_cons_succ]
      refine wpAnyH_ready (rs := [13]) (by kernel_rfl) (by simp) ?_
      refine AllReadyH.cons (o := ⟨none, Op.store 69 (Operand.tmp 7) (Operand.tmp 40), 0, _, _, none⟩) rfl (fun K hK => ?_) AllReadyH.nil
      rw [if_pos (by rfl)]
      refine wp_store_row 69 (.tmp 7) (.tmp 40) rfl yg (lvA y) rfl rfl 69 zLf Yc.out (Try.sizeLf y) rfl (lvA_one (HLy.out w (Below.refl _ _))) ?_
      have Yd := Keep.mk (Yc.out.setRow (lvA y))
      have Xd := Keep.mk (Xc.out.setRow_ne hxy.out (lvA y))
      have be : Keep (Below w2.heap.size w2 (wc.setRow yg (lvA y))) := ⟨below_setRow bc.out gyg.out _⟩
      generalize wc.setRow yg (lvA y) = wd at *
      have Bd : Keep (Below w.heap.size w wd) := ⟨B2.out.trans (be.out.mono B2.out.size)⟩
      refine hK _ _ (hS0.out _ be.out) fun hHd => ?_
      clear hK
      have x0_ : wd.cell? ⟨xg, 0, none⟩ = some (.int .i64 x.num) := Xd.out.c 0 rfl
      have x4_ : wd.cell? ⟨xg, 4, none⟩ = some x.pv := Xd.out.c 4 rfl
      have y0_ : wd.cell? ⟨yg, 0, none⟩ = some (.int .i64 y.num) := Yd.out.c 0 rfl
      have y4_ : wd.cell? ⟨yg, 4, none⟩ = some y.pv := Yd.out.c 4 rfl
      simp only [Act.put, List.setIfInBounds_toArray, List.set_cons_zero, List.set_cons_succ]
      refine wpAnyH_done (by kernel_rfl) ?_ _
      refine hK9 _ _ ?_
      refine wp_seq_k fun K10 hK10 => ?_
      refine wp_region_list (WL.out ?_)
      refine WL.val (by kernel_rfl) (.pointer (some ⟨xg, 1, none⟩)) (by go_simp) ?_
      simp only [Act.put, List.setIfInBounds_toArray, List.set_cons_zero, List.set_cons_succ]
      refine WL.midA (by kernel_rfl) 40 (.tmp 41) rfl xg 1 rfl (cvA x.c) _ (by have h := rng_mid (blk_range Xd.out); rw [Nat.zero_add] at h; exact h) Try.underlying40 rfl (Try.sizeC _ _ _) ?_
      simp only [Act.put, List.setIfInBounds_toArray, List.set_cons_zero, List.set_cons_succ]
      refine WL.val (by kernel_rfl) (.pointer (some ⟨yg, 1, none⟩)) (by go_simp) ?_
      simp only [Act.put, List.setIfInBounds_toArray, List.set_cons_zero, List.set_cons_succ]
      refine WL.midA (by kernel_rfl) 40 (.tmp 43) rfl yg 1 rfl (cvA y.c) _ (by have h := rng_mid (blk_range Yd.out); rw [Nat.zero_add] at h; exact h) Try.underlying40 rfl (Try.sizeC _ _ _) ?_
      simp only [Act.put, List.setIfInBounds_toArray, List.set_cons_zero, List.set_cons_succ]
      refine WL.callF (by kernel_rfl) 17 _ _ rfl Try.in17 #[.agg (cvA x.c), .agg (cvA y.c)] (by simp [Act.eval]) ?_
      refine (sameC_any x.c y.c wd (HLx.out wd Bd.out).row (HLy.out wd Bd.out).row).mono ?_
      rintro e w5 ⟨rfl, k1⟩
      refine ⟨_, rfl, ?_⟩
      have Xn5 := Keep.mk (Xd.out.below k1 Xd.out.lt)
      have Yn5 := Keep.mk (Yd.out.below k1 Yd.out.lt)
      have Bn5 : Keep (Below w.heap.size w w5) := ⟨Bd.out.trans (k1.mono Bd.out.size)⟩
      have be5 : Keep (Below w2.heap.size w2 w5) := ⟨be.out.trans (k1.mono be.out.size)⟩
      clear k1 x0_ x4_ y0_ y4_
      have x0_ : w5.cell? ⟨xg, 0, none⟩ = some (.int .i64 x.num) := Xn5.out.c 0 rfl
      have x4_ : w5.cell? ⟨xg, 4, none⟩ = some x.pv := Xn5.out.c 4 rfl
      have y0_ : w5.cell? ⟨yg, 0, none⟩ = some (.int .i64 y.num) := Yn5.out.c 0 rfl
      have y4_ : w5.cell? ⟨yg, 4, none⟩ = some y.pv := Yn5.out.c 4 rfl
      simp only [Act.put, List.setIfInBounds_toArray, List.set_cons_zero, List.set_cons_succ]
      refine WL.val (by kernel_rfl) (.bool (sameC x.c y.c)) (by go_simp) ?_
      simp only [Act.put, List.setIfInBounds_toArray, List.set_cons_zero, List.set_cons_succ]
      refine WL.nil ?_
      refine hK10 _ _ ?_
      refine wp_seq_k fun K11 hK11 => ?_
      refine wp_region_list (WL.out ?_)
      refine WL.val (by kernel_rfl) (.pointer (some ⟨xg, 4, none⟩)) (by go_simp) ?_
      simp only [Act.put, List.setIfInBounds_toArray, List.set_cons_zero, List.set_cons_succ]
      refine WL.val (by kernel_rfl) (x.pv) (by go_simp) ?_
      simp only [Act.put, List.setIfInBounds_toArray, List.set_cons_zero, List.set_cons_succ]
      refine WL.val (by kernel_rfl) (.pointer (some ⟨yg, 4, none⟩)) (by go_simp) ?_
      simp only [Act.put, List.setIfInBounds_toArray, List.set_cons_zero, List.set_cons_succ]
      refine WL.val (by kernel_rfl) (y.pv) (by go_simp) ?_
      simp only [Act.put, List.setIfInBounds_toArray, List.set_cons_zero, List.set_cons_succ]
      refine WL.callF (by kernel_rfl) 34 _ _ rfl Try.in34 #[x.pv, y.pv] (by simp [Act.eval]) ?_
      refine (smh_any x.pv y.pv x.ps y.ps w5 ((HLx.out w5 Bn5.out).pa.mono Bn5.out.size) ((HLy.out w5 Bn5.out).pa.mono Bn5.out.size) hPx.out).mono ?_
      rintro e w6 ⟨rfl, k1⟩
      refine ⟨_, rfl, ?_⟩
      have Xn6 := Keep.mk (Xn5.out.below k1 Xn5.out.lt)
      have Yn6 := Keep.mk (Yn5.out.below k1 Yn5.out.lt)
      have Bn6 : Keep (Below w.heap.size w w6) := ⟨Bn5.out.trans (k1.mono Bn5.out.size)⟩
      have be6 : Keep (Below w2.heap.size w2 w6) := ⟨be5.out.trans (k1.mono be5.out.size)⟩
      clear k1 x0_ x4_ y0_ y4_
      have x0_ : w6.cell? ⟨xg, 0, none⟩ = some (.int .i64 x.num) := Xn6.out.c 0 rfl
      have x4_ : w6.cell? ⟨xg, 4, none⟩ = some x.pv := Xn6.out.c 4 rfl
      have y0_ : w6.cell? ⟨yg, 0, none⟩ = some (.int .i64 y.num) := Yn6.out.c 0 rfl
      have y4_ : w6.cell? ⟨yg, 4, none⟩ = some y.pv := Yn6.out.c 4 rfl
      simp only [Act.put, List.setIfInBounds_toArray, List.set_cons_zero, List.set_cons_succ]
      refine WL.val (by kernel_rfl) (.bool (decide (x.ps = y.ps))) (by go_simp) ?_
      simp only [Act.put, List.setIfInBounds_toArray, List.set_cons_zero, List.set_cons_succ]
      refine WL.nil ?_
      refine hK11 _ _ ?_
      refine wp_seq_k fun K12 hK12 => ?_
      cases hnu : decide (x.num = y.num)
      · have hnq : (x.num == y.num) = false := hnu
        have hnn : ¬ x.num = y.num := of_decide_eq_false hnu
        refine wp_region_list (WL.out ?_)
        refine WL.val (by kernel_rfl) (.pointer (some ⟨xg, 0, none⟩)) (by go_simp) ?_
        simp only [Act.put, List.setIfInBounds_toArray, List.set_cons_zero, List.set_cons_succ]
        refine WL.val (by kernel_rfl) (.int .i64 x.num) (by go_simp) ?_
        simp only [Act.put, List.setIfInBounds_toArray, List.set_cons_zero, List.set_cons_succ]
        refine WL.val (by kernel_rfl) (.pointer (some ⟨yg, 0, none⟩)) (by go_simp) ?_
        simp only [Act.put, List.setIfInBounds_toArray, List.set_cons_zero, List.set_cons_succ]
        refine WL.val (by kernel_rfl) (.int .i64 y.num) (by go_simp) ?_
        simp only [Act.put, List.setIfInBounds_toArray, List.set_cons_zero, List.set_cons_succ]
        refine WL.val (by kernel_rfl) (.bool true) (by go_simp) ?_
        simp only [Act.put, List.setIfInBounds_toArray, List.set_cons_zero, List.set_cons_succ]
        refine WL.val (by kernel_rfl) (.bool true) (by go_simp) ?_
        simp only [Act.put, List.setIfInBounds_toArray, List.set_cons_zero, List.set_cons_succ]
        refine WL.skip (by kernel_rfl) ?_
        simp only [Act.put, List.setIfInBounds_toArray, List.set_cons_zero, List.set_cons_succ]
        refine WL.skip (by kernel_rfl) ?_
        simp only [Act.put, List.setIfInBounds_toArray, List.set_cons_zero, List.set_cons_succ]
        refine WL.val (by kernel_rfl) (.bool true) (by go_simp) ?_
        simp only [Act.put, List.setIfInBounds_toArray, List.set_cons_zero, List.set_cons_succ]
        refine WL.val (by kernel_rfl) (.bool true) (by go_simp) ?_
        simp only [Act.put, List.setIfInBounds_toArray, List.set_cons_zero, List.set_cons_succ]
        refine WL.skip (by kernel_rfl) ?_
        simp only [Act.put, List.setIfInBounds_toArray, List.set_cons_zero, List.set_cons_succ]
        refine WL.skip (by kernel_rfl) ?_
        simp only [Act.put, List.setIfInBounds_toArray, List.set_cons_zero, List.set_cons_succ]
        refine WL.val (by kernel_rfl) (.bool true) (by go_simp) ?_
        simp only [Act.put, List.setIfInBounds_toArray, List.set_cons_zero, List.set_cons_succ]
        refine WL.nil ?_
        refine hK12 _ _ ?_
        refine wp_cond_true rfl ?_
        refine wp_seq_k fun K13 hK13 => ?_
        refine wp_region_list (WL.out ?_)
        refine WL.val (by kernel_rfl) (.bool false) (by go_simp) ?_
        simp only [Act.put, List.setIfInBounds_toArray, List.set_cons_zero, List.set_cons_succ]
        refine WL.nil ?_
        refine hK13 _ _ ?_
        refine wp_ret ?_
        go_ret
        exact ⟨false, rfl, ⟨fun h => (by cases h), fun h => (by have h2 := h.2.2 t x y Hx.out Hy.out; simp [sameL, hnn] at h2)⟩, Bn6.out⟩
      · have hnq : (x.num == y.num) = true := hnu
        have hnn : x.num = y.num := of_decide_eq_true hnu
        cases hsc : sameC x.c y.c
        · refine wp_region_list (WL.out ?_)
          refine WL.val (by kernel_rfl) (.pointer (some ⟨xg, 0, none⟩)) (by go_simp) ?_
          simp only [Act.put, List.setIfInBounds_toArray, List.set_cons_zero, List.set_cons_succ]
          refine WL.val (by kernel_rfl) (.int .i64 x.num) (by go_simp) ?_
          simp only [Act.put, List.setIfInBounds_toArray, List.set_cons_zero, List.set_cons_succ]
          refine WL.val (by kernel_rfl) (.pointer (some ⟨yg, 0, none⟩)) (by go_simp) ?_
          simp only [Act.put, List.setIfInBounds_toArray, List.set_cons_zero, List.set_cons_succ]
          refine WL.val (by kernel_rfl) (.int .i64 y.num) (by go_simp) ?_
          simp only [Act.put, List.setIfInBounds_toArray, List.set_cons_zero, List.set_cons_succ]
          refine WL.val (by kernel_rfl) (.bool false) (by go_simp) ?_
          simp only [Act.put, List.setIfInBounds_toArray, List.set_cons_zero, List.set_cons_succ]
          refine WL.val (by kernel_rfl) (.bool false) (by go_simp) ?_
          simp only [Act.put, List.setIfInBounds_toArray, List.set_cons_zero, List.set_cons_succ]
          refine WL.val (by kernel_rfl) (.bool false) (by go_simp) ?_
          simp only [Act.put, List.setIfInBounds_toArray, List.set_cons_zero, List.set_cons_succ]
          refine WL.val (by kernel_rfl) (.bool true) (by go_simp) ?_
          simp only [Act.put, List.setIfInBounds_toArray, List.set_cons_zero, List.set_cons_succ]
          refine WL.val (by kernel_rfl) (.bool true) (by go_simp) ?_
          simp only [Act.put, List.setIfInBounds_toArray, List.set_cons_zero, List.set_cons_succ]
          refine WL.val (by kernel_rfl) (.bool true) (by go_simp) ?_
          simp only [Act.put, List.setIfInBounds_toArray, List.set_cons_zero, List.set_cons_succ]
          refine WL.skip (by kernel_rfl) ?_
          simp only [Act.put, List.setIfInBounds_toArray, List.set_cons_zero, List.set_cons_succ]
          refine WL.skip (by kernel_rfl) ?_
          simp only [Act.put, List.setIfInBounds_toArray, List.set_cons_zero, List.set_cons_succ]
          refine WL.val (by kernel_rfl) (.bool true) (by go_simp) ?_
          simp only [Act.put, List.setIfInBounds_toArray, List.set_cons_zero, List.set_cons_succ]
          refine WL.nil ?_
          refine hK12 _ _ ?_
          refine wp_cond_true rfl ?_
          refine wp_seq_k fun K14 hK14 => ?_
          refine wp_region_list (WL.out ?_)
          refine WL.val (by kernel_rfl) (.bool false) (by go_simp) ?_
          simp only [Act.put, List.setIfInBounds_toArray, List.set_cons_zero, List.set_cons_succ]
          refine WL.nil ?_
          refine hK14 _ _ ?_
          refine wp_ret ?_
          go_ret
          exact ⟨false, rfl, ⟨fun h => (by cases h), fun h => (by have h2 := h.2.2 t x y Hx.out Hy.out; simp [sameL, hsc] at h2)⟩, Bn6.out⟩
        · cases hph : decide (x.ps = y.ps)
          · have hpn : ¬ x.ps = y.ps := of_decide_eq_false hph
            refine wp_region_list (WL.out ?_)
            refine WL.val (by kernel_rfl) (.pointer (some ⟨xg, 0, none⟩)) (by go_simp) ?_
            simp only [Act.put, List.setIfInBounds_toArray, List.set_cons_zero, List.set_cons_succ]
            refine WL.val (by kernel_rfl) (.int .i64 x.num) (by go_simp) ?_
            simp only [Act.put, List.setIfInBounds_toArray, List.set_cons_zero, List.set_cons_succ]
            refine WL.val (by kernel_rfl) (.pointer (some ⟨yg, 0, none⟩)) (by go_simp) ?_
            simp only [Act.put, List.setIfInBounds_toArray, List.set_cons_zero, List.set_cons_succ]
            refine WL.val (by kernel_rfl) (.int .i64 y.num) (by go_simp) ?_
            simp only [Act.put, List.setIfInBounds_toArray, List.set_cons_zero, List.set_cons_succ]
            refine WL.val (by kernel_rfl) (.bool false) (by go_simp) ?_
            simp only [Act.put, List.setIfInBounds_toArray, List.set_cons_zero, List.set_cons_succ]
            refine WL.val (by kernel_rfl) (.bool false) (by go_simp) ?_
            simp only [Act.put, List.setIfInBounds_toArray, List.set_cons_zero, List.set_cons_succ]
            refine WL.val (by kernel_rfl) (.bool true) (by go_simp) ?_
            simp only [Act.put, List.setIfInBounds_toArray, List.set_cons_zero, List.set_cons_succ]
            refine WL.val (by kernel_rfl) (.bool false) (by go_simp) ?_
            simp only [Act.put, List.setIfInBounds_toArray, List.set_cons_zero, List.set_cons_succ]
            refine WL.val (by kernel_rfl) (.bool false) (by go_simp) ?_
            simp only [Act.put, List.setIfInBounds_toArray, List.set_cons_zero, List.set_cons_succ]
            refine WL.val (by kernel_rfl) (.bool false) (by go_simp) ?_
            simp only [Act.put, List.setIfInBounds_toArray, List.set_cons_zero, List.set_cons_succ]
            refine WL.val (by kernel_rfl) (.bool false) (by go_simp) ?_
            simp only [Act.put, List.setIfInBounds_toArray, List.set_cons_zero, List.set_cons_succ]
            refine WL.val (by kernel_rfl) (.bool true) (by go_simp) ?_
            simp only [Act.put, List.setIfInBounds_toArray, List.set_cons_zero, List.set_cons_succ]
            refine WL.val (by kernel_rfl) (.bool true) (by go_simp) ?_
            simp only [Act.put, List.setIfInBounds_toArray, List.set_cons_zero, List.set_cons_succ]
            refine WL.nil ?_
            refine hK12 _ _ ?_
            refine wp_cond_true rfl ?_
            refine wp_seq_k fun K15 hK15 => ?_
            refine wp_region_list (WL.out ?_)
            refine WL.val (by kernel_rfl) (.bool false) (by go_simp) ?_
            simp only [Act.put, List.setIfInBounds_toArray, List.set_cons_zero, List.set_cons_succ]
            refine WL.nil ?_
            refine hK15 _ _ ?_
            refine wp_ret ?_
            go_ret
            exact ⟨false, rfl, ⟨fun h => (by cases h), fun h => (by have h2 := h.2.2 t x y Hx.out Hy.out; simp [sameL, hpn] at h2)⟩, Bn6.out⟩
          · refine wp_region_list (WL.out ?_)
            refine WL.val (by kernel_rfl) (.pointer (some ⟨xg, 0, none⟩)) (by go_simp) ?_
            simp only [Act.put, List.setIfInBounds_toArray, List.set_cons_zero, List.set_cons_succ]
            refine WL.val (by kernel_rfl) (.int .i64 x.num) (by go_simp) ?_
            simp only [Act.put, List.setIfInBounds_toArray, List.set_cons_zero, List.set_cons_succ]
            refine WL.val (by kernel_rfl) (.pointer (some ⟨yg, 0, none⟩)) (by go_simp) ?_
            simp only [Act.put, List.setIfInBounds_toArray, List.set_cons_zero, List.set_cons_succ]
            refine WL.val (by kernel_rfl) (.int .i64 y.num) (by go_simp) ?_
            simp only [Act.put, List.setIfInBounds_toArray, List.set_cons_zero, List.set_cons_succ]
            refine WL.val (by kernel_rfl) (.bool false) (by go_simp) ?_
            simp only [Act.put, List.setIfInBounds_toArray, List.set_cons_zero, List.set_cons_succ]
            refine WL.val (by kernel_rfl) (.bool false) (by go_simp) ?_
            simp only [Act.put, List.setIfInBounds_toArray, List.set_cons_zero, List.set_cons_succ]
            refine WL.val (by kernel_rfl) (.bool true) (by go_simp) ?_
            simp only [Act.put, List.setIfInBounds_toArray, List.set_cons_zero, List.set_cons_succ]
            refine WL.val (by kernel_rfl) (.bool false) (by go_simp) ?_
            simp only [Act.put, List.setIfInBounds_toArray, List.set_cons_zero, List.set_cons_succ]
            refine WL.val (by kernel_rfl) (.bool false) (by go_simp) ?_
            simp only [Act.put, List.setIfInBounds_toArray, List.set_cons_zero, List.set_cons_succ]
            refine WL.val (by kernel_rfl) (.bool false) (by go_simp) ?_
            simp only [Act.put, List.setIfInBounds_toArray, List.set_cons_zero, List.set_cons_succ]
            refine WL.val (by kernel_rfl) (.bool true) (by go_simp) ?_
            simp only [Act.put, List.setIfInBounds_toArray, List.set_cons_zero, List.set_cons_succ]
            refine WL.val (by kernel_rfl) (.bool false) (by go_simp) ?_
            simp only [Act.put, List.setIfInBounds_toArray, List.set_cons_zero, List.set_cons_succ]
            refine WL.val (by kernel_rfl) (.bool false) (by go_simp) ?_
            simp only [Act.put, List.setIfInBounds_toArray, List.set_cons_zero, List.set_cons_succ]
            refine WL.nil ?_
            refine hK12 _ _ ?_
            refine wp_cond_false rfl ?_
            refine wp_skip ?_
            refine hK8 _ _ ?_
            refine wp_region_list (WL.out ?_)
            refine WL.val (by kernel_rfl) (.int .i64 (t : Int)) (by go_simp) ?_
            simp only [Act.put, List.setIfInBounds_toArray, List.set_cons_zero, List.set_cons_succ]
            refine WL.val (by kernel_rfl) (.int .i64 ((t + 1 : Nat) : Int)) (by go_simp) ?_
            simp only [Act.put, List.setIfInBounds_toArray, List.set_cons_zero, List.set_cons_succ]
            refine WL.val (by kernel_rfl) (.int .i64 ((t + 1 : Nat) : Int)) (by go_simp) ?_
            simp only [Act.put, List.setIfInBounds_toArray, List.set_cons_zero, List.set_cons_succ]
            refine WL.nil ?_
            refine ⟨⟨t + 1, fun zz => [.agg #[.int .i64 n, .slice (some ⟨b, of1, none⟩) k ca], .agg #[.int .i64 n, .slice (some ⟨d, of2, none⟩) k cb], .pointer (some ⟨p, 0, none⟩), .pointer (some ⟨q, 0, none⟩), f 4, .int .i64 ((t + 1 : Nat) : Int), .pointer (some ⟨xg, 0, none⟩), .pointer (some ⟨yg, 0, none⟩), .bool true, .bool true, .pointer (some ⟨p, 0, none⟩), .int .i64 n, .pointer (some ⟨q, 0, none⟩), .int .i64 n, .bool false, .bool false, .pointer (some ⟨p, 1, none⟩), .slice (some ⟨b, of1, none⟩) k ca, .int .i64 (k : Int), .pointer (some ⟨q, 1, none⟩), .slice (some ⟨d, of2, none⟩) k cb, .int .i64 (k : Int), .bool false, .bool false, .int .i64 (t : Int), .pointer (some ⟨p, 1, none⟩), .slice (some ⟨b, of1, none⟩) k ca, .int .i64 (k : Int), .bool true, .int .i64 (t : Int), .int .i64 ((t + 1 : Nat) : Int), .pointer (some ⟨p, 1, none⟩), .slice (some ⟨b, of1, none⟩) k ca, .int .i64 (t : Int), .pointer (some ⟨b, of1 + t * 5, none⟩), .agg (lvA x), .pointer (some ⟨q, 1, none⟩), .slice (some ⟨d, of2, none⟩) k cb, .int .i64 (t : Int), .pointer (some ⟨d, of2 + t * 5, none⟩), .agg (lvA y), .pointer (some ⟨xg, 1, none⟩), .agg (cvA x.c), .pointer (some ⟨yg, 1, none⟩), .agg (cvA y.c), .bool true, .pointer (some ⟨xg, 4, none⟩), x.pv, .pointer (some ⟨yg, 4, none⟩), y.pv, .bool true, .pointer (some ⟨xg, 0, none⟩), .int .i64 x.num, .pointer (some ⟨yg, 0, none⟩), .int .i64 y.num, .bool false, .bool false, .bool true, .bool false, .bool false, .bool false, .bool true, .bool false, .bool false].getD zz undef, rfl, by omega, be6.out, fun i x' y' hi hx' hy' => ?_⟩, ?_⟩
            · by_cases e : i = t
              · subst e
                rw [Hx.out] at hx'
                rw [Hy.out] at hy'
                injection hx' with hx'
                injection hy' with hy'
                subst hx' hy'
                unfold sameL
                rw [hnu, hsc, hph]
                rfl
              · exact HI.out i x' y' (by omega) hx' hy'
            · simp only [intOf]; show k - (((t + 1 : Nat) : Int)).toNat < k - ((t : Int)).toNat; omega
    · refine wp_newA 69 rfl _ Try.newLf ?_
      have Ya := Keep.mk (Blk.new wr.drew 69 zLf)
      have b_ := below_new wr.drew (.cells zLf 69)
      generalize wr.drew.alloc (.cells zLf 69) = wa at *
      obtain ⟨yg, hyg⟩ : ∃ z, Keep (z = wr.drew.heap.size) := ⟨_, ⟨rfl⟩⟩
      rw [← hyg.out] at Ya ⊢
      have gyg : Keep (w2.heap.size ≤ yg) := ⟨by rw [hyg.out]; exact bd.out.size⟩
      have ba : Keep (Below w2.heap.size w2 wa) := ⟨bd.out.trans (b_.mono bd.out.size)⟩
      clear b_
      refine hK _ _ (hS0.out _ ba.out) fun hHa => ?_
      clear hK
      simp only [Act.put, List.setIfInBounds_toArray, List.set_cons_zero, List.set_cons_succ]
      refine wpAnyH_ready (rs := [10]) (by kernel_rfl) (by simp) ?_
      refine AllReadyH.cons (o := ⟨some 6, Op.alloc 69, 0, _, _, none⟩) rfl (fun K hK => ?_) AllReadyH.nil
      rw [if_pos (by rfl)]
      refine wp_newA 69 rfl _ Try.newLf ?_
      have Xb := Keep.mk (Blk.new wa 69 zLf)
      have b_ := below_new wa (.cells zLf 69)
      generalize wa.alloc (.cells zLf 69) = wb at *
      obtain ⟨xg, hxg⟩ : ∃ z, Keep (z = wa.heap.size) := ⟨_, ⟨rfl⟩⟩
      rw [← hxg.out] at Xb ⊢
      have gxg : Keep (w2.heap.size ≤ xg) := ⟨by rw [hxg.out]; exact ba.out.size⟩
      have bb : Keep (Below w2.heap.size w2 wb) := ⟨ba.out.trans (b_.mono ba.out.size)⟩
      have Yb := Keep.mk (Ya.out.below b_ Ya.out.lt)
      have hxy : Keep (xg ≠ yg) := ⟨by have := Ya.out.lt; have := hxg.out; omega⟩
      clear b_
      refine hK _ _ (hS0.out _ bb.out) fun hHb => ?_
      clear hK
      simp only [Act.put, List.setIfInBounds_toArray, List.set_cons_zero, List.set_cons_succ]
      refine wpAnyH_ready (rs := [12]) (by kernel_rfl) (by simp) ?_
      refine AllReadyH.cons (o := ⟨none, Op.store 69 (Operand.tmp 6) (Operand.tmp 35), 0, _, _, none⟩) rfl (fun K hK => ?_) AllReadyH.nil
      rw [if_pos (by rfl)]
      refine wp_store_row 69 (.tmp 6) (.tmp 35) rfl xg (lvA x) rfl rfl 69 zLf Xb.out (Try.sizeLf x) rfl (lvA_one (HLx.out w (Below.refl _ _))) ?_
      have Xc := Keep.mk (Xb.out.setRow (lvA x))
      have Yc := Keep.mk (Yb.out.setRow_ne (fun e => hxy.out e.symm) (lvA x))
      have bc : Keep (Below w2.heap.size w2 (wb.setRow xg (lvA x))) := ⟨below_setRow bb.out gxg.out _⟩
      generalize wb.setRow xg (lvA x) = wc at *
      refine hK _ _ (hS0.out _ bc.out) fun hHc => ?_
      clear hK
      simp only [Act.put, List.setIfInBounds_toArray, List.set_cons_zero, List.set_cons_succ]
      refine wpAnyH_ready (rs := [13]) (by kernel_rfl) (by simp) ?_
      refine AllReadyH.cons (o := ⟨none, Op.store 69 (Operand.tmp 7) (Operand.tmp 40), 0, _, _, none⟩) rfl (fun K hK => ?_) AllReadyH.nil
      rw [if_pos (by rfl)]
      refine wp_store_row 69 (.tmp 7) (.tmp 40) rfl yg (lvA y) rfl rfl 69 zLf Yc.out (Try.sizeLf y) rfl (lvA_one (HLy.out w (Below.refl _ _))) ?_
      have Yd := Keep.mk (Yc.out.setRow (lvA y))
      have Xd := Keep.mk (Xc.out.setRow_ne hxy.out (lvA y))
      have be : Keep (Below w2.heap.size w2 (wc.setRow yg (lvA y))) := ⟨below_setRow bc.out gyg.out _⟩
      generalize wc.setRow yg (lvA y) = wd at *
      have Bd : Keep (Below w.heap.size w wd) := ⟨B2.out.trans (be.out.mono B2.out.size)⟩
      refine hK _ _ (hS0.out _ be.out) fun hHd => ?_
      clear hK
      have x0_ : wd.cell? ⟨xg, 0, none⟩ = some (.int .i64 x.num) := Xd.out.c 0 rfl
      have x4_ : wd.cell? ⟨xg, 4, none⟩ = some x.pv := Xd.out.c 4 rfl
      have y0_ : wd.cell? ⟨yg, 0, none⟩ = some (.int .i64 y.num) := Yd.out.c 0 rfl
      have y4_ : wd.cell? ⟨yg, 4, none⟩ = some y.pv := Yd.out.c 4 rfl
      simp only [Act.put, List.setIfInBounds_toArray, List.set_cons_zero, List.set_cons_succ]
      refine wpAnyH_done (by kernel_rfl) ?_ _
      refine hK9 _ _ ?_
      refine wp_seq_k fun K16 hK16 => ?_
      refine wp_region_list (WL.out ?_)
      refine WL.val (by kernel_rfl) (.pointer (some ⟨xg, 1, none⟩)) (by go_simp) ?_
      simp only [Act.put, List.setIfInBounds_toArray, List.set_cons_zero, List.set_cons_succ]
      refine WL.midA (by kernel_rfl) 40 (.tmp 41) rfl xg 1 rfl (cvA x.c) _ (by have h := rng_mid (blk_range Xd.out); rw [Nat.zero_add] at h; exact h) Try.underlying40 rfl (Try.sizeC _ _ _) ?_
      simp only [Act.put, List.setIfInBounds_toArray, List.set_cons_zero, List.set_cons_succ]
      refine WL.val (by kernel_rfl) (.pointer (some ⟨yg, 1, none⟩)) (by go_simp) ?_
      simp only [Act.put, List.setIfInBounds_toArray, List.set_cons_zero, List.set_cons_succ]
      refine WL.midA (by kernel_rfl) 40 (.tmp 43) rfl yg 1 rfl (cvA y.c) _ (by have h := rng_mid (blk_range Yd.out); rw [Nat.zero_add] at h; exact h) Try.underlying40 rfl (Try.sizeC _ _ _) ?_
      simp only [Act.put, List.setIfInBounds_toArray, List.set_cons_zero, List.set_cons_succ]
      refine WL.callF (by kernel_rfl) 17 _ _ rfl Try.in17 #[.agg (cvA x.c), .agg (cvA y.c)] (by simp [Act.eval]) ?_
      refine (sameC_any x.c y.c wd (HLx.out wd Bd.out).row (HLy.out wd Bd.out).row).mono ?_
      rintro e w5 ⟨rfl, k1⟩
      refine ⟨_, rfl, ?_⟩
      have Xn5 := Keep.mk (Xd.out.below k1 Xd.out.lt)
      have Yn5 := Keep.mk (Yd.out.below k1 Yd.out.lt)
      have Bn5 : Keep (Below w.heap.size w w5) := ⟨Bd.out.trans (k1.mono Bd.out.size)⟩
      have be5 : Keep (Below w2.heap.size w2 w5) := ⟨be.out.trans (k1.mono be.out.size)⟩
      clear k1 x0_ x4_ y0_ y4_
      have x0_ : w5.cell? ⟨xg, 0, none⟩ = some (.int .i64 x.num) := Xn5.out.c 0 rfl
      have x4_ : w5.cell? ⟨xg, 4, none⟩ = some x.pv := Xn5.out.c 4 rfl
      have y0_ : w5.cell? ⟨yg, 0, none⟩ = some (.int .i64 y.num) := Yn5.out.c 0 rfl
      have y4_ : w5.cell? ⟨yg, 4, none⟩ = some y.pv := Yn5.out.c 4 rfl
      simp only [Act.put, List.setIfInBounds_toArray, List.set_cons_zero, List.set_cons_succ]
      refine WL.val (by kernel_rfl) (.bool (sameC x.c y.c)) (by go_simp) ?_
      simp only [Act.put, List.setIfInBounds_toArray, List.set_cons_zero, List.set_cons_succ]
      refine WL.nil ?_
      refine hK16 _ _ ?_
      refine wp_seq_k fun K17 hK17 => ?_
      refine wp_region_list (WL.out ?_)
      refine WL.val (by kernel_rfl) (.pointer (some ⟨xg, 4, none⟩)) (by go_simp) ?_
      simp only [Act.put, List.setIfInBounds_toArray, List.set_cons_zero, List.set_cons_succ]
      refine WL.val (by kernel_rfl) (x.pv) (by go_simp) ?_
      simp only [Act.put, List.setIfInBounds_toArray, List.set_cons_zero, List.set_cons_succ]
      refine WL.val (by kernel_rfl) (.pointer (some ⟨yg, 4, none⟩)) (by go_simp) ?_
      simp only [Act.put, List.setIfInBounds_toArray, List.set_cons_zero, List.set_cons_succ]
      refine WL.val (by kernel_rfl) (y.pv) (by go_simp) ?_
      simp only [Act.put, List.setIfInBounds_toArray, List.set_cons_zero, List.set_cons_succ]
      refine WL.callF (by kernel_rfl) 34 _ _ rfl Try.in34 #[x.pv, y.pv] (by simp [Act.eval]) ?_
      refine (smh_any x.pv y.pv x.ps y.ps w5 ((HLx.out w5 Bn5.out).pa.mono Bn5.out.size) ((HLy.out w5 Bn5.out).pa.mono Bn5.out.size) hPx.out).mono ?_
      rintro e w6 ⟨rfl, k1⟩
      refine ⟨_, rfl, ?_⟩
      have Xn6 := Keep.mk (Xn5.out.below k1 Xn5.out.lt)
      have Yn6 := Keep.mk (Yn5.out.below k1 Yn5.out.lt)
      have Bn6 : Keep (Below w.heap.size w w6) := ⟨Bn5.out.trans (k1.mono Bn5.out.size)⟩
      have be6 : Keep (Below w2.heap.size w2 w6) := ⟨be5.out.trans (k1.mono be5.out.size)⟩
      clear k1 x0_ x4_ y0_ y4_
      have x0_ : w6.cell? ⟨xg, 0, none⟩ = some (.int .i64 x.num) := Xn6.out.c 0 rfl
      have x4_ : w6.cell? ⟨xg, 4, none⟩ = some x.pv := Xn6.out.c 4 rfl
      have y0_ : w6.cell? ⟨yg, 0, none⟩ = some (.int .i64 y.num) := Yn6.out.c 0 rfl
      have y4_ : w6.cell? ⟨yg, 4, none⟩ = some y.pv := Yn6.out.c 4 rfl
      simp only [Act.put, List.setIfInBounds_toArray, List.set_cons_zero, List.set_cons_succ]
      refine WL.val (by kernel_rfl) (.bool (decide (x.ps = y.ps))) (by go_simp) ?_
      simp only [Act.put, List.setIfInBounds_toArray, List.set_cons_zero, List.set_cons_succ]
      refine WL.nil ?_
      refine hK17 _ _ ?_
      refine wp_seq_k fun K18 hK18 => ?_
      cases hnu : decide (x.num = y.num)
      · have hnq : (x.num == y.num) = false := hnu
        have hnn : ¬ x.num = y.num := of_decide_eq_false hnu
        refine wp_region_list (WL.out ?_)
        refine WL.val (by kernel_rfl) (.pointer (some ⟨xg, 0, none⟩)) (by go_simp) ?_
        simp only [Act.put, List.setIfInBounds_toArray, List.set_cons_zero, List.set_cons_succ]
        refine WL.val (by kernel_rfl) (.int .i64 x.num) (by go_simp) ?_
        simp only [Act.put, List.setIfInBounds_toArray, List.set_cons_zero, List.set_cons_succ]
        refine WL.val (by kernel_rfl) (.pointer (some ⟨yg, 0, none⟩)) (by go_simp) ?_
        simp only [Act.put, List.setIfInBounds_toArray, List.set_cons_zero, List.set_cons_succ]
        refine WL.val (by kernel_rfl) (.int .i64 y.num) (by go_simp) ?_
        simp only [Act.put, List.setIfInBounds_toArray, List.set_cons_zero, List.set_cons_succ]
        refine WL.val (by kernel_rfl) (.bool true) (by go_simp) ?_
        simp only [Act.put, List.setIfInBounds_toArray, List.set_cons_zero, List.set_cons_succ]
        refine WL.val (by kernel_rfl) (.bool true) (by go_simp) ?_
        simp only [Act.put, List.setIfInBounds_toArray, List.set_cons_zero, List.set_cons_succ]
        refine WL.skip (by kernel_rfl) ?_
        simp only [Act.put, List.setIfInBounds_toArray, List.set_cons_zero, List.set_cons_succ]
        refine WL.skip (by kernel_rfl) ?_
        simp only [Act.put, List.setIfInBounds_toArray, List.set_cons_zero, List.set_cons_succ]
        refine WL.val (by kernel_rfl) (.bool true) (by go_simp) ?_
        simp only [Act.put, List.setIfInBounds_toArray, List.set_cons_zero, List.set_cons_succ]
        refine WL.val (by kernel_rfl) (.bool true) (by go_simp) ?_
        simp only [Act.put, List.setIfInBounds_toArray, List.set_cons_zero, List.set_cons_succ]
        refine WL.skip (by kernel_rfl) ?_
        simp only [Act.put, List.setIfInBounds_toArray, List.set_cons_zero, List.set_cons_succ]
        refine WL.skip (by kernel_rfl) ?_
        simp only [Act.put, List.setIfInBounds_toArray, List.set_cons_zero, List.set_cons_succ]
        refine WL.val (by kernel_rfl) (.bool true) (by go_simp) ?_
        simp only [Act.put, List.setIfInBounds_toArray, List.set_cons_zero, List.set_cons_succ]
        refine WL.nil ?_
        refine hK18 _ _ ?_
        refine wp_cond_true rfl ?_
        refine wp_seq_k fun K19 hK19 => ?_
        refine wp_region_list (WL.out ?_)
        refine WL.val (by kernel_rfl) (.bool false) (by go_simp) ?_
        simp only [Act.put, List.setIfInBounds_toArray, List.set_cons_zero, List.set_cons_succ]
        refine WL.nil ?_
        refine hK19 _ _ ?_
        refine wp_ret ?_
        go_ret
        exact ⟨false, rfl, ⟨fun h => (by cases h), fun h => (by have h2 := h.2.2 t x y Hx.out Hy.out; simp [sameL, hnn] at h2)⟩, Bn6.out⟩
      · have hnq : (x.num == y.num) = true := hnu
        have hnn : x.num = y.num := of_decide_eq_true hnu
        cases hsc : sameC x.c y.c
        · refine wp_region_list (WL.out ?_)
          refine WL.val (by kernel_rfl) (.pointer (some ⟨xg, 0, none⟩)) (by go_simp) ?_
          simp only [Act.put, List.setIfInBounds_toArray, List.set_cons_zero, List.set_cons_succ]
          refine WL.val (by kernel_rfl) (.int .i64 x.num) (by go_simp) ?_
          simp only [Act.put, List.setIfInBounds_toArray, List.set_cons_zero, List.set_cons_succ]
          refine WL.val (by kernel_rfl) (.pointer (some ⟨yg, 0, none⟩)) (by go_simp) ?_
          simp only [Act.put, List.setIfInBounds_toArray, List.set_cons_zero, List.set_cons_succ]
          refine WL.val (by kernel_rfl) (.int .i64 y.num) (by go_simp) ?_
          simp only [Act.put, List.setIfInBounds_toArray, List.set_cons_zero, List.set_cons_succ]
          refine WL.val (by kernel_rfl) (.bool false) (by go_simp) ?_
          simp only [Act.put, List.setIfInBounds_toArray, List.set_cons_zero, List.set_cons_succ]
          refine WL.val (by kernel_rfl) (.bool false) (by go_simp) ?_
          simp only [Act.put, List.setIfInBounds_toArray, List.set_cons_zero, List.set_cons_succ]
          refine WL.val (by kernel_rfl) (.bool false) (by go_simp) ?_
          simp only [Act.put, List.setIfInBounds_toArray, List.set_cons_zero, List.set_cons_succ]
          refine WL.val (by kernel_rfl) (.bool true) (by go_simp) ?_
          simp only [Act.put, List.setIfInBounds_toArray, List.set_cons_zero, List.set_cons_succ]
          refine WL.val (by kernel_rfl) (.bool true) (by go_simp) ?_
          simp only [Act.put, List.setIfInBounds_toArray, List.set_cons_zero, List.set_cons_succ]
          refine WL.val (by kernel_rfl) (.bool true) (by go_simp) ?_
          simp only [Act.put, List.setIfInBounds_toArray, List.set_cons_zero, List.set_cons_succ]
          refine WL.skip (by kernel_rfl) ?_
          simp only [Act.put, List.setIfInBounds_toArray, List.set_cons_zero, List.set_cons_succ]
          refine WL.skip (by kernel_rfl) ?_
          simp only [Act.put, List.setIfInBounds_toArray, List.set_cons_zero, List.set_cons_succ]
          refine WL.val (by kernel_rfl) (.bool true) (by go_simp) ?_
          simp only [Act.put, List.setIfInBounds_toArray, List.set_cons_zero, List.set_cons_succ]
          refine WL.nil ?_
          refine hK18 _ _ ?_
          refine wp_cond_true rfl ?_
          refine wp_seq_k fun K20 hK20 => ?_
          refine wp_region_list (WL.out ?_)
          refine WL.val (by kernel_rfl) (.bool false) (by go_simp) ?_
          simp only [Act.put, List.setIfInBounds_toArray, List.set_cons_zero, List.set_cons_succ]
          refine WL.nil ?_
          refine hK20 _ _ ?_
          refine wp_ret ?_
          go_ret
          exact ⟨false, rfl, ⟨fun h => (by cases h), fun h => (by have h2 := h.2.2 t x y Hx.out Hy.out; simp [sameL, hsc] at h2)⟩, Bn6.out⟩
        · cases hph : decide (x.ps = y.ps)
          · have hpn : ¬ x.ps = y.ps := of_decide_eq_false hph
            refine wp_region_list (WL.out ?_)
            refine WL.val (by kernel_rfl) (.pointer (some ⟨xg, 0, none⟩)) (by go_simp) ?_
            simp only [Act.put, List.setIfInBounds_toArray, List.set_cons_zero, List.set_cons_succ]
            refine WL.val (by kernel_rfl) (.int .i64 x.num) (by go_simp) ?_
            simp only [Act.put, List.setIfInBounds_toArray, List.set_cons_zero, List.set_cons_succ]
            refine WL.val (by kernel_rfl) (.pointer (some ⟨yg, 0, none⟩)) (by go_simp) ?_
            simp only [Act.put, List.setIfInBounds_toArray, List.set_cons_zero, List.set_cons_succ]
            refine WL.val (by kernel_rfl) (.int .i64 y.num) (by go_simp) ?_
            simp only [Act.put, List.setIfInBounds_toArray, List.set_cons_zero, List.set_cons_succ]
            refine WL.val (by kernel_rfl) (.bool false) (by go_simp) ?_
            simp only [Act.put, List.setIfInBounds_toArray, List.set_cons_zero, List.set_cons_succ]
            refine WL.val (by kernel_rfl) (.bool false) (by go_simp) ?_
            simp only [Act.put, List.setIfInBounds_toArray, List.set_cons_zero, List.set_cons_succ]
            refine WL.val (by kernel_rfl) (.bool true) (by go_simp) ?_
            simp only [Act.put, List.setIfInBounds_toArray, List.set_cons_zero, List.set_cons_succ]
            refine WL.val (by kernel_rfl) (.bool false) (by go_simp) ?_
            simp only [Act.put, List.setIfInBounds_toArray, List.set_cons_zero, List.set_cons_succ]
            refine WL.val (by kernel_rfl) (.bool false) (by go_simp) ?_
            simp only [Act.put, List.setIfInBounds_toArray, List.set_cons_zero, List.set_cons_succ]
            refine WL.val (by kernel_rfl) (.bool false) (by go_simp) ?_
            simp only [Act.put, List.setIfInBounds_toArray, List.set_cons_zero, List.set_cons_succ]
            refine WL.val (by kernel_rfl) (.bool false) (by go_simp) ?_
            simp only [Act.put, List.setIfInBounds_toArray, List.set_cons_zero, List.set_cons_succ]
            refine WL.val (by kernel_rfl) (.bool true) (by go_simp) ?_
            simp only [Act.put, List.setIfInBounds_toArray, List.set_cons_zero, List.set_cons_succ]
            refine WL.val (by kernel_rfl) (.bool true) (by go_simp) ?_
            simp only [Act.put, List.setIfInBounds_toArray, List.set_cons_zero, List.set_cons_succ]
            refine WL.nil ?_
            refine hK18 _ _ ?_
            refine wp_cond_true rfl ?_
            refine wp_seq_k fun K21 hK21 => ?_
            refine wp_region_list (WL.out ?_)
            refine WL.val (by kernel_rfl) (.bool false) (by go_simp) ?_
            simp only [Act.put, List.setIfInBounds_toArray, List.set_cons_zero, List.set_cons_succ]
            refine WL.nil ?_
            refine hK21 _ _ ?_
            refine wp_ret ?_
            go_ret
            exact ⟨false, rfl, ⟨fun h => (by cases h), fun h => (by have h2 := h.2.2 t x y Hx.out Hy.out; simp [sameL, hpn] at h2)⟩, Bn6.out⟩
          · refine wp_region_list (WL.out ?_)
            refine WL.val (by kernel_rfl) (.pointer (some ⟨xg, 0, none⟩)) (by go_simp) ?_
            simp only [Act.put, List.setIfInBounds_toArray, List.set_cons_zero, List.set_cons_succ]
            refine WL.val (by kernel_rfl) (.int .i64 x.num) (by go_simp) ?_
            simp only [Act.put, List.setIfInBounds_toArray, List.set_cons_zero, List.set_cons_succ]
            refine WL.val (by kernel_rfl) (.pointer (some ⟨yg, 0, none⟩)) (by go_simp) ?_
            simp only [Act.put, List.setIfInBounds_toArray, List.set_cons_zero, List.set_cons_succ]
            refine WL.val (by kernel_rfl) (.int .i64 y.num) (by go_simp) ?_
            simp only [Act.put, List.setIfInBounds_toArray, List.set_cons_zero, List.set_cons_succ]
            refine WL.val (by kernel_rfl) (.bool false) (by go_simp) ?_
            simp only [Act.put, List.setIfInBounds_toArray, List.set_cons_zero, List.set_cons_succ]
            refine WL.val (by kernel_rfl) (.bool false) (by go_simp) ?_
            simp only [Act.put, List.setIfInBounds_toArray, List.set_cons_zero, List.set_cons_succ]
            refine WL.val (by kernel_rfl) (.bool true) (by go_simp) ?_
            simp only [Act.put, List.setIfInBounds_toArray, List.set_cons_zero, List.set_cons_succ]
            refine WL.val (by kernel_rfl) (.bool false) (by go_simp) ?_
            simp only [Act.put, List.setIfInBounds_toArray, List.set_cons_zero, List.set_cons_succ]
            refine WL.val (by kernel_rfl) (.bool false) (by go_simp) ?_
            simp only [Act.put, List.setIfInBounds_toArray, List.set_cons_zero, List.set_cons_succ]
            refine WL.val (by kernel_rfl) (.bool false) (by go_simp) ?_
            simp only [Act.put, List.setIfInBounds_toArray, List.set_cons_zero, List.set_cons_succ]
            refine WL.val (by kernel_rfl) (.bool true) (by go_simp) ?_
            simp only [Act.put, List.setIfInBounds_toArray, List.set_cons_zero, List.set_cons_succ]
            refine WL.val (by kernel_rfl) (.bool false) (by go_simp) ?_
            simp only [Act.put, List.setIfInBounds_toArray, List.set_cons_zero, List.set_cons_succ]
            refine WL.val (by kernel_rfl) (.bool false) (by go_simp) ?_
            simp only [Act.put, List.setIfInBounds_toArray, List.set_cons_zero, List.set_cons_succ]
            refine WL.nil ?_
            refine hK18 _ _ ?_
            refine wp_cond_false rfl ?_
            refine wp_skip ?_
            refine hK8 _ _ ?_
            refine wp_region_list (WL.out ?_)
            refine WL.val (by kernel_rfl) (.int .i64 (t : Int)) (by go_simp) ?_
            simp only [Act.put, List.setIfInBounds_toArray, List.set_cons_zero, List.set_cons_succ]
            refine WL.val (by kernel_rfl) (.int .i64 ((t + 1 : Nat) : Int)) (by go_simp) ?_
            simp only [Act.put, List.setIfInBounds_toArray, List.set_cons_zero, List.set_cons_succ]
            refine WL.val (by kernel_rfl) (.int .i64 ((t + 1 : Nat) : Int)) (by go_simp) ?_
            simp only [Act.put, List.setIfInBounds_toArray, List.set_cons_zero, List.set_cons_succ]
            refine WL.nil ?_
            refine ⟨⟨t + 1, fun zz => [.agg #[.int .i64 n, .slice (some ⟨b, of1, none⟩) k ca], .agg #[.int .i64 n, .slice (some ⟨d, of2, none⟩) k cb], .pointer (some ⟨p, 0, none⟩), .pointer (some ⟨q, 0, none⟩), f 4, .int .i64 ((t + 1 : Nat) : Int), .pointer (some ⟨xg, 0, none⟩), .pointer (some ⟨yg, 0, none⟩), .bool true, .bool true, .pointer (some ⟨p, 0, none⟩), .int .i64 n, .pointer (some ⟨q, 0, none⟩), .int .i64 n, .bool false, .bool false, .pointer (some ⟨p, 1, none⟩), .slice (some ⟨b, of1, none⟩) k ca, .int .i64 (k : Int), .pointer (some ⟨q, 1, none⟩), .slice (some ⟨d, of2, none⟩) k cb, .int .i64 (k : Int), .bool false, .bool false, .int .i64 (t : Int), .pointer (some ⟨p, 1, none⟩), .slice (some ⟨b, of1, none⟩) k ca, .int .i64 (k : Int), .bool true, .int .i64 (t : Int), .int .i64 ((t + 1 : Nat) : Int), .pointer (some ⟨p, 1, none⟩), .slice (some ⟨b, of1, none⟩) k ca, .int .i64 (t : Int), .pointer (some ⟨b, of1 + t * 5, none⟩), .agg (lvA x), .pointer (some ⟨q, 1, none⟩), .slice (some ⟨d, of2, none⟩) k cb, .int .i64 (t : Int), .pointer (some ⟨d, of2 + t * 5, none⟩), .agg (lvA y), .pointer (some ⟨xg, 1, none⟩), .agg (cvA x.c), .pointer (some ⟨yg, 1, none⟩), .agg (cvA y.c), .bool true, .pointer (some ⟨xg, 4, none⟩), x.pv, .pointer (some ⟨yg, 4, none⟩), y.pv, .bool true, .pointer (some ⟨xg, 0, none⟩), .int .i64 x.num, .pointer (some ⟨yg, 0, none⟩), .int .i64 y.num, .bool false, .bool false, .bool true, .bool false, .bool false, .bool false, .bool true, .bool false, .bool false].getD zz undef, rfl, by omega, be6.out, fun i x' y' hi hx' hy' => ?_⟩, ?_⟩
            · by_cases e : i = t
              · subst e
                rw [Hx.out] at hx'
                rw [Hy.out] at hy'
                injection hx' with hx'
                injection hy' with hy'
                subst hx' hy'
                unfold sameL
                rw [hnu, hsc, hph]
                rfl
              · exact HI.out i x' y' (by omega) hx' hy'
            · simp only [intOf]; show k - (((t + 1 : Nat) : Int)).toNat < k - ((t : Int)).toNat; omega
  · have htl' : ¬ (t : Int) < (k : Int) := by omega
    refine wp_seq_k fun K22 hK22 => ?_
    refine wp_seq_k fun K23 hK23 => ?_
    refine wp_region_list (WL.out ?_)
    refine WL.val (by kernel_rfl) (.int .i64 (t : Int)) (by go_simp) ?_
    simp only [Act.put, List.setIfInBounds_toArray, List.set_cons_zero, List.set_cons_succ]
    refine WL.val (by kernel_rfl) (.pointer (some ⟨p, 1, none⟩)) (by go_simp) ?_
    simp only [Act.put, List.setIfInBounds_toArray, List.set_cons_zero, List.set_cons_succ]
    refine WL.val (by kernel_rfl) (.slice la k ca) (by go_simp) ?_
    simp only [Act.put, List.setIfInBounds_toArray, List.set_cons_zero, List.set_cons_succ]
    refine WL.val (by kernel_rfl) (.int .i64 (k : Int)) (by go_simp) ?_
    simp only [Act.put, List.setIfInBounds_toArray, List.set_cons_zero, List.set_cons_succ]
    refine WL.val (by kernel_rfl) (.bool false) (by go_simp) ?_
    simp only [Act.put, List.setIfInBounds_toArray, List.set_cons_zero, List.set_cons_succ]
    refine WL.nil ?_
    refine hK23 _ _ ?_
    refine wp_cond_false rfl ?_
    refine wp_exit ?_
    refine hK4 _ _ ?_
    refine wp_seq_k fun K24 hK24 => ?_
    refine wp_region_list (WL.out ?_)
    refine WL.val (by kernel_rfl) (.bool true) (by go_simp) ?_
    simp only [Act.put, List.setIfInBounds_toArray, List.set_cons_zero, List.set_cons_succ]
    refine WL.nil ?_
    refine hK24 _ _ ?_
    refine wp_ret ?_
    go_ret
    exact ⟨true, rfl, ⟨fun _ => ⟨rfl, by rw [hn.out, hm.out], fun i x y hx hy => HI.out i x y (by have := (List.getElem?_eq_some_iff.mp hx).1; rw [hn.out] at this; omega) hx hy⟩, fun _ => rfl⟩, Br.out⟩
theorem sw_any (v u : Value) (n m : Int) (ls ms : List LV) (w : World) (hv : LsV w.heap.size w v ls) (hu : LsV w.heap.size w u ms) (hN : ls.length ≤ 4398046511104) (hS : ∀ x ∈ ls, x.ps.length ≤ 4398046511104) : Calls Try.prog 14 #[.agg (wtA n v), .agg (wtA m u)] w (SwP n ls m ms w) := by
  obtain ⟨la, ca, rfl, h1⟩ := hv.form
  obtain ⟨lb, cb, rfl, h2⟩ := hu.form
  by_cases e : n = m
  · subst e
    by_cases hl : ls.length = ms.length
    · rw [← hl] at h2 ⊢
      exact sw_loop la lb _ ca cb n ls ms w ⟨rfl⟩ ⟨hl.symm⟩ ⟨hN⟩ ⟨h1⟩ ⟨h2⟩ ⟨hS⟩
    · exact sw_len la lb _ ca _ cb n ls ms w hl ⟨fun h => hl h.2.1⟩
  · exact sw_num la lb _ ca _ cb n ls ms w m e ⟨fun h => e h.1⟩


theorem Try.in19 (w : World) (vs : Array Value) : (callFunc 19 vs).run Try.prog w = .ok (.enter 19 vs) w := by kernel_rfl
theorem cvA_one1 {w : World} {c : CV} (h : RowAt w c.v c.l) : (cvA c).all (·.oneCell') = true := by
  obtain ⟨a_, m_, e_⟩ := row_form h
  unfold cvA; rw [e_]; simp [Value.oneCell']
theorem bldC0 : Try.prog.built 40 [] = some #[.int .i64 0, .string ByteArray.empty, .slice none 0 0] := by kernel_rfl
def StP (L : List CV) (kind : Int) (key : ByteArray) (w : World) (e : Ending) (w' : World) : Prop :=
  ∃ (c : CV) (b : Bool), e = .returned (.tuple #[.agg (cvA c), .bool b]) ∧ RowAt w' c.v c.l ∧ Below w.heap.size w w' ∧ (b = true → ∃ i : Nat, L[i]? = some c ∧ c.k = kind ∧ c.s = key) ∧ (b = false → c = ⟨0, ByteArray.empty, .slice none 0 0, []⟩ ∧ ∀ (i : Nat) (d : CV), L[i]? = some d → ¬ (d.k = kind ∧ d.s = key))
set_option maxRecDepth 8000 in
theorem st_at (la : Option Addr) (n cap : Nat) (L : List CV) (kind : Int) (key : ByteArray) (w : World) (hn : Keep (L.length = n)) (HN : Keep (n ≤ 3600000000000)) (HC : Keep (0 < n → ∃ b off, la = some ⟨b, off, none⟩ ∧ CsAt w.heap.size w b off L)) : Calls Try.prog 19 #[.slice la n cap, .int .i64 kind, .string key] w (StP L kind key w) := by
  go_enter Try.func19, Try.ntmps19
  refine wp_seq_k fun K1 hK1 => ?_
  refine wp_region_list (WL.out ?_)
  refine WL.new (by kernel_rfl) 40 rfl _ Try.newC ?_
  have R1 := Keep.mk (Blk.new w 40 #[.int .i64 0, .string ByteArray.empty, .slice none 0 0])
  have b_ := below_new w (.cells #[.int .i64 0, .string ByteArray.empty, .slice none 0 0] 40)
  change WL _ _ _ _ _ (w.alloc (.cells #[.int .i64 0, .string ByteArray.empty, .slice none 0 0] 40))
  generalize w.alloc (.cells #[.int .i64 0, .string ByteArray.empty, .slice none 0 0] 40) = w1 at *
  obtain ⟨r, hr0⟩ : ∃ z, Keep (z = w.heap.size) := ⟨_, ⟨rfl⟩⟩
  rw [← hr0.out] at R1 ⊢
  have B1 : Keep (Below w.heap.size w w1) := ⟨b_⟩
  have gr : Keep (w.heap.size ≤ r) := ⟨by rw [hr0.out]; exact Nat.le_refl _⟩
  clear b_
  simp only [Act.put, List.setIfInBounds_toArray, List.set_cons_zero, List.set_cons_succ]
  refine WL.val (by kernel_rfl) (.bool false) (by go_simp) ?_
  simp only [Act.put, List.setIfInBounds_toArray, List.set_cons_zero, List.set_cons_succ]
  refine WL.nil ?_
  refine hK1 _ _ ?_
  refine wp_seq_k fun K2 hK2 => ?_
  refine wp_seq_k fun K3 hK3 => ?_
  refine wp_region_list (WL.out ?_)
  refine WL.val (by kernel_rfl) (.int .i64 0) (by go_simp) ?_
  simp only [Act.put, List.setIfInBounds_toArray, List.set_cons_zero, List.set_cons_succ]
  refine WL.nil ?_
  refine hK3 _ _ ?_
  refine wp_block ?_
  refine wp_loop (fun ac wr => ∃ (t : Nat) (f : Nat → Value), ac = { tmps := #[.slice la n cap, .int .i64 kind, .string key, undef, undef, undef, .pointer (some ⟨r, 0, none⟩), f 7, .int .i64 (t : Int), f 9, f 10, f 11, f 12, f 13, f 14, f 15, f 16, f 17, f 18, f 19, f 20, f 21, f 22, f 23, f 24, f 25, f 26, f 27, f 28, f 29, f 30, f 31, f 32, f 33, f 34, undef], defers := [] } ∧ wr = w1 ∧ ∀ (i : Nat) (d : CV), i < t → L[i]? = some d → ¬ (d.k = kind ∧ d.s = key)) (fun a _ => n - (intOf (a.tmps.getD 8 undef)).toNat) ⟨0, fun zz => [.slice la n cap, .int .i64 kind, .string key, undef, undef, undef, .pointer (some ⟨r, 0, none⟩), .bool false, .int .i64 0, undef, undef, undef, undef, undef, undef, undef, undef, undef, undef, undef, undef, undef, undef, undef, undef, undef, undef, undef, undef, undef, undef, undef, undef, undef, undef, undef].getD zz undef, rfl, rfl, fun i d h => by omega⟩ ?_
  rintro ac wr ⟨t, f, rfl, hrel⟩
  obtain ⟨hw, hall⟩ := hrel
  have hw := hw.symm
  subst hw
  have HAll := Keep.mk hall
  clear hall
  by_cases htn : t < n
  · obtain ⟨b, off, hla, hcx⟩ := HC.out (by omega)
    subst hla
    have HX := Keep.mk (hcx.below B1.out)
    clear hcx
    have htn' : (t : Int) < (n : Int) := by omega
    have hw9 : IntKind.i64.wrap ((t : Int) + 1) = ((t + 1 : Nat) : Int) := by rw [IntKind.wrap_i64]; have := HN.out; omega
    obtain ⟨c, Hc⟩ : ∃ z, Keep (L[t]? = some z) := ⟨L[t]'(by rw [hn.out]; exact htn), ⟨List.getElem?_eq_getElem _⟩⟩
    have c0_ : w1.cell? ⟨b, off + t * 3, none⟩ = some (.int .i64 c.k) := (HX.out.c Hc.out).1
    have c1_ : w1.cell? ⟨b, off + t * 3 + 1, none⟩ = some (.string c.s) := (HX.out.c Hc.out).2.1
    by_cases hk : c.k = kind
    · have hk' : (c.k == kind) = true := by simpa using hk
      by_cases hs : c.s = key
      · have hs' : c.s.toList = key.toList := by rw [hs]
        have HC0 : Keep (0 < n → CsAt w.heap.size w b off L) := ⟨fun h => by obtain ⟨b', o', e1, h1⟩ := HC.out h; injection e1 with e1; injection e1 with e1 e2; subst e1 e2; exact h1⟩
        refine wp_seq_k fun K4 hK4 => ?_
        refine wp_seq_k fun K5 hK5 => ?_
        refine wp_region_list (WL.out ?_)
        refine WL.val (by kernel_rfl) (.int .i64 (t : Int)) (by go_simp) ?_
        simp only [Act.put, List.setIfInBounds_toArray, List.set_cons_zero, List.set_cons_succ]
        refine WL.val (by kernel_rfl) (.slice (some ⟨b, off, none⟩) n cap) (by go_simp) ?_
        simp only [Act.put, List.setIfInBounds_toArray, List.set_cons_zero, List.set_cons_succ]
        refine WL.val (by kernel_rfl) (.int .i64 (n : Int)) (by go_simp) ?_
        simp only [Act.put, List.setIfInBounds_toArray, List.set_cons_zero, List.set_cons_succ]
        refine WL.val (by kernel_rfl) (.bool true) (by go_simp) ?_
        simp only [Act.put, List.setIfInBounds_toArray, List.set_cons_zero, List.set_cons_succ]
        refine WL.nil ?_
        refine hK5 _ _ ?_
        refine wp_cond_true rfl ?_
        refine wp_skip ?_
        refine hK4 _ _ ?_
        refine wp_seq_k fun K6 hK6 => ?_
        refine wp_block ?_
        refine wp_seq_k fun K7 hK7 => ?_
        refine wp_region_list (WL.out ?_)
        refine WL.val (by kernel_rfl) (.slice (some ⟨b, off, none⟩) n cap) (by go_simp) ?_
        simp only [Act.put, List.setIfInBounds_toArray, List.set_cons_zero, List.set_cons_succ]
        refine WL.val (by kernel_rfl) (.int .i64 (t : Int)) (by go_simp) ?_
        simp only [Act.put, List.setIfInBounds_toArray, List.set_cons_zero, List.set_cons_succ]
        refine WL.val (by kernel_rfl) (.pointer (some ⟨b, off + t * 3, none⟩)) (by go_simp) ?_
        simp only [Act.put, List.setIfInBounds_toArray, List.set_cons_zero, List.set_cons_succ]
        refine WL.val (by kernel_rfl) (.pointer (some ⟨b, off + t * 3, none⟩)) (by go_simp) ?_
        simp only [Act.put, List.setIfInBounds_toArray, List.set_cons_zero, List.set_cons_succ]
        refine WL.val (by kernel_rfl) (.int .i64 c.k) (by go_simp) ?_
        simp only [Act.put, List.setIfInBounds_toArray, List.set_cons_zero, List.set_cons_succ]
        refine WL.val (by kernel_rfl) (.int .i64 kind) (by go_simp) ?_
        simp only [Act.put, List.setIfInBounds_toArray, List.set_cons_zero, List.set_cons_succ]
        refine WL.val (by kernel_rfl) (.bool true) (by go_simp) ?_
        simp only [Act.put, List.setIfInBounds_toArray, List.set_cons_zero, List.set_cons_succ]
        refine WL.val (by kernel_rfl) (.bool true) (by go_simp) ?_
        simp only [Act.put, List.setIfInBounds_toArray, List.set_cons_zero, List.set_cons_succ]
        refine WL.val (by kernel_rfl) (.slice (some ⟨b, off, none⟩) n cap) (by go_simp) ?_
        simp only [Act.put, List.setIfInBounds_toArray, List.set_cons_zero, List.set_cons_succ]
        refine WL.val (by kernel_rfl) (.int .i64 (t : Int)) (by go_simp) ?_
        simp only [Act.put, List.setIfInBounds_toArray, List.set_cons_zero, List.set_cons_succ]
        refine WL.val (by kernel_rfl) (.pointer (some ⟨b, off + t * 3, none⟩)) (by go_simp) ?_
        simp only [Act.put, List.setIfInBounds_toArray, List.set_cons_zero, List.set_cons_succ]
        refine WL.val (by kernel_rfl) (.pointer (some ⟨b, off + t * 3 + 1, none⟩)) (by go_simp) ?_
        simp only [Act.put, List.setIfInBounds_toArray, List.set_cons_zero, List.set_cons_succ]
        refine WL.val (by kernel_rfl) (.string c.s) (by go_simp) ?_
        simp only [Act.put, List.setIfInBounds_toArray, List.set_cons_zero, List.set_cons_succ]
        refine WL.val (by kernel_rfl) (.string key) (by go_simp) ?_
        simp only [Act.put, List.setIfInBounds_toArray, List.set_cons_zero, List.set_cons_succ]
        refine WL.val (by kernel_rfl) (.bool true) (by go_simp) ?_
        simp only [Act.put, List.setIfInBounds_toArray, List.set_cons_zero, List.set_cons_succ]
        refine WL.val (by kernel_rfl) (.bool true) (by go_simp) ?_
        simp only [Act.put, List.setIfInBounds_toArray, List.set_cons_zero, List.set_cons_succ]
        refine WL.nil ?_
        refine hK7 _ _ ?_
        refine wp_cond_true rfl ?_
        refine wp_seq_k fun K8 hK8 => ?_
        refine wp_region_list (WL.out ?_)
        refine WL.val (by kernel_rfl) (.slice (some ⟨b, off, none⟩) n cap) (by go_simp) ?_
        simp only [Act.put, List.setIfInBounds_toArray, List.set_cons_zero, List.set_cons_succ]
        refine WL.val (by kernel_rfl) (.int .i64 (t : Int)) (by go_simp) ?_
        simp only [Act.put, List.setIfInBounds_toArray, List.set_cons_zero, List.set_cons_succ]
        refine WL.val (by kernel_rfl) (.pointer (some ⟨b, off + t * 3, none⟩)) (by go_simp) ?_
        simp only [Act.put, List.setIfInBounds_toArray, List.set_cons_zero, List.set_cons_succ]
        refine WL.midA (by kernel_rfl) 40 (.tmp 33) rfl b (off + t * 3) rfl (cvA c) _ (HX.out.at_ t c Hc.out) Try.underlying40 rfl (Try.sizeC _ _ _) ?_
        simp only [Act.put, List.setIfInBounds_toArray, List.set_cons_zero, List.set_cons_succ]
        clear c0_ c1_
        refine WL.storeR (by kernel_rfl) 40 (.tmp 6) (.tmp 34) rfl r (cvA c) rfl rfl 40 #[.int .i64 0, .string ByteArray.empty, .slice none 0 0] R1.out (Try.sizeC _ _ _) rfl (cvA_one1 (HX.out.row c (List.mem_of_getElem? Hc.out)).1) ?_
        have R9 := Keep.mk (R1.out.setRow (cvA c))
        have B9 : Keep (Below w.heap.size w (w1.setRow r (cvA c))) := ⟨below_setRow B1.out gr.out _⟩
        have Y9 : Keep (RowAt (w1.setRow r (cvA c)) c.v c.l) := ⟨by
          have h := (HC0.out (by omega)).below B9.out
          exact (h.row c (List.mem_of_getElem? Hc.out)).1⟩
        generalize w1.setRow r (cvA c) = w9 at *
        simp only [Act.put]
        refine WL.val (by kernel_rfl) (.bool true) (by go_simp) ?_
        simp only [Act.put, List.setIfInBounds_toArray, List.set_cons_zero, List.set_cons_succ]
        refine WL.nil ?_
        refine hK8 _ _ ?_
        refine wp_ret ?_
        try simp only [Exit.inBlock, Exit.then]
        refine bodyPost_ret (v := .tuple #[.agg (cvA c), .bool true]) (results_cell_row2 Try.results19 _ _ r 40 _ (0, 0) _ _ rfl rfl R9.out Try.underlying40 rfl (Try.sizeC _ _ _)) rfl ⟨c, true, rfl, Y9.out, B9.out, fun _ => ⟨t, Hc.out, hk, hs⟩, fun h => by cases h⟩
      · have hs' : ¬ c.s.toList = key.toList := fun e => hs (toL_inj e)
        have hno : ¬ (c.k = kind ∧ c.s = key) := fun e => hs e.2
        refine wp_seq_k fun K9 hK9 => ?_
        refine wp_seq_k fun K10 hK10 => ?_
        refine wp_region_list (WL.out ?_)
        refine WL.val (by kernel_rfl) (.int .i64 (t : Int)) (by go_simp) ?_
        simp only [Act.put, List.setIfInBounds_toArray, List.set_cons_zero, List.set_cons_succ]
        refine WL.val (by kernel_rfl) (.slice (some ⟨b, off, none⟩) n cap) (by go_simp) ?_
        simp only [Act.put, List.setIfInBounds_toArray, List.set_cons_zero, List.set_cons_succ]
        refine WL.val (by kernel_rfl) (.int .i64 (n : Int)) (by go_simp) ?_
        simp only [Act.put, List.setIfInBounds_toArray, List.set_cons_zero, List.set_cons_succ]
        refine WL.val (by kernel_rfl) (.bool true) (by go_simp) ?_
        simp only [Act.put, List.setIfInBounds_toArray, List.set_cons_zero, List.set_cons_succ]
        refine WL.nil ?_
        refine hK10 _ _ ?_
        refine wp_cond_true rfl ?_
        refine wp_skip ?_
        refine hK9 _ _ ?_
        refine wp_seq_k fun K11 hK11 => ?_
        refine wp_block ?_
        refine wp_seq_k fun K12 hK12 => ?_
        refine wp_region_list (WL.out ?_)
        refine WL.val (by kernel_rfl) (.slice (some ⟨b, off, none⟩) n cap) (by go_simp) ?_
        simp only [Act.put, List.setIfInBounds_toArray, List.set_cons_zero, List.set_cons_succ]
        refine WL.val (by kernel_rfl) (.int .i64 (t : Int)) (by go_simp) ?_
        simp only [Act.put, List.setIfInBounds_toArray, List.set_cons_zero, List.set_cons_succ]
        refine WL.val (by kernel_rfl) (.pointer (some ⟨b, off + t * 3, none⟩)) (by go_simp) ?_
        simp only [Act.put, List.setIfInBounds_toArray, List.set_cons_zero, List.set_cons_succ]
        refine WL.val (by kernel_rfl) (.pointer (some ⟨b, off + t * 3, none⟩)) (by go_simp) ?_
        simp only [Act.put, List.setIfInBounds_toArray, List.set_cons_zero, List.set_cons_succ]
        refine WL.val (by kernel_rfl) (.int .i64 c.k) (by go_simp) ?_
        simp only [Act.put, List.setIfInBounds_toArray, List.set_cons_zero, List.set_cons_succ]
        refine WL.val (by kernel_rfl) (.int .i64 kind) (by go_simp) ?_
        simp only [Act.put, List.setIfInBounds_toArray, List.set_cons_zero, List.set_cons_succ]
        refine WL.val (by kernel_rfl) (.bool true) (by go_simp) ?_
        simp only [Act.put, List.setIfInBounds_toArray, List.set_cons_zero, List.set_cons_succ]
        refine WL.val (by kernel_rfl) (.bool true) (by go_simp) ?_
        simp only [Act.put, List.setIfInBounds_toArray, List.set_cons_zero, List.set_cons_succ]
        refine WL.val (by kernel_rfl) (.slice (some ⟨b, off, none⟩) n cap) (by go_simp) ?_
        simp only [Act.put, List.setIfInBounds_toArray, List.set_cons_zero, List.set_cons_succ]
        refine WL.val (by kernel_rfl) (.int .i64 (t : Int)) (by go_simp) ?_
        simp only [Act.put, List.setIfInBounds_toArray, List.set_cons_zero, List.set_cons_succ]
        refine WL.val (by kernel_rfl) (.pointer (some ⟨b, off + t * 3, none⟩)) (by go_simp) ?_
        simp only [Act.put, List.setIfInBounds_toArray, List.set_cons_zero, List.set_cons_succ]
        refine WL.val (by kernel_rfl) (.pointer (some ⟨b, off + t * 3 + 1, none⟩)) (by go_simp) ?_
        simp only [Act.put, List.setIfInBounds_toArray, List.set_cons_zero, List.set_cons_succ]
        refine WL.val (by kernel_rfl) (.string c.s) (by go_simp) ?_
        simp only [Act.put, List.setIfInBounds_toArray, List.set_cons_zero, List.set_cons_succ]
        refine WL.val (by kernel_rfl) (.string key) (by go_simp) ?_
        simp only [Act.put, List.setIfInBounds_toArray, List.set_cons_zero, List.set_cons_succ]
        refine WL.val (by kernel_rfl) (.bool false) (by go_simp) ?_
        simp only [Act.put, List.setIfInBounds_toArray, List.set_cons_zero, List.set_cons_succ]
        refine WL.val (by kernel_rfl) (.bool false) (by go_simp) ?_
        simp only [Act.put, List.setIfInBounds_toArray, List.set_cons_zero, List.set_cons_succ]
        refine WL.nil ?_
        refine hK12 _ _ ?_
        refine wp_cond_false rfl ?_
        refine wp_skip ?_
        refine hK11 _ _ ?_
        refine wp_region_list (WL.out ?_)
        refine WL.val (by kernel_rfl) (.int .i64 (t : Int)) (by go_simp) ?_
        simp only [Act.put, List.setIfInBounds_toArray, List.set_cons_zero, List.set_cons_succ]
        refine WL.val (by kernel_rfl) (.int .i64 ((t + 1 : Nat) : Int)) (by go_simp) ?_
        simp only [Act.put, List.setIfInBounds_toArray, List.set_cons_zero, List.set_cons_succ]
        refine WL.val (by kernel_rfl) (.int .i64 ((t + 1 : Nat) : Int)) (by go_simp) ?_
        simp only [Act.put, List.setIfInBounds_toArray, List.set_cons_zero, List.set_cons_succ]
        refine WL.nil ?_
        refine ⟨⟨t + 1, fun zz => [.slice (some ⟨b, off, none⟩) n cap, .int .i64 kind, .string key, undef, undef, undef, .pointer (some ⟨r, 0, none⟩), f 7, .int .i64 ((t + 1 : Nat) : Int), .int .i64 (t : Int), .slice (some ⟨b, off, none⟩) n cap, .int .i64 (n : Int), .bool true, .int .i64 (t : Int), .int .i64 ((t + 1 : Nat) : Int), .slice (some ⟨b, off, none⟩) n cap, .int .i64 (t : Int), .pointer (some ⟨b, off + t * 3, none⟩), .pointer (some ⟨b, off + t * 3, none⟩), .int .i64 c.k, .int .i64 kind, .bool true, .bool true, .slice (some ⟨b, off, none⟩) n cap, .int .i64 (t : Int), .pointer (some ⟨b, off + t * 3, none⟩), .pointer (some ⟨b, off + t * 3 + 1, none⟩), .string c.s, .string key, .bool false, .bool false, f 31, f 32, f 33, f 34, undef].getD zz undef, rfl, rfl, fun i d hi hd => ?_⟩, ?_⟩
        · by_cases e : i = t
          · subst e; rw [Hc.out] at hd; injection hd with hd; subst hd; exact hno
          · exact HAll.out i d (by omega) hd
        · simp only [intOf]; show n - (((t + 1 : Nat) : Int)).toNat < n - ((t : Int)).toNat; omega
    · have hk' : (c.k == kind) = false := by simpa using hk
      have hno : ¬ (c.k = kind ∧ c.s = key) := fun e => hk e.1
      refine wp_seq_k fun K13 hK13 => ?_
      refine wp_seq_k fun K14 hK14 => ?_
      refine wp_region_list (WL.out ?_)
      refine WL.val (by kernel_rfl) (.int .i64 (t : Int)) (by go_simp) ?_
      simp only [Act.put, List.setIfInBounds_toArray, List.set_cons_zero, List.set_cons_succ]
      refine WL.val (by kernel_rfl) (.slice (some ⟨b, off, none⟩) n cap) (by go_simp) ?_
      simp only [Act.put, List.setIfInBounds_toArray, List.set_cons_zero, List.set_cons_succ]
      refine WL.val (by kernel_rfl) (.int .i64 (n : Int)) (by go_simp) ?_
      simp only [Act.put, List.setIfInBounds_toArray, List.set_cons_zero, List.set_cons_succ]
      refine WL.val (by kernel_rfl) (.bool true) (by go_simp) ?_
      simp only [Act.put, List.setIfInBounds_toArray, List.set_cons_zero, List.set_cons_succ]
      refine WL.nil ?_
      refine hK14 _ _ ?_
      refine wp_cond_true rfl ?_
      refine wp_skip ?_
      refine hK13 _ _ ?_
      refine wp_seq_k fun K15 hK15 => ?_
      refine wp_block ?_
      refine wp_seq_k fun K16 hK16 => ?_
      refine wp_region_list (WL.out ?_)
      refine WL.val (by kernel_rfl) (.slice (some ⟨b, off, none⟩) n cap) (by go_simp) ?_
      simp only [Act.put, List.setIfInBounds_toArray, List.set_cons_zero, List.set_cons_succ]
      refine WL.val (by kernel_rfl) (.int .i64 (t : Int)) (by go_simp) ?_
      simp only [Act.put, List.setIfInBounds_toArray, List.set_cons_zero, List.set_cons_succ]
      refine WL.val (by kernel_rfl) (.pointer (some ⟨b, off + t * 3, none⟩)) (by go_simp) ?_
      simp only [Act.put, List.setIfInBounds_toArray, List.set_cons_zero, List.set_cons_succ]
      refine WL.val (by kernel_rfl) (.pointer (some ⟨b, off + t * 3, none⟩)) (by go_simp) ?_
      simp only [Act.put, List.setIfInBounds_toArray, List.set_cons_zero, List.set_cons_succ]
      refine WL.val (by kernel_rfl) (.int .i64 c.k) (by go_simp) ?_
      simp only [Act.put, List.setIfInBounds_toArray, List.set_cons_zero, List.set_cons_succ]
      refine WL.val (by kernel_rfl) (.int .i64 kind) (by go_simp) ?_
      simp only [Act.put, List.setIfInBounds_toArray, List.set_cons_zero, List.set_cons_succ]
      refine WL.val (by kernel_rfl) (.bool false) (by go_simp) ?_
      simp only [Act.put, List.setIfInBounds_toArray, List.set_cons_zero, List.set_cons_succ]
      refine WL.val (by kernel_rfl) (.bool false) (by go_simp) ?_
      simp only [Act.put, List.setIfInBounds_toArray, List.set_cons_zero, List.set_cons_succ]
      refine WL.skip (by kernel_rfl) ?_
      simp only [Act.put, List.setIfInBounds_toArray, List.set_cons_zero, List.set_cons_succ]
      refine WL.skip (by kernel_rfl) ?_
      simp only [Act.put, List.setIfInBounds_toArray, List.set_cons_zero, List.set_cons_succ]
      refine WL.skip (by kernel_rfl) ?_
      simp only [Act.put, List.setIfInBounds_toArray, List.set_cons_zero, List.set_cons_succ]
      refine WL.skip (by kernel_rfl) ?_
      simp only [Act.put, List.setIfInBounds_toArray, List.set_cons_zero, List.set_cons_succ]
      refine WL.skip (by kernel_rfl) ?_
      simp only [Act.put, List.setIfInBounds_toArray, List.set_cons_zero, List.set_cons_succ]
      refine WL.skip (by kernel_rfl) ?_
      simp only [Act.put, List.setIfInBounds_toArray, List.set_cons_zero, List.set_cons_succ]
      refine WL.skip (by kernel_rfl) ?_
      simp only [Act.put, List.setIfInBounds_toArray, List.set_cons_zero, List.set_cons_succ]
      refine WL.val (by kernel_rfl) (.bool false) (by go_simp) ?_
      simp only [Act.put, List.setIfInBounds_toArray, List.set_cons_zero, List.set_cons_succ]
      refine WL.nil ?_
      refine hK16 _ _ ?_
      refine wp_cond_false rfl ?_
      refine wp_skip ?_
      refine hK15 _ _ ?_
      refine wp_region_list (WL.out ?_)
      refine WL.val (by kernel_rfl) (.int .i64 (t : Int)) (by go_simp) ?_
      simp only [Act.put, List.setIfInBounds_toArray, List.set_cons_zero, List.set_cons_succ]
      refine WL.val (by kernel_rfl) (.int .i64 ((t + 1 : Nat) : Int)) (by go_simp) ?_
      simp only [Act.put, List.setIfInBounds_toArray, List.set_cons_zero, List.set_cons_succ]
      refine WL.val (by kernel_rfl) (.int .i64 ((t + 1 : Nat) : Int)) (by go_simp) ?_
      simp only [Act.put, List.setIfInBounds_toArray, List.set_cons_zero, List.set_cons_succ]
      refine WL.nil ?_
      refine ⟨⟨t + 1, fun zz => [.slice (some ⟨b, off, none⟩) n cap, .int .i64 kind, .string key, undef, undef, undef, .pointer (some ⟨r, 0, none⟩), f 7, .int .i64 ((t + 1 : Nat) : Int), .int .i64 (t : Int), .slice (some ⟨b, off, none⟩) n cap, .int .i64 (n : Int), .bool true, .int .i64 (t : Int), .int .i64 ((t + 1 : Nat) : Int), .slice (some ⟨b, off, none⟩) n cap, .int .i64 (t : Int), .pointer (some ⟨b, off + t * 3, none⟩), .pointer (some ⟨b, off + t * 3, none⟩), .int .i64 c.k, .int .i64 kind, .bool false, .bool false, undef, undef, undef, undef, undef, undef, undef, .bool false, f 31, f 32, f 33, f 34, undef].getD zz undef, rfl, rfl, fun i d hi hd => ?_⟩, ?_⟩
      · by_cases e : i = t
        · subst e; rw [Hc.out] at hd; injection hd with hd; subst hd; exact hno
        · exact HAll.out i d (by omega) hd
      · simp only [intOf]; show n - (((t + 1 : Nat) : Int)).toNat < n - ((t : Int)).toNat; omega
  · have htn' : ¬ (t : Int) < (n : Int) := by omega
    refine wp_seq_k fun K17 hK17 => ?_
    refine wp_seq_k fun K18 hK18 => ?_
    refine wp_region_list (WL.out ?_)
    refine WL.val (by kernel_rfl) (.int .i64 (t : Int)) (by go_simp) ?_
    simp only [Act.put, List.setIfInBounds_toArray, List.set_cons_zero, List.set_cons_succ]
    refine WL.val (by kernel_rfl) (.slice la n cap) (by go_simp) ?_
    simp only [Act.put, List.setIfInBounds_toArray, List.set_cons_zero, List.set_cons_succ]
    refine WL.val (by kernel_rfl) (.int .i64 (n : Int)) (by go_simp) ?_
    simp only [Act.put, List.setIfInBounds_toArray, List.set_cons_zero, List.set_cons_succ]
    refine WL.val (by kernel_rfl) (.bool false) (by go_simp) ?_
    simp only [Act.put, List.setIfInBounds_toArray, List.set_cons_zero, List.set_cons_succ]
    refine WL.nil ?_
    refine hK18 _ _ ?_
    refine wp_cond_false rfl ?_
    refine wp_exit ?_
    refine hK2 _ _ ?_
    refine wp_seq_k fun K19 hK19 => ?_
    refine wp_region_list (WL.out ?_)
    refine WL.bld (by kernel_rfl) 40 #[] rfl [] (by simp) #[.int .i64 0, .string ByteArray.empty, .slice none 0 0] bldC0 ?_
    simp only [Act.put, List.setIfInBounds_toArray, List.set_cons_zero, List.set_cons_succ]
    refine WL.storeR (by kernel_rfl) 40 (.tmp 6) (.tmp 35) rfl r #[.int .i64 0, .string ByteArray.empty, .slice none 0 0] rfl rfl 40 #[.int .i64 0, .string ByteArray.empty, .slice none 0 0] R1.out (by rfl) rfl (by simp [Value.oneCell']) ?_
    have R9 := Keep.mk (R1.out.setRow #[.int .i64 0, .string ByteArray.empty, .slice none 0 0])
    have B9 : Keep (Below w.heap.size w (w1.setRow r #[.int .i64 0, .string ByteArray.empty, .slice none 0 0])) := ⟨below_setRow B1.out gr.out _⟩
    generalize w1.setRow r #[.int .i64 0, .string ByteArray.empty, .slice none 0 0] = w9 at *
    simp only [Act.put]
    refine WL.val (by kernel_rfl) (.bool false) (by go_simp) ?_
    simp only [Act.put, List.setIfInBounds_toArray, List.set_cons_zero, List.set_cons_succ]
    refine WL.nil ?_
    refine hK19 _ _ ?_
    refine wp_ret ?_
    try simp only [Exit.inBlock, Exit.then]
    refine bodyPost_ret (v := .tuple #[.agg #[.int .i64 0, .string ByteArray.empty, .slice none 0 0], .bool false]) (results_cell_row2 Try.results19 _ _ r 40 _ (0, 0) _ _ rfl rfl R9.out Try.underlying40 rfl (by rfl)) rfl ⟨⟨0, ByteArray.empty, .slice none 0 0, []⟩, false, rfl, .inl ⟨rfl, rfl⟩, B9.out, (fun h => by cases h), fun _ => ⟨rfl, fun i d hd => HAll.out i d (by have := (List.getElem?_eq_some_iff.mp hd).1; rw [hn.out] at this; omega) hd⟩⟩
theorem st_any (v : Value) (L : List CV) (kind : Int) (key : ByteArray) (w : World) (hC : CsV w.heap.size w v L) (hN : L.length ≤ 3600000000000) : Calls Try.prog 19 #[v, .int .i64 kind, .string key] w (StP L kind key w) := by
  rcases hC with ⟨a, c, rfl, rfl⟩ | ⟨b, off, cap, rfl, _, h⟩
  · exact st_at a 0 c [] kind key w ⟨rfl⟩ ⟨by omega⟩ ⟨fun h => by omega⟩
  · exact st_at _ _ cap L kind key w ⟨rfl⟩ ⟨hN⟩ ⟨fun _ => ⟨b, off, rfl, h⟩⟩

end Go.Proofs.Ytjklmkeedhgncaa
