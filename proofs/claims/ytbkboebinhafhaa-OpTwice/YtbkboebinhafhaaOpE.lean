import Derived.Test.YtbkboebinhafhaaOpD
namespace Go.Proofs.Ytbkboebinhafhaa
open Go.RowKit
set_option linter.unusedSimpArgs false

/-- The error of an operation behind those ahead. -/
def wrongV (l : List OpV) (x : OpV) : Int :=
  if hasI x.kind = [] then 40 else if 65536 < x.key.size then 4 else if 65536 < x.text.size then 4 else if sm (wipes (hasI x.kind) { x with kind := 0 }) zeroOp = false then 41 else if cellV x.kind = 4 then (if mayAt l x = true then 0 else 42) else 0
theorem hasI_lt (k : Int) : ∀ i ∈ hasI k, i < 4 := by
  by_cases h : k ∈ ([1, 2, 3, 4, 5, 6, 7, 8, 9] : List Int)
  · simp only [List.mem_cons, List.not_mem_nil, or_false] at h
    rcases h with rfl | rfl | rfl | rfl | rfl | rfl | rfl | rfl | rfl <;> decide
  · rw [hasI_none k h]; simp
theorem hasI_len (k : Int) : (hasI k).length ≤ 3 := by
  by_cases h : k ∈ ([1, 2, 3, 4, 5, 6, 7, 8, 9] : List Int)
  · simp only [List.mem_cons, List.not_mem_nil, or_false] at h
    rcases h with rfl | rfl | rfl | rfl | rfl | rfl | rfl | rfl | rfl <;> decide
  · rw [hasI_none k h]; simp
set_option maxRecDepth 8000 in
set_option maxHeartbeats 1000000 in
theorem wrong_any (x : OpV) (v vl : Value) (l : List OpV) (w : World) (hF : FieldsAt w v (hasI x.kind)) (hx : OpOk x) (hl : OpsAt w vl l) (hb : l.length ≤ 4398046511104) :
    Calls Try.prog 35 #[.agg (opA x), v, vl] w fun e w' => e = .returned (.int .i64 (wrongV l x)) ∧ Below w.heap.size w w' := by
  obtain ⟨va, vc, rfl⟩ := hF.form
  obtain ⟨la, lc, rfl⟩ := hl.form
  have HF := Keep.mk hF
  have Hx := Keep.mk hx
  have HL := Keep.mk hl
  have Hl := Keep.mk hb
  have HB := Keep.mk (Blk.new w 33 (opA x))
  have HW := Keep.mk (below_new w (.cells (opA x) 33))
  obtain ⟨w1, hw1⟩ : ∃ w1, Keep (w.alloc (.cells (opA x) 33) = w1) := ⟨_, ⟨rfl⟩⟩
  rw [hw1.out] at HB HW
  have c0 := HB.out.c 0 (opA_0 x)
  have c1 := HB.out.c 1 (opA_1 x)
  have c2 := HB.out.c 2 (opA_2 x)
  have hk1 : (x.key.size : Int) ≤ 9223372036854775807 := by have := hx.key; omega
  have hk2 : (x.text.size : Int) ≤ 9223372036854775807 := by have := hx.text; omega
  obtain ⟨R, hR⟩ : ∃ R, R = wrongV l x := ⟨_, rfl⟩
  rw [← hR]
  unfold wrongV at hR
  have HR := Keep.mk hR
  have hI3 := hasI_len x.kind
  clear hF hx hl hb hR
  go_enter Try.func35, Try.ntmps35
  by_cases hA : hasI x.kind = []
  · rw [if_pos hA] at HR
    have hA0 : (hasI x.kind).length = 0 := by rw [hA]; rfl
    refine wp_seq_k fun K1 hK1 => ?_
    refine wp_region_list (WL.out ?_)
    refine WL.box (by kernel_rfl) 33 (.tmp 0) rfl (opA x) rfl ?_
    rw [hw1.out]
    simp only [Act.put, List.setIfInBounds_toArray, List.set_cons_zero, List.set_cons_succ]
    refine WL.val (by kernel_rfl) (.int .i64 0) (by go_simp) ?_
    simp only [Act.put, List.setIfInBounds_toArray, List.set_cons_zero, List.set_cons_succ]
    refine WL.nil ?_
    refine hK1 _ _ ?_
    refine wp_seq_k fun K2 hK2 => ?_
    refine wp_block ?_
    refine wp_seq_k fun K3 hK3 => ?_
    refine wp_region_list (WL.out ?_)
    refine WL.val (by kernel_rfl) (.slice va (hasI x.kind).length vc) (by go_simp) ?_
    simp only [Act.put, List.setIfInBounds_toArray, List.set_cons_zero, List.set_cons_succ]
    refine WL.val (by kernel_rfl) (.int .i64 ((hasI x.kind).length : Int)) (by go_simp) ?_
    simp only [Act.put, List.setIfInBounds_toArray, List.set_cons_zero, List.set_cons_succ]
    refine WL.val (by kernel_rfl) (.bool true) (by go_simp) ?_
    simp only [Act.put, List.setIfInBounds_toArray, List.set_cons_zero, List.set_cons_succ]
    refine WL.val (by kernel_rfl) (.bool true) (by go_simp) ?_
    simp only [Act.put, List.setIfInBounds_toArray, List.set_cons_zero, List.set_cons_succ]
    refine WL.nil ?_
    refine hK3 _ _ ?_
    refine wp_cond_true rfl ?_
    refine wp_seq_k fun K4 hK4 => ?_
    refine wp_region_list (WL.out ?_)
    refine WL.val (by kernel_rfl) (.int .i64 40) (by go_simp) ?_
    simp only [Act.put, List.setIfInBounds_toArray, List.set_cons_zero, List.set_cons_succ]
    refine WL.nil ?_
    refine hK4 _ _ ?_
    refine wp_ret ?_
    go_ret
    exact ⟨by rw [HR.out]; rfl, HW.out⟩
  · rw [if_neg hA] at HR
    have hA0 : (hasI x.kind).length ≠ 0 := fun e => hA (List.eq_nil_of_length_eq_zero e)
    have hA1 : ¬ ((hasI x.kind).length : Int) = 0 := by omega
    by_cases hB1 : 65536 < x.key.size
    · rw [if_pos hB1] at HR
      have hB1' : (65536 : Int) < (x.key.size : Int) := by omega
      refine wp_seq_k fun K1 hK1 => ?_
      refine wp_region_list (WL.out ?_)
      refine WL.box (by kernel_rfl) 33 (.tmp 0) rfl (opA x) rfl ?_
      rw [hw1.out]
      simp only [Act.put, List.setIfInBounds_toArray, List.set_cons_zero, List.set_cons_succ]
      refine WL.val (by kernel_rfl) (.int .i64 0) (by go_simp) ?_
      simp only [Act.put, List.setIfInBounds_toArray, List.set_cons_zero, List.set_cons_succ]
      refine WL.nil ?_
      refine hK1 _ _ ?_
      refine wp_seq_k fun K2 hK2 => ?_
      refine wp_block ?_
      refine wp_seq_k fun K3 hK3 => ?_
      refine wp_region_list (WL.out ?_)
      refine WL.val (by kernel_rfl) (.slice va (hasI x.kind).length vc) (by go_simp) ?_
      simp only [Act.put, List.setIfInBounds_toArray, List.set_cons_zero, List.set_cons_succ]
      refine WL.val (by kernel_rfl) (.int .i64 ((hasI x.kind).length : Int)) (by go_simp) ?_
      simp only [Act.put, List.setIfInBounds_toArray, List.set_cons_zero, List.set_cons_succ]
      refine WL.val (by kernel_rfl) (.bool false) (by go_simp) ?_
      simp only [Act.put, List.setIfInBounds_toArray, List.set_cons_zero, List.set_cons_succ]
      refine WL.val (by kernel_rfl) (.bool false) (by go_simp) ?_
      simp only [Act.put, List.setIfInBounds_toArray, List.set_cons_zero, List.set_cons_succ]
      refine WL.nil ?_
      refine hK3 _ _ ?_
      refine wp_cond_false rfl ?_
      refine wp_seq_k fun K4 hK4 => ?_
      refine wp_region_list (WL.out ?_)
      refine WL.val (by kernel_rfl) (.pointer (some ⟨w.heap.size, 1, none⟩)) (by go_simp) ?_
      simp only [Act.put, List.setIfInBounds_toArray, List.set_cons_zero, List.set_cons_succ]
      refine WL.val (by kernel_rfl) (.string x.key) (by go_simp) ?_
      simp only [Act.put, List.setIfInBounds_toArray, List.set_cons_zero, List.set_cons_succ]
      refine WL.val (by kernel_rfl) (.int .i64 (x.key.size : Int)) (by go_simp) ?_
      simp only [Act.put, List.setIfInBounds_toArray, List.set_cons_zero, List.set_cons_succ]
      refine WL.val (by kernel_rfl) (.bool true) (by go_simp) ?_
      simp only [Act.put, List.setIfInBounds_toArray, List.set_cons_zero, List.set_cons_succ]
      refine WL.val (by kernel_rfl) (.bool true) (by go_simp) ?_
      simp only [Act.put, List.setIfInBounds_toArray, List.set_cons_zero, List.set_cons_succ]
      refine WL.skip (by kernel_rfl) ?_
      simp only [Act.put, List.setIfInBounds_toArray, List.set_cons_zero, List.set_cons_succ]
      refine WL.skip (by kernel_rfl) ?_
      simp only [Act.put, List.setIfInBounds_toArray, List.set_cons_zero, List.set_cons_succ]
      refine WL.skip (by kernel_rfl) ?_
      simp only [Act.put, List.setIfInBounds_toArray, List.set_cons_zero, List.set_cons_succ]
      refine WL.skip (by kernel_rfl) ?_
      simp only [Act.put, List.setIfInBounds_toArray, List.set_cons_zero, List.set_cons_succ]
      refine WL.val (by kernel_rfl) (.bool true) (by go_simp) ?_
      simp only [Act.put, List.setIfInBounds_toArray, List.set_cons_zero, List.set_cons_succ]
      refine WL.val (by kernel_rfl) (.bool true) (by go_simp) ?_
      simp only [Act.put, List.setIfInBounds_toArray, List.set_cons_zero, List.set_cons_succ]
      refine WL.nil ?_
      refine hK4 _ _ ?_
      refine wp_cond_true rfl ?_
      refine wp_seq_k fun K5 hK5 => ?_
      refine wp_region_list (WL.out ?_)
      refine WL.val (by kernel_rfl) (.int .i64 4) (by go_simp) ?_
      simp only [Act.put, List.setIfInBounds_toArray, List.set_cons_zero, List.set_cons_succ]
      refine WL.nil ?_
      refine hK5 _ _ ?_
      refine wp_ret ?_
      go_ret
      exact ⟨by rw [HR.out]; rfl, HW.out⟩
    · rw [if_neg hB1] at HR
      have hB1' : ¬ (65536 : Int) < (x.key.size : Int) := by omega
      by_cases hB2 : 65536 < x.text.size
      · rw [if_pos hB2] at HR
        have hB2' : (65536 : Int) < (x.text.size : Int) := by omega
        refine wp_seq_k fun K1 hK1 => ?_
        refine wp_region_list (WL.out ?_)
        refine WL.box (by kernel_rfl) 33 (.tmp 0) rfl (opA x) rfl ?_
        rw [hw1.out]
        simp only [Act.put, List.setIfInBounds_toArray, List.set_cons_zero, List.set_cons_succ]
        refine WL.val (by kernel_rfl) (.int .i64 0) (by go_simp) ?_
        simp only [Act.put, List.setIfInBounds_toArray, List.set_cons_zero, List.set_cons_succ]
        refine WL.nil ?_
        refine hK1 _ _ ?_
        refine wp_seq_k fun K2 hK2 => ?_
        refine wp_block ?_
        refine wp_seq_k fun K3 hK3 => ?_
        refine wp_region_list (WL.out ?_)
        refine WL.val (by kernel_rfl) (.slice va (hasI x.kind).length vc) (by go_simp) ?_
        simp only [Act.put, List.setIfInBounds_toArray, List.set_cons_zero, List.set_cons_succ]
        refine WL.val (by kernel_rfl) (.int .i64 ((hasI x.kind).length : Int)) (by go_simp) ?_
        simp only [Act.put, List.setIfInBounds_toArray, List.set_cons_zero, List.set_cons_succ]
        refine WL.val (by kernel_rfl) (.bool false) (by go_simp) ?_
        simp only [Act.put, List.setIfInBounds_toArray, List.set_cons_zero, List.set_cons_succ]
        refine WL.val (by kernel_rfl) (.bool false) (by go_simp) ?_
        simp only [Act.put, List.setIfInBounds_toArray, List.set_cons_zero, List.set_cons_succ]
        refine WL.nil ?_
        refine hK3 _ _ ?_
        refine wp_cond_false rfl ?_
        refine wp_seq_k fun K4 hK4 => ?_
        refine wp_region_list (WL.out ?_)
        refine WL.val (by kernel_rfl) (.pointer (some ⟨w.heap.size, 1, none⟩)) (by go_simp) ?_
        simp only [Act.put, List.setIfInBounds_toArray, List.set_cons_zero, List.set_cons_succ]
        refine WL.val (by kernel_rfl) (.string x.key) (by go_simp) ?_
        simp only [Act.put, List.setIfInBounds_toArray, List.set_cons_zero, List.set_cons_succ]
        refine WL.val (by kernel_rfl) (.int .i64 (x.key.size : Int)) (by go_simp) ?_
        simp only [Act.put, List.setIfInBounds_toArray, List.set_cons_zero, List.set_cons_succ]
        refine WL.val (by kernel_rfl) (.bool false) (by go_simp) ?_
        simp only [Act.put, List.setIfInBounds_toArray, List.set_cons_zero, List.set_cons_succ]
        refine WL.val (by kernel_rfl) (.bool false) (by go_simp) ?_
        simp only [Act.put, List.setIfInBounds_toArray, List.set_cons_zero, List.set_cons_succ]
        refine WL.val (by kernel_rfl) (.pointer (some ⟨w.heap.size, 2, none⟩)) (by go_simp) ?_
        simp only [Act.put, List.setIfInBounds_toArray, List.set_cons_zero, List.set_cons_succ]
        refine WL.val (by kernel_rfl) (.string x.text) (by go_simp) ?_
        simp only [Act.put, List.setIfInBounds_toArray, List.set_cons_zero, List.set_cons_succ]
        refine WL.val (by kernel_rfl) (.int .i64 (x.text.size : Int)) (by go_simp) ?_
        simp only [Act.put, List.setIfInBounds_toArray, List.set_cons_zero, List.set_cons_succ]
        refine WL.val (by kernel_rfl) (.bool true) (by go_simp) ?_
        simp only [Act.put, List.setIfInBounds_toArray, List.set_cons_zero, List.set_cons_succ]
        refine WL.val (by kernel_rfl) (.bool true) (by go_simp) ?_
        simp only [Act.put, List.setIfInBounds_toArray, List.set_cons_zero, List.set_cons_succ]
        refine WL.val (by kernel_rfl) (.bool true) (by go_simp) ?_
        simp only [Act.put, List.setIfInBounds_toArray, List.set_cons_zero, List.set_cons_succ]
        refine WL.nil ?_
        refine hK4 _ _ ?_
        refine wp_cond_true rfl ?_
        refine wp_seq_k fun K5 hK5 => ?_
        refine wp_region_list (WL.out ?_)
        refine WL.val (by kernel_rfl) (.int .i64 4) (by go_simp) ?_
        simp only [Act.put, List.setIfInBounds_toArray, List.set_cons_zero, List.set_cons_succ]
        refine WL.nil ?_
        refine hK5 _ _ ?_
        refine wp_ret ?_
        go_ret
        exact ⟨by rw [HR.out]; rfl, HW.out⟩
      · rw [if_neg hB2] at HR
        have hB2' : ¬ (65536 : Int) < (x.text.size : Int) := by omega
        cases hs : sm (wipes (hasI x.kind) { x with kind := 0 }) zeroOp with
        | false =>
          rw [if_pos hs] at HR
          have hS : (!sm (wipes (hasI x.kind) { x with kind := 0 }) zeroOp) = true := by rw [hs]; rfl
          refine wp_seq_k fun K1 hK1 => ?_
          refine wp_region_list (WL.out ?_)
          refine WL.box (by kernel_rfl) 33 (.tmp 0) rfl (opA x) rfl ?_
          rw [hw1.out]
          simp only [Act.put, List.setIfInBounds_toArray, List.set_cons_zero, List.set_cons_succ]
          refine WL.val (by kernel_rfl) (.int .i64 0) (by go_simp) ?_
          simp only [Act.put, List.setIfInBounds_toArray, List.set_cons_zero, List.set_cons_succ]
          refine WL.nil ?_
          refine hK1 _ _ ?_
          refine wp_seq_k fun K2 hK2 => ?_
          refine wp_block ?_
          refine wp_seq_k fun K3 hK3 => ?_
          refine wp_region_list (WL.out ?_)
          refine WL.val (by kernel_rfl) (.slice va (hasI x.kind).length vc) (by go_simp) ?_
          simp only [Act.put, List.setIfInBounds_toArray, List.set_cons_zero, List.set_cons_succ]
          refine WL.val (by kernel_rfl) (.int .i64 ((hasI x.kind).length : Int)) (by go_simp) ?_
          simp only [Act.put, List.setIfInBounds_toArray, List.set_cons_zero, List.set_cons_succ]
          refine WL.val (by kernel_rfl) (.bool false) (by go_simp) ?_
          simp only [Act.put, List.setIfInBounds_toArray, List.set_cons_zero, List.set_cons_succ]
          refine WL.val (by kernel_rfl) (.bool false) (by go_simp) ?_
          simp only [Act.put, List.setIfInBounds_toArray, List.set_cons_zero, List.set_cons_succ]
          refine WL.nil ?_
          refine hK3 _ _ ?_
          refine wp_cond_false rfl ?_
          refine wp_seq_k fun K4 hK4 => ?_
          refine wp_region_list (WL.out ?_)
          refine WL.val (by kernel_rfl) (.pointer (some ⟨w.heap.size, 1, none⟩)) (by go_simp) ?_
          simp only [Act.put, List.setIfInBounds_toArray, List.set_cons_zero, List.set_cons_succ]
          refine WL.val (by kernel_rfl) (.string x.key) (by go_simp) ?_
          simp only [Act.put, List.setIfInBounds_toArray, List.set_cons_zero, List.set_cons_succ]
          refine WL.val (by kernel_rfl) (.int .i64 (x.key.size : Int)) (by go_simp) ?_
          simp only [Act.put, List.setIfInBounds_toArray, List.set_cons_zero, List.set_cons_succ]
          refine WL.val (by kernel_rfl) (.bool false) (by go_simp) ?_
          simp only [Act.put, List.setIfInBounds_toArray, List.set_cons_zero, List.set_cons_succ]
          refine WL.val (by kernel_rfl) (.bool false) (by go_simp) ?_
          simp only [Act.put, List.setIfInBounds_toArray, List.set_cons_zero, List.set_cons_succ]
          refine WL.val (by kernel_rfl) (.pointer (some ⟨w.heap.size, 2, none⟩)) (by go_simp) ?_
          simp only [Act.put, List.setIfInBounds_toArray, List.set_cons_zero, List.set_cons_succ]
          refine WL.val (by kernel_rfl) (.string x.text) (by go_simp) ?_
          simp only [Act.put, List.setIfInBounds_toArray, List.set_cons_zero, List.set_cons_succ]
          refine WL.val (by kernel_rfl) (.int .i64 (x.text.size : Int)) (by go_simp) ?_
          simp only [Act.put, List.setIfInBounds_toArray, List.set_cons_zero, List.set_cons_succ]
          refine WL.val (by kernel_rfl) (.bool false) (by go_simp) ?_
          simp only [Act.put, List.setIfInBounds_toArray, List.set_cons_zero, List.set_cons_succ]
          refine WL.val (by kernel_rfl) (.bool false) (by go_simp) ?_
          simp only [Act.put, List.setIfInBounds_toArray, List.set_cons_zero, List.set_cons_succ]
          refine WL.val (by kernel_rfl) (.bool false) (by go_simp) ?_
          simp only [Act.put, List.setIfInBounds_toArray, List.set_cons_zero, List.set_cons_succ]
          refine WL.nil ?_
          refine hK4 _ _ ?_
          refine wp_cond_false rfl ?_
          refine wp_seq_k fun K5 hK5 => ?_
          refine wp_region_list (WL.out ?_)
          refine WL.row (by kernel_rfl) 33 (.tmp 3) rfl w.heap.size rfl 33 (opA x) _ HB.out Try.underlying33 rfl (Try.size33B x) ?_
          simp only [Act.put, List.setIfInBounds_toArray, List.set_cons_zero, List.set_cons_succ]
          refine WL.val (by kernel_rfl) (.slice va (hasI x.kind).length vc) (by go_simp) ?_
          simp only [Act.put, List.setIfInBounds_toArray, List.set_cons_zero, List.set_cons_succ]
          refine WL.callF (by kernel_rfl) 54 _ _ rfl Try.in54 #[.agg (opA x), .slice va (hasI x.kind).length vc] (by simp [Act.eval]) ?_
          refine (other_any x _ (hasI x.kind) w1 (HF.out.below HW.out) (hasI_lt _) (hasI_len _)).mono ?_
          rintro e w2 ⟨rfl, h2⟩
          rw [hS]
          refine ⟨_, rfl, ?_⟩
          have HB2 := Keep.mk (HB.out.below h2 HB.out.lt)
          have HW2 := Keep.mk (HW.out.trans (h2.mono HW.out.size))
          have d0 := HB2.out.c 0 (opA_0 x)
          clear h2
          simp only [Act.put, List.setIfInBounds_toArray, List.set_cons_zero, List.set_cons_succ]
          refine WL.val (by kernel_rfl) (.bool true) (by go_simp) ?_
          simp only [Act.put, List.setIfInBounds_toArray, List.set_cons_zero, List.set_cons_succ]
          refine WL.nil ?_
          refine hK5 _ _ ?_
          refine wp_cond_true rfl ?_
          refine wp_seq_k fun K6 hK6 => ?_
          refine wp_region_list (WL.out ?_)
          refine WL.val (by kernel_rfl) (.int .i64 41) (by go_simp) ?_
          simp only [Act.put, List.setIfInBounds_toArray, List.set_cons_zero, List.set_cons_succ]
          refine WL.nil ?_
          refine hK6 _ _ ?_
          refine wp_ret ?_
          go_ret
          exact ⟨by rw [HR.out]; rfl, HW2.out⟩
        | true =>
          rw [if_neg (by rw [hs]; decide)] at HR
          have hS : (!sm (wipes (hasI x.kind) { x with kind := 0 }) zeroOp) = false := by rw [hs]; rfl
          by_cases hD : cellV x.kind = 4
          · rw [if_pos hD] at HR
            cases hM : mayAt l x with
            | false =>
              rw [if_neg (by rw [hM]; decide)] at HR
              refine wp_seq_k fun K1 hK1 => ?_
              refine wp_region_list (WL.out ?_)
              refine WL.box (by kernel_rfl) 33 (.tmp 0) rfl (opA x) rfl ?_
              rw [hw1.out]
              simp only [Act.put, List.setIfInBounds_toArray, List.set_cons_zero, List.set_cons_succ]
              refine WL.val (by kernel_rfl) (.int .i64 0) (by go_simp) ?_
              simp only [Act.put, List.setIfInBounds_toArray, List.set_cons_zero, List.set_cons_succ]
              refine WL.nil ?_
              refine hK1 _ _ ?_
              refine wp_seq_k fun K2 hK2 => ?_
              refine wp_block ?_
              refine wp_seq_k fun K3 hK3 => ?_
              refine wp_region_list (WL.out ?_)
              refine WL.val (by kernel_rfl) (.slice va (hasI x.kind).length vc) (by go_simp) ?_
              simp only [Act.put, List.setIfInBounds_toArray, List.set_cons_zero, List.set_cons_succ]
              refine WL.val (by kernel_rfl) (.int .i64 ((hasI x.kind).length : Int)) (by go_simp) ?_
              simp only [Act.put, List.setIfInBounds_toArray, List.set_cons_zero, List.set_cons_succ]
              refine WL.val (by kernel_rfl) (.bool false) (by go_simp) ?_
              simp only [Act.put, List.setIfInBounds_toArray, List.set_cons_zero, List.set_cons_succ]
              refine WL.val (by kernel_rfl) (.bool false) (by go_simp) ?_
              simp only [Act.put, List.setIfInBounds_toArray, List.set_cons_zero, List.set_cons_succ]
              refine WL.nil ?_
              refine hK3 _ _ ?_
              refine wp_cond_false rfl ?_
              refine wp_seq_k fun K4 hK4 => ?_
              refine wp_region_list (WL.out ?_)
              refine WL.val (by kernel_rfl) (.pointer (some ⟨w.heap.size, 1, none⟩)) (by go_simp) ?_
              simp only [Act.put, List.setIfInBounds_toArray, List.set_cons_zero, List.set_cons_succ]
              refine WL.val (by kernel_rfl) (.string x.key) (by go_simp) ?_
              simp only [Act.put, List.setIfInBounds_toArray, List.set_cons_zero, List.set_cons_succ]
              refine WL.val (by kernel_rfl) (.int .i64 (x.key.size : Int)) (by go_simp) ?_
              simp only [Act.put, List.setIfInBounds_toArray, List.set_cons_zero, List.set_cons_succ]
              refine WL.val (by kernel_rfl) (.bool false) (by go_simp) ?_
              simp only [Act.put, List.setIfInBounds_toArray, List.set_cons_zero, List.set_cons_succ]
              refine WL.val (by kernel_rfl) (.bool false) (by go_simp) ?_
              simp only [Act.put, List.setIfInBounds_toArray, List.set_cons_zero, List.set_cons_succ]
              refine WL.val (by kernel_rfl) (.pointer (some ⟨w.heap.size, 2, none⟩)) (by go_simp) ?_
              simp only [Act.put, List.setIfInBounds_toArray, List.set_cons_zero, List.set_cons_succ]
              refine WL.val (by kernel_rfl) (.string x.text) (by go_simp) ?_
              simp only [Act.put, List.setIfInBounds_toArray, List.set_cons_zero, List.set_cons_succ]
              refine WL.val (by kernel_rfl) (.int .i64 (x.text.size : Int)) (by go_simp) ?_
              simp only [Act.put, List.setIfInBounds_toArray, List.set_cons_zero, List.set_cons_succ]
              refine WL.val (by kernel_rfl) (.bool false) (by go_simp) ?_
              simp only [Act.put, List.setIfInBounds_toArray, List.set_cons_zero, List.set_cons_succ]
              refine WL.val (by kernel_rfl) (.bool false) (by go_simp) ?_
              simp only [Act.put, List.setIfInBounds_toArray, List.set_cons_zero, List.set_cons_succ]
              refine WL.val (by kernel_rfl) (.bool false) (by go_simp) ?_
              simp only [Act.put, List.setIfInBounds_toArray, List.set_cons_zero, List.set_cons_succ]
              refine WL.nil ?_
              refine hK4 _ _ ?_
              refine wp_cond_false rfl ?_
              refine wp_seq_k fun K5 hK5 => ?_
              refine wp_region_list (WL.out ?_)
              refine WL.row (by kernel_rfl) 33 (.tmp 3) rfl w.heap.size rfl 33 (opA x) _ HB.out Try.underlying33 rfl (Try.size33B x) ?_
              simp only [Act.put, List.setIfInBounds_toArray, List.set_cons_zero, List.set_cons_succ]
              refine WL.val (by kernel_rfl) (.slice va (hasI x.kind).length vc) (by go_simp) ?_
              simp only [Act.put, List.setIfInBounds_toArray, List.set_cons_zero, List.set_cons_succ]
              refine WL.callF (by kernel_rfl) 54 _ _ rfl Try.in54 #[.agg (opA x), .slice va (hasI x.kind).length vc] (by simp [Act.eval]) ?_
              refine (other_any x _ (hasI x.kind) w1 (HF.out.below HW.out) (hasI_lt _) (hasI_len _)).mono ?_
              rintro e w2 ⟨rfl, h2⟩
              rw [hS]
              refine ⟨_, rfl, ?_⟩
              have HB2 := Keep.mk (HB.out.below h2 HB.out.lt)
              have HW2 := Keep.mk (HW.out.trans (h2.mono HW.out.size))
              have d0 := HB2.out.c 0 (opA_0 x)
              clear h2
              simp only [Act.put, List.setIfInBounds_toArray, List.set_cons_zero, List.set_cons_succ]
              refine WL.val (by kernel_rfl) (.bool false) (by go_simp) ?_
              simp only [Act.put, List.setIfInBounds_toArray, List.set_cons_zero, List.set_cons_succ]
              refine WL.nil ?_
              refine hK5 _ _ ?_
              refine wp_cond_false rfl ?_
              refine wp_seq_k fun K6 hK6 => ?_
              refine wp_region_list (WL.out ?_)
              refine WL.val (by kernel_rfl) (.pointer (some ⟨w.heap.size, 0, none⟩)) (by go_simp) ?_
              simp only [Act.put, List.setIfInBounds_toArray, List.set_cons_zero, List.set_cons_succ]
              refine WL.val (by kernel_rfl) (.int .i64 x.kind) (by go_simp) ?_
              simp only [Act.put, List.setIfInBounds_toArray, List.set_cons_zero, List.set_cons_succ]
              refine WL.callF (by kernel_rfl) 12 _ _ rfl Try.in12 #[.int .i64 x.kind] (by simp [Act.eval]) ?_
              refine (cell_any x.kind w2).mono ?_
              rintro e w3 ⟨rfl, rfl⟩
              refine ⟨_, rfl, ?_⟩
              simp only [Act.put, List.setIfInBounds_toArray, List.set_cons_zero, List.set_cons_succ]
              refine WL.val (by kernel_rfl) (.bool true) (by go_simp) ?_
              simp only [Act.put, List.setIfInBounds_toArray, List.set_cons_zero, List.set_cons_succ]
              refine WL.val (by kernel_rfl) (.bool true) (by go_simp) ?_
              simp only [Act.put, List.setIfInBounds_toArray, List.set_cons_zero, List.set_cons_succ]
              refine WL.row (by kernel_rfl) 33 (.tmp 3) rfl w.heap.size rfl 33 (opA x) _ HB2.out Try.underlying33 rfl (Try.size33B x) ?_
              simp only [Act.put, List.setIfInBounds_toArray, List.set_cons_zero, List.set_cons_succ]
              refine WL.val (by kernel_rfl) (.slice la l.length lc) (by go_simp) ?_
              simp only [Act.put, List.setIfInBounds_toArray, List.set_cons_zero, List.set_cons_succ]
              refine WL.callF (by kernel_rfl) 55 _ _ rfl Try.in55 #[.agg (opA x), .slice la l.length lc] (by simp [Act.eval]) ?_
              refine (may_any x _ l _ Hx.out (HL.out.below HW2.out) Hl.out).mono ?_
              rintro e w4 ⟨rfl, h4⟩
              rw [hM]
              refine ⟨_, rfl, ?_⟩
              simp only [Act.put, List.setIfInBounds_toArray, List.set_cons_zero, List.set_cons_succ]
              refine WL.val (by kernel_rfl) (.bool true) (by go_simp) ?_
              simp only [Act.put, List.setIfInBounds_toArray, List.set_cons_zero, List.set_cons_succ]
              refine WL.val (by kernel_rfl) (.bool true) (by go_simp) ?_
              simp only [Act.put, List.setIfInBounds_toArray, List.set_cons_zero, List.set_cons_succ]
              refine WL.val (by kernel_rfl) (.bool true) (by go_simp) ?_
              simp only [Act.put, List.setIfInBounds_toArray, List.set_cons_zero, List.set_cons_succ]
              refine WL.nil ?_
              refine hK6 _ _ ?_
              refine wp_cond_true rfl ?_
              refine wp_seq_k fun K7 hK7 => ?_
              refine wp_region_list (WL.out ?_)
              refine WL.val (by kernel_rfl) (.int .i64 42) (by go_simp) ?_
              simp only [Act.put, List.setIfInBounds_toArray, List.set_cons_zero, List.set_cons_succ]
              refine WL.nil ?_
              refine hK7 _ _ ?_
              refine wp_ret ?_
              go_ret
              exact ⟨by rw [HR.out]; rfl, HW2.out.trans (h4.mono HW2.out.size)⟩
            | true =>
              rw [if_pos hM] at HR
              refine wp_seq_k fun K1 hK1 => ?_
              refine wp_region_list (WL.out ?_)
              refine WL.box (by kernel_rfl) 33 (.tmp 0) rfl (opA x) rfl ?_
              rw [hw1.out]
              simp only [Act.put, List.setIfInBounds_toArray, List.set_cons_zero, List.set_cons_succ]
              refine WL.val (by kernel_rfl) (.int .i64 0) (by go_simp) ?_
              simp only [Act.put, List.setIfInBounds_toArray, List.set_cons_zero, List.set_cons_succ]
              refine WL.nil ?_
              refine hK1 _ _ ?_
              refine wp_seq_k fun K2 hK2 => ?_
              refine wp_block ?_
              refine wp_seq_k fun K3 hK3 => ?_
              refine wp_region_list (WL.out ?_)
              refine WL.val (by kernel_rfl) (.slice va (hasI x.kind).length vc) (by go_simp) ?_
              simp only [Act.put, List.setIfInBounds_toArray, List.set_cons_zero, List.set_cons_succ]
              refine WL.val (by kernel_rfl) (.int .i64 ((hasI x.kind).length : Int)) (by go_simp) ?_
              simp only [Act.put, List.setIfInBounds_toArray, List.set_cons_zero, List.set_cons_succ]
              refine WL.val (by kernel_rfl) (.bool false) (by go_simp) ?_
              simp only [Act.put, List.setIfInBounds_toArray, List.set_cons_zero, List.set_cons_succ]
              refine WL.val (by kernel_rfl) (.bool false) (by go_simp) ?_
              simp only [Act.put, List.setIfInBounds_toArray, List.set_cons_zero, List.set_cons_succ]
              refine WL.nil ?_
              refine hK3 _ _ ?_
              refine wp_cond_false rfl ?_
              refine wp_seq_k fun K4 hK4 => ?_
              refine wp_region_list (WL.out ?_)
              refine WL.val (by kernel_rfl) (.pointer (some ⟨w.heap.size, 1, none⟩)) (by go_simp) ?_
              simp only [Act.put, List.setIfInBounds_toArray, List.set_cons_zero, List.set_cons_succ]
              refine WL.val (by kernel_rfl) (.string x.key) (by go_simp) ?_
              simp only [Act.put, List.setIfInBounds_toArray, List.set_cons_zero, List.set_cons_succ]
              refine WL.val (by kernel_rfl) (.int .i64 (x.key.size : Int)) (by go_simp) ?_
              simp only [Act.put, List.setIfInBounds_toArray, List.set_cons_zero, List.set_cons_succ]
              refine WL.val (by kernel_rfl) (.bool false) (by go_simp) ?_
              simp only [Act.put, List.setIfInBounds_toArray, List.set_cons_zero, List.set_cons_succ]
              refine WL.val (by kernel_rfl) (.bool false) (by go_simp) ?_
              simp only [Act.put, List.setIfInBounds_toArray, List.set_cons_zero, List.set_cons_succ]
              refine WL.val (by kernel_rfl) (.pointer (some ⟨w.heap.size, 2, none⟩)) (by go_simp) ?_
              simp only [Act.put, List.setIfInBounds_toArray, List.set_cons_zero, List.set_cons_succ]
              refine WL.val (by kernel_rfl) (.string x.text) (by go_simp) ?_
              simp only [Act.put, List.setIfInBounds_toArray, List.set_cons_zero, List.set_cons_succ]
              refine WL.val (by kernel_rfl) (.int .i64 (x.text.size : Int)) (by go_simp) ?_
              simp only [Act.put, List.setIfInBounds_toArray, List.set_cons_zero, List.set_cons_succ]
              refine WL.val (by kernel_rfl) (.bool false) (by go_simp) ?_
              simp only [Act.put, List.setIfInBounds_toArray, List.set_cons_zero, List.set_cons_succ]
              refine WL.val (by kernel_rfl) (.bool false) (by go_simp) ?_
              simp only [Act.put, List.setIfInBounds_toArray, List.set_cons_zero, List.set_cons_succ]
              refine WL.val (by kernel_rfl) (.bool false) (by go_simp) ?_
              simp only [Act.put, List.setIfInBounds_toArray, List.set_cons_zero, List.set_cons_succ]
              refine WL.nil ?_
              refine hK4 _ _ ?_
              refine wp_cond_false rfl ?_
              refine wp_seq_k fun K5 hK5 => ?_
              refine wp_region_list (WL.out ?_)
              refine WL.row (by kernel_rfl) 33 (.tmp 3) rfl w.heap.size rfl 33 (opA x) _ HB.out Try.underlying33 rfl (Try.size33B x) ?_
              simp only [Act.put, List.setIfInBounds_toArray, List.set_cons_zero, List.set_cons_succ]
              refine WL.val (by kernel_rfl) (.slice va (hasI x.kind).length vc) (by go_simp) ?_
              simp only [Act.put, List.setIfInBounds_toArray, List.set_cons_zero, List.set_cons_succ]
              refine WL.callF (by kernel_rfl) 54 _ _ rfl Try.in54 #[.agg (opA x), .slice va (hasI x.kind).length vc] (by simp [Act.eval]) ?_
              refine (other_any x _ (hasI x.kind) w1 (HF.out.below HW.out) (hasI_lt _) (hasI_len _)).mono ?_
              rintro e w2 ⟨rfl, h2⟩
              rw [hS]
              refine ⟨_, rfl, ?_⟩
              have HB2 := Keep.mk (HB.out.below h2 HB.out.lt)
              have HW2 := Keep.mk (HW.out.trans (h2.mono HW.out.size))
              have d0 := HB2.out.c 0 (opA_0 x)
              clear h2
              simp only [Act.put, List.setIfInBounds_toArray, List.set_cons_zero, List.set_cons_succ]
              refine WL.val (by kernel_rfl) (.bool false) (by go_simp) ?_
              simp only [Act.put, List.setIfInBounds_toArray, List.set_cons_zero, List.set_cons_succ]
              refine WL.nil ?_
              refine hK5 _ _ ?_
              refine wp_cond_false rfl ?_
              refine wp_seq_k fun K6 hK6 => ?_
              refine wp_region_list (WL.out ?_)
              refine WL.val (by kernel_rfl) (.pointer (some ⟨w.heap.size, 0, none⟩)) (by go_simp) ?_
              simp only [Act.put, List.setIfInBounds_toArray, List.set_cons_zero, List.set_cons_succ]
              refine WL.val (by kernel_rfl) (.int .i64 x.kind) (by go_simp) ?_
              simp only [Act.put, List.setIfInBounds_toArray, List.set_cons_zero, List.set_cons_succ]
              refine WL.callF (by kernel_rfl) 12 _ _ rfl Try.in12 #[.int .i64 x.kind] (by simp [Act.eval]) ?_
              refine (cell_any x.kind w2).mono ?_
              rintro e w3 ⟨rfl, rfl⟩
              refine ⟨_, rfl, ?_⟩
              simp only [Act.put, List.setIfInBounds_toArray, List.set_cons_zero, List.set_cons_succ]
              refine WL.val (by kernel_rfl) (.bool true) (by go_simp) ?_
              simp only [Act.put, List.setIfInBounds_toArray, List.set_cons_zero, List.set_cons_succ]
              refine WL.val (by kernel_rfl) (.bool true) (by go_simp) ?_
              simp only [Act.put, List.setIfInBounds_toArray, List.set_cons_zero, List.set_cons_succ]
              refine WL.row (by kernel_rfl) 33 (.tmp 3) rfl w.heap.size rfl 33 (opA x) _ HB2.out Try.underlying33 rfl (Try.size33B x) ?_
              simp only [Act.put, List.setIfInBounds_toArray, List.set_cons_zero, List.set_cons_succ]
              refine WL.val (by kernel_rfl) (.slice la l.length lc) (by go_simp) ?_
              simp only [Act.put, List.setIfInBounds_toArray, List.set_cons_zero, List.set_cons_succ]
              refine WL.callF (by kernel_rfl) 55 _ _ rfl Try.in55 #[.agg (opA x), .slice la l.length lc] (by simp [Act.eval]) ?_
              refine (may_any x _ l _ Hx.out (HL.out.below HW2.out) Hl.out).mono ?_
              rintro e w4 ⟨rfl, h4⟩
              rw [hM]
              refine ⟨_, rfl, ?_⟩
              simp only [Act.put, List.setIfInBounds_toArray, List.set_cons_zero, List.set_cons_succ]
              refine WL.val (by kernel_rfl) (.bool false) (by go_simp) ?_
              simp only [Act.put, List.setIfInBounds_toArray, List.set_cons_zero, List.set_cons_succ]
              refine WL.val (by kernel_rfl) (.bool false) (by go_simp) ?_
              simp only [Act.put, List.setIfInBounds_toArray, List.set_cons_zero, List.set_cons_succ]
              refine WL.val (by kernel_rfl) (.bool false) (by go_simp) ?_
              simp only [Act.put, List.setIfInBounds_toArray, List.set_cons_zero, List.set_cons_succ]
              refine WL.nil ?_
              refine hK6 _ _ ?_
              refine wp_cond_false rfl ?_
              refine wp_skip ?_
              refine hK2 _ _ ?_
              refine wp_seq_k fun K7 hK7 => ?_
              refine wp_region_list (WL.out ?_)
              refine WL.val (by kernel_rfl) (.int .i64 0) (by go_simp) ?_
              simp only [Act.put, List.setIfInBounds_toArray, List.set_cons_zero, List.set_cons_succ]
              refine WL.nil ?_
              refine hK7 _ _ ?_
              refine wp_ret ?_
              go_ret
              exact ⟨by rw [HR.out]; rfl, HW2.out.trans (h4.mono HW2.out.size)⟩
          · rw [if_neg hD] at HR
            refine wp_seq_k fun K1 hK1 => ?_
            refine wp_region_list (WL.out ?_)
            refine WL.box (by kernel_rfl) 33 (.tmp 0) rfl (opA x) rfl ?_
            rw [hw1.out]
            simp only [Act.put, List.setIfInBounds_toArray, List.set_cons_zero, List.set_cons_succ]
            refine WL.val (by kernel_rfl) (.int .i64 0) (by go_simp) ?_
            simp only [Act.put, List.setIfInBounds_toArray, List.set_cons_zero, List.set_cons_succ]
            refine WL.nil ?_
            refine hK1 _ _ ?_
            refine wp_seq_k fun K2 hK2 => ?_
            refine wp_block ?_
            refine wp_seq_k fun K3 hK3 => ?_
            refine wp_region_list (WL.out ?_)
            refine WL.val (by kernel_rfl) (.slice va (hasI x.kind).length vc) (by go_simp) ?_
            simp only [Act.put, List.setIfInBounds_toArray, List.set_cons_zero, List.set_cons_succ]
            refine WL.val (by kernel_rfl) (.int .i64 ((hasI x.kind).length : Int)) (by go_simp) ?_
            simp only [Act.put, List.setIfInBounds_toArray, List.set_cons_zero, List.set_cons_succ]
            refine WL.val (by kernel_rfl) (.bool false) (by go_simp) ?_
            simp only [Act.put, List.setIfInBounds_toArray, List.set_cons_zero, List.set_cons_succ]
            refine WL.val (by kernel_rfl) (.bool false) (by go_simp) ?_
            simp only [Act.put, List.setIfInBounds_toArray, List.set_cons_zero, List.set_cons_succ]
            refine WL.nil ?_
            refine hK3 _ _ ?_
            refine wp_cond_false rfl ?_
            refine wp_seq_k fun K4 hK4 => ?_
            refine wp_region_list (WL.out ?_)
            refine WL.val (by kernel_rfl) (.pointer (some ⟨w.heap.size, 1, none⟩)) (by go_simp) ?_
            simp only [Act.put, List.setIfInBounds_toArray, List.set_cons_zero, List.set_cons_succ]
            refine WL.val (by kernel_rfl) (.string x.key) (by go_simp) ?_
            simp only [Act.put, List.setIfInBounds_toArray, List.set_cons_zero, List.set_cons_succ]
            refine WL.val (by kernel_rfl) (.int .i64 (x.key.size : Int)) (by go_simp) ?_
            simp only [Act.put, List.setIfInBounds_toArray, List.set_cons_zero, List.set_cons_succ]
            refine WL.val (by kernel_rfl) (.bool false) (by go_simp) ?_
            simp only [Act.put, List.setIfInBounds_toArray, List.set_cons_zero, List.set_cons_succ]
            refine WL.val (by kernel_rfl) (.bool false) (by go_simp) ?_
            simp only [Act.put, List.setIfInBounds_toArray, List.set_cons_zero, List.set_cons_succ]
            refine WL.val (by kernel_rfl) (.pointer (some ⟨w.heap.size, 2, none⟩)) (by go_simp) ?_
            simp only [Act.put, List.setIfInBounds_toArray, List.set_cons_zero, List.set_cons_succ]
            refine WL.val (by kernel_rfl) (.string x.text) (by go_simp) ?_
            simp only [Act.put, List.setIfInBounds_toArray, List.set_cons_zero, List.set_cons_succ]
            refine WL.val (by kernel_rfl) (.int .i64 (x.text.size : Int)) (by go_simp) ?_
            simp only [Act.put, List.setIfInBounds_toArray, List.set_cons_zero, List.set_cons_succ]
            refine WL.val (by kernel_rfl) (.bool false) (by go_simp) ?_
            simp only [Act.put, List.setIfInBounds_toArray, List.set_cons_zero, List.set_cons_succ]
            refine WL.val (by kernel_rfl) (.bool false) (by go_simp) ?_
            simp only [Act.put, List.setIfInBounds_toArray, List.set_cons_zero, List.set_cons_succ]
            refine WL.val (by kernel_rfl) (.bool false) (by go_simp) ?_
            simp only [Act.put, List.setIfInBounds_toArray, List.set_cons_zero, List.set_cons_succ]
            refine WL.nil ?_
            refine hK4 _ _ ?_
            refine wp_cond_false rfl ?_
            refine wp_seq_k fun K5 hK5 => ?_
            refine wp_region_list (WL.out ?_)
            refine WL.row (by kernel_rfl) 33 (.tmp 3) rfl w.heap.size rfl 33 (opA x) _ HB.out Try.underlying33 rfl (Try.size33B x) ?_
            simp only [Act.put, List.setIfInBounds_toArray, List.set_cons_zero, List.set_cons_succ]
            refine WL.val (by kernel_rfl) (.slice va (hasI x.kind).length vc) (by go_simp) ?_
            simp only [Act.put, List.setIfInBounds_toArray, List.set_cons_zero, List.set_cons_succ]
            refine WL.callF (by kernel_rfl) 54 _ _ rfl Try.in54 #[.agg (opA x), .slice va (hasI x.kind).length vc] (by simp [Act.eval]) ?_
            refine (other_any x _ (hasI x.kind) w1 (HF.out.below HW.out) (hasI_lt _) (hasI_len _)).mono ?_
            rintro e w2 ⟨rfl, h2⟩
            rw [hS]
            refine ⟨_, rfl, ?_⟩
            have HB2 := Keep.mk (HB.out.below h2 HB.out.lt)
            have HW2 := Keep.mk (HW.out.trans (h2.mono HW.out.size))
            have d0 := HB2.out.c 0 (opA_0 x)
            clear h2
            simp only [Act.put, List.setIfInBounds_toArray, List.set_cons_zero, List.set_cons_succ]
            refine WL.val (by kernel_rfl) (.bool false) (by go_simp) ?_
            simp only [Act.put, List.setIfInBounds_toArray, List.set_cons_zero, List.set_cons_succ]
            refine WL.nil ?_
            refine hK5 _ _ ?_
            refine wp_cond_false rfl ?_
            refine wp_seq_k fun K6 hK6 => ?_
            refine wp_region_list (WL.out ?_)
            refine WL.val (by kernel_rfl) (.pointer (some ⟨w.heap.size, 0, none⟩)) (by go_simp) ?_
            simp only [Act.put, List.setIfInBounds_toArray, List.set_cons_zero, List.set_cons_succ]
            refine WL.val (by kernel_rfl) (.int .i64 x.kind) (by go_simp) ?_
            simp only [Act.put, List.setIfInBounds_toArray, List.set_cons_zero, List.set_cons_succ]
            refine WL.callF (by kernel_rfl) 12 _ _ rfl Try.in12 #[.int .i64 x.kind] (by simp [Act.eval]) ?_
            refine (cell_any x.kind w2).mono ?_
            rintro e w3 ⟨rfl, rfl⟩
            refine ⟨_, rfl, ?_⟩
            simp only [Act.put, List.setIfInBounds_toArray, List.set_cons_zero, List.set_cons_succ]
            refine WL.val (by kernel_rfl) (.bool false) (by go_simp) ?_
            simp only [Act.put, List.setIfInBounds_toArray, List.set_cons_zero, List.set_cons_succ]
            refine WL.val (by kernel_rfl) (.bool false) (by go_simp) ?_
            simp only [Act.put, List.setIfInBounds_toArray, List.set_cons_zero, List.set_cons_succ]
            refine WL.skip (by kernel_rfl) ?_
            simp only [Act.put, List.setIfInBounds_toArray, List.set_cons_zero, List.set_cons_succ]
            refine WL.skip (by kernel_rfl) ?_
            simp only [Act.put, List.setIfInBounds_toArray, List.set_cons_zero, List.set_cons_succ]
            refine WL.skip (by kernel_rfl) ?_
            simp only [Act.put, List.setIfInBounds_toArray, List.set_cons_zero, List.set_cons_succ]
            refine WL.skip (by kernel_rfl) ?_
            simp only [Act.put, List.setIfInBounds_toArray, List.set_cons_zero, List.set_cons_succ]
            refine WL.val (by kernel_rfl) (.bool false) (by go_simp) ?_
            simp only [Act.put, List.setIfInBounds_toArray, List.set_cons_zero, List.set_cons_succ]
            refine WL.val (by kernel_rfl) (.bool false) (by go_simp) ?_
            simp only [Act.put, List.setIfInBounds_toArray, List.set_cons_zero, List.set_cons_succ]
            refine WL.nil ?_
            refine hK6 _ _ ?_
            refine wp_cond_false rfl ?_
            refine wp_skip ?_
            refine hK2 _ _ ?_
            refine wp_seq_k fun K7 hK7 => ?_
            refine wp_region_list (WL.out ?_)
            refine WL.val (by kernel_rfl) (.int .i64 0) (by go_simp) ?_
            simp only [Act.put, List.setIfInBounds_toArray, List.set_cons_zero, List.set_cons_succ]
            refine WL.nil ?_
            refine hK7 _ _ ?_
            refine wp_ret ?_
            go_ret
            exact ⟨by rw [HR.out]; rfl, HW2.out⟩

/-- The first one that may not be. -/
def chkF : List OpV → List OpV → Int × Nat
  | _, [] => (0, 0)
  | l, x :: r => if wrongV l x = 0 then chkF (l ++ [x]) r else (wrongV l x, l.length)
def chk (l : List OpV) : Int × Nat := if 1024 < l.length then (3, 0) else chkF [] l
end Go.Proofs.Ytbkboebinhafhaa
