import Derived.Test.YtdeiicldfgkidaaGreatD05
namespace Go.Proofs.YtdeiicldfgkidaaGreat
open Go.RowKit
set_option linter.unusedSimpArgs false

def wrongV (l : List OpV) (x : OpV) : Int :=
 if hasI x.kind = [] then 40 else if 65536 < x.key.size then 4 else if 65536 < x.text.size then 4 else if sm (wipes (hasI x.kind) { x with kind := 0 }) zeroOp = false then 41 else if cellV x.kind = 4 then (if mayAt l x = true then 0 else 42) else 0
theorem hasI_lt (k : Int) : ∀ i ∈ hasI k, i < 4 := by
 by_cases h : k ∈ ([1, 2, 3, 4, 5, 6, 7, 8, 9] : List Int)
 ·simp only [List.mem_cons, List.not_mem_nil, or_false] at h
  rcases h with rfl | rfl | rfl | rfl | rfl | rfl | rfl | rfl | rfl <;> decide
 ·rw [hasI_none k h]; simp
theorem hasI_len (k : Int) : (hasI k).length ≤ 3 := by
 by_cases h : k ∈ ([1, 2, 3, 4, 5, 6, 7, 8, 9] : List Int)
 ·simp only [List.mem_cons, List.not_mem_nil, or_false] at h
  rcases h with rfl | rfl | rfl | rfl | rfl | rfl | rfl | rfl | rfl <;> decide
 ·rw [hasI_none k h]; simp
set_option maxRecDepth 8000 in
set_option maxHeartbeats 1000000 in
theorem wrong_any (x : OpV) (v vl : Value) (l : List OpV) (w : World) (hF : FieldsAt w v (hasI x.kind)) (hx : OpOk x) (hl : OpsAt w vl l) (hb : l.length ≤ 4398046511104) :
  Calls Tryz.prog 80 #[.agg (opA x), v, vl] w fun e w' => e = .returned (.int .i64 (wrongV l x)) ∧ Below w.heap.size w w' := by
 obtain ⟨va, vc, rfl⟩ := hF.form
 obtain ⟨la, lc, rfl⟩ := hl.form
 have HF := Keep.mk hF
 have Hx := Keep.mk hx
 have HL := Keep.mk hl
 have Hl := Keep.mk hb
 have HB := Keep.mk (Blk.new w 88 (opA x))
 have HW := Keep.mk (below_new w (.cells (opA x) 88))
 obtain ⟨w1, hw1⟩ : ∃ w1, Keep (w.alloc (.cells (opA x) 88) = w1) := ⟨_, ⟨rfl⟩⟩
 rw [hw1.out] at HB HW
 have c0 := HB.out.c 0 (opA_0 x)
 have c1 := HB.out.c 1 (opA_1 x)
 have c2 := HB.out.c 2 (opA_2 x)
 have hk1 : (x.key.size : Int) ≤ 9223372036854775807 := by have := hx.key; omega
 have hk2 : (x.text.size : Int) ≤ 9223372036854775807 := by have := hx.text; omega
 obtain ⟨R, hR⟩ : ∃ R, R = wrongV l x := ⟨_, rfl⟩
 rw [← hR]
 unfold wrongV at hR
 have HR := Keep.mk hR
 have hI3 := hasI_len x.kind
 clear hF hx hl hb hR
 go_enter Tryz.func80, Tryz.ntmps80
 by_cases hA : hasI x.kind = []
 ·rw [if_pos hA] at HR
  have hA0 : (hasI x.kind).length = 0 := by rw [hA]; rfl
  refine wp_seq_k fun K1 hK1 => rgn ?_
  refine WL.box (by kernel_rfl) 88 (.tmp 0) rfl (opA x) rfl ?_
  rw [hw1.out]
  simp only [Act.put, pqA, pqB, pqC]
  refine VlS (.int .i64 0) ?_
  refine WL.nil (hK1 _ _ ?_)
  refine wp_seq_k fun K2 hK2 => ?_
  refine wp_block ?_
  refine wp_seq_k fun K3 hK3 => rgn ?_
  refine VlS (.slice va (hasI x.kind).length vc) ?_
  refine VlS (.int .i64 ((hasI x.kind).length : Int)) ?_
  refine VlS (.bool true) ?_
  refine VlS (.bool true) ?_
  refine WL.nil (hK3 _ _ ?_)
  refine wp_cond_true rfl ?_
  refine wp_seq_k fun K4 hK4 => rgn ?_
  refine VlS (.int .i64 40) ?_
  refine WL.nil (hK4 _ _ ?_)
  refine wp_ret ?_
  go_ret
  exact ⟨by rw [HR.out]; rfl, HW.out⟩
 ·rw [if_neg hA] at HR
  have hA0 : (hasI x.kind).length ≠ 0 := fun e => hA (List.eq_nil_of_length_eq_zero e)
  have hA1 : ¬ ((hasI x.kind).length : Int) = 0 := by omega
  by_cases hB1 : 65536 < x.key.size
  ·rw [if_pos hB1] at HR
   have hB1' : (65536 : Int) < (x.key.size : Int) := by omega
   refine wp_seq_k fun K1 hK1 => rgn ?_
   refine WL.box (by kernel_rfl) 88 (.tmp 0) rfl (opA x) rfl ?_
   rw [hw1.out]
   simp only [Act.put, pqA, pqB, pqC]
   refine VlS (.int .i64 0) ?_
   refine WL.nil (hK1 _ _ ?_)
   refine wp_seq_k fun K2 hK2 => ?_
   refine wp_block ?_
   refine wp_seq_k fun K3 hK3 => rgn ?_
   refine VlS (.slice va (hasI x.kind).length vc) ?_
   refine VlS (.int .i64 ((hasI x.kind).length : Int)) ?_
   refine VlS (.bool false) ?_
   refine VlS (.bool false) ?_
   refine WL.nil (hK3 _ _ ?_)
   refine wp_cond_false rfl ?_
   refine wp_seq_k fun K4 hK4 => rgn ?_
   refine VlS (.pointer (some ⟨w.heap.size, 1, none⟩)) ?_
   refine VlS (.string x.key) ?_
   refine VlS (.int .i64 (x.key.size : Int)) ?_
   refine VlS (.bool true) ?_
   refine VlS (.bool true) ?_
   refine SkS ?_
   refine SkS ?_
   refine SkS ?_
   refine SkS ?_
   refine VlS (.bool true) ?_
   refine VlS (.bool true) ?_
   refine WL.nil (hK4 _ _ ?_)
   refine wp_cond_true rfl ?_
   refine wp_seq_k fun K5 hK5 => rgn ?_
   refine VlS (.int .i64 4) ?_
   refine WL.nil (hK5 _ _ ?_)
   refine wp_ret ?_
   go_ret
   exact ⟨by rw [HR.out]; rfl, HW.out⟩
  ·rw [if_neg hB1] at HR
   have hB1' : ¬ (65536 : Int) < (x.key.size : Int) := by omega
   by_cases hB2 : 65536 < x.text.size
   ·rw [if_pos hB2] at HR
    have hB2' : (65536 : Int) < (x.text.size : Int) := by omega
    refine wp_seq_k fun K1 hK1 => rgn ?_
    refine WL.box (by kernel_rfl) 88 (.tmp 0) rfl (opA x) rfl ?_
    rw [hw1.out]
    simp only [Act.put, pqA, pqB, pqC]
    refine VlS (.int .i64 0) ?_
    refine WL.nil (hK1 _ _ ?_)
    refine wp_seq_k fun K2 hK2 => ?_
    refine wp_block ?_
    refine wp_seq_k fun K3 hK3 => rgn ?_
    refine VlS (.slice va (hasI x.kind).length vc) ?_
    refine VlS (.int .i64 ((hasI x.kind).length : Int)) ?_
    refine VlS (.bool false) ?_
    refine VlS (.bool false) ?_
    refine WL.nil (hK3 _ _ ?_)
    refine wp_cond_false rfl ?_
    refine wp_seq_k fun K4 hK4 => rgn ?_
    refine VlS (.pointer (some ⟨w.heap.size, 1, none⟩)) ?_
    refine VlS (.string x.key) ?_
    refine VlS (.int .i64 (x.key.size : Int)) ?_
    refine VlS (.bool false) ?_
    refine VlS (.bool false) ?_
    refine VlS (.pointer (some ⟨w.heap.size, 2, none⟩)) ?_
    refine VlS (.string x.text) ?_
    refine VlS (.int .i64 (x.text.size : Int)) ?_
    refine VlS (.bool true) ?_
    refine VlS (.bool true) ?_
    refine VlS (.bool true) ?_
    refine WL.nil (hK4 _ _ ?_)
    refine wp_cond_true rfl ?_
    refine wp_seq_k fun K5 hK5 => rgn ?_
    refine VlS (.int .i64 4) ?_
    refine WL.nil (hK5 _ _ ?_)
    refine wp_ret ?_
    go_ret
    exact ⟨by rw [HR.out]; rfl, HW.out⟩
   ·rw [if_neg hB2] at HR
    have hB2' : ¬ (65536 : Int) < (x.text.size : Int) := by omega
    cases hs : sm (wipes (hasI x.kind) { x with kind := 0 }) zeroOp with
    | false =>
     rw [if_pos hs] at HR
     have hS : (!sm (wipes (hasI x.kind) { x with kind := 0 }) zeroOp) = true := by rw [hs]; rfl
     refine wp_seq_k fun K1 hK1 => rgn ?_
     refine WL.box (by kernel_rfl) 88 (.tmp 0) rfl (opA x) rfl ?_
     rw [hw1.out]
     simp only [Act.put, pqA, pqB, pqC]
     refine VlS (.int .i64 0) ?_
     refine WL.nil (hK1 _ _ ?_)
     refine wp_seq_k fun K2 hK2 => ?_
     refine wp_block ?_
     refine wp_seq_k fun K3 hK3 => rgn ?_
     refine VlS (.slice va (hasI x.kind).length vc) ?_
     refine VlS (.int .i64 ((hasI x.kind).length : Int)) ?_
     refine VlS (.bool false) ?_
     refine VlS (.bool false) ?_
     refine WL.nil (hK3 _ _ ?_)
     refine wp_cond_false rfl ?_
     refine wp_seq_k fun K4 hK4 => rgn ?_
     refine VlS (.pointer (some ⟨w.heap.size, 1, none⟩)) ?_
     refine VlS (.string x.key) ?_
     refine VlS (.int .i64 (x.key.size : Int)) ?_
     refine VlS (.bool false) ?_
     refine VlS (.bool false) ?_
     refine VlS (.pointer (some ⟨w.heap.size, 2, none⟩)) ?_
     refine VlS (.string x.text) ?_
     refine VlS (.int .i64 (x.text.size : Int)) ?_
     refine VlS (.bool false) ?_
     refine VlS (.bool false) ?_
     refine VlS (.bool false) ?_
     refine WL.nil (hK4 _ _ ?_)
     refine wp_cond_false rfl ?_
     refine wp_seq_k fun K5 hK5 => rgn ?_
     refine WL.row (by kernel_rfl) 88 (.tmp 3) rfl w.heap.size rfl 88 (opA x) _ HB.out Tryz.underlying88 rfl (Tryz.size88B x) ?_
     simp only [Act.put, pqA, pqB, pqC]
     refine VlS (.slice va (hasI x.kind).length vc) ?_
     refine WL.callF (by kernel_rfl) 109 _ _ rfl Tryz.in109 #[.agg (opA x), .slice va (hasI x.kind).length vc] (by simp [Act.eval]) ?_
     refine (other_any x _ (hasI x.kind) w1 (HF.out.below HW.out) (hasI_lt _) (hasI_len _)).mono ?_
     rintro e w2 ⟨rfl, h2⟩
     rw [hS]
     refine ⟨_, rfl, ?_⟩
     have HB2 := Keep.mk (HB.out.below h2 HB.out.lt)
     have HW2 := Keep.mk (HW.out.trans (h2.mono HW.out.size))
     have d0 := HB2.out.c 0 (opA_0 x)
     clear h2
     simp only [Act.put, pqA, pqB, pqC]
     refine VlS (.bool true) ?_
     refine WL.nil (hK5 _ _ ?_)
     refine wp_cond_true rfl ?_
     refine wp_seq_k fun K6 hK6 => rgn ?_
     refine VlS (.int .i64 41) ?_
     refine WL.nil (hK6 _ _ ?_)
     refine wp_ret ?_
     go_ret
     exact ⟨by rw [HR.out]; rfl, HW2.out⟩
    | true =>
     rw [if_neg (by rw [hs]; decide)] at HR
     have hS : (!sm (wipes (hasI x.kind) { x with kind := 0 }) zeroOp) = false := by rw [hs]; rfl
     by_cases hD : cellV x.kind = 4
     ·rw [if_pos hD] at HR
      cases hM : mayAt l x with
      | false =>
       rw [if_neg (by rw [hM]; decide)] at HR
       refine wp_seq_k fun K1 hK1 => rgn ?_
       refine WL.box (by kernel_rfl) 88 (.tmp 0) rfl (opA x) rfl ?_
       rw [hw1.out]
       simp only [Act.put, pqA, pqB, pqC]
       refine VlS (.int .i64 0) ?_
       refine WL.nil (hK1 _ _ ?_)
       refine wp_seq_k fun K2 hK2 => ?_
       refine wp_block ?_
       refine wp_seq_k fun K3 hK3 => rgn ?_
       refine VlS (.slice va (hasI x.kind).length vc) ?_
       refine VlS (.int .i64 ((hasI x.kind).length : Int)) ?_
       refine VlS (.bool false) ?_
       refine VlS (.bool false) ?_
       refine WL.nil (hK3 _ _ ?_)
       refine wp_cond_false rfl ?_
       refine wp_seq_k fun K4 hK4 => rgn ?_
       refine VlS (.pointer (some ⟨w.heap.size, 1, none⟩)) ?_
       refine VlS (.string x.key) ?_
       refine VlS (.int .i64 (x.key.size : Int)) ?_
       refine VlS (.bool false) ?_
       refine VlS (.bool false) ?_
       refine VlS (.pointer (some ⟨w.heap.size, 2, none⟩)) ?_
       refine VlS (.string x.text) ?_
       refine VlS (.int .i64 (x.text.size : Int)) ?_
       refine VlS (.bool false) ?_
       refine VlS (.bool false) ?_
       refine VlS (.bool false) ?_
       refine WL.nil (hK4 _ _ ?_)
       refine wp_cond_false rfl ?_
       refine wp_seq_k fun K5 hK5 => rgn ?_
       refine WL.row (by kernel_rfl) 88 (.tmp 3) rfl w.heap.size rfl 88 (opA x) _ HB.out Tryz.underlying88 rfl (Tryz.size88B x) ?_
       simp only [Act.put, pqA, pqB, pqC]
       refine VlS (.slice va (hasI x.kind).length vc) ?_
       refine WL.callF (by kernel_rfl) 109 _ _ rfl Tryz.in109 #[.agg (opA x), .slice va (hasI x.kind).length vc] (by simp [Act.eval]) ?_
       refine (other_any x _ (hasI x.kind) w1 (HF.out.below HW.out) (hasI_lt _) (hasI_len _)).mono ?_
       rintro e w2 ⟨rfl, h2⟩
       rw [hS]
       refine ⟨_, rfl, ?_⟩
       have HB2 := Keep.mk (HB.out.below h2 HB.out.lt)
       have HW2 := Keep.mk (HW.out.trans (h2.mono HW.out.size))
       have d0 := HB2.out.c 0 (opA_0 x)
       clear h2
       simp only [Act.put, pqA, pqB, pqC]
       refine VlS (.bool false) ?_
       refine WL.nil (hK5 _ _ ?_)
       refine wp_cond_false rfl ?_
       refine wp_seq_k fun K6 hK6 => rgn ?_
       refine VlS (.pointer (some ⟨w.heap.size, 0, none⟩)) ?_
       refine VlS (.int .i64 x.kind) ?_
       refine WL.callF (by kernel_rfl) 110 _ _ rfl Tryz.in110 #[.int .i64 x.kind] (by simp [Act.eval]) ?_
       refine (cell_any x.kind w2).mono ?_
       rintro e w3 ⟨rfl, rfl⟩
       refine ⟨_, rfl, ?_⟩
       simp only [Act.put, pqA, pqB, pqC]
       refine VlS (.bool true) ?_
       refine VlS (.bool true) ?_
       refine WL.row (by kernel_rfl) 88 (.tmp 3) rfl w.heap.size rfl 88 (opA x) _ HB2.out Tryz.underlying88 rfl (Tryz.size88B x) ?_
       simp only [Act.put, pqA, pqB, pqC]
       refine VlS (.slice la l.length lc) ?_
       refine WL.callF (by kernel_rfl) 111 _ _ rfl Tryz.in111 #[.agg (opA x), .slice la l.length lc] (by simp [Act.eval]) ?_
       refine (may_any x _ l _ Hx.out (HL.out.below HW2.out) Hl.out).mono ?_
       rintro e w4 ⟨rfl, h4⟩
       rw [hM]
       refine ⟨_, rfl, ?_⟩
       simp only [Act.put, pqA, pqB, pqC]
       refine VlS (.bool true) ?_
       refine VlS (.bool true) ?_
       refine VlS (.bool true) ?_
       refine WL.nil (hK6 _ _ ?_)
       refine wp_cond_true rfl ?_
       refine wp_seq_k fun K7 hK7 => rgn ?_
       refine VlS (.int .i64 42) ?_
       refine WL.nil (hK7 _ _ ?_)
       refine wp_ret ?_
       go_ret
       exact ⟨by rw [HR.out]; rfl, HW2.out.trans (h4.mono HW2.out.size)⟩
      | true =>
       rw [if_pos hM] at HR
       refine wp_seq_k fun K1 hK1 => rgn ?_
       refine WL.box (by kernel_rfl) 88 (.tmp 0) rfl (opA x) rfl ?_
       rw [hw1.out]
       simp only [Act.put, pqA, pqB, pqC]
       refine VlS (.int .i64 0) ?_
       refine WL.nil (hK1 _ _ ?_)
       refine wp_seq_k fun K2 hK2 => ?_
       refine wp_block ?_
       refine wp_seq_k fun K3 hK3 => rgn ?_
       refine VlS (.slice va (hasI x.kind).length vc) ?_
       refine VlS (.int .i64 ((hasI x.kind).length : Int)) ?_
       refine VlS (.bool false) ?_
       refine VlS (.bool false) ?_
       refine WL.nil (hK3 _ _ ?_)
       refine wp_cond_false rfl ?_
       refine wp_seq_k fun K4 hK4 => rgn ?_
       refine VlS (.pointer (some ⟨w.heap.size, 1, none⟩)) ?_
       refine VlS (.string x.key) ?_
       refine VlS (.int .i64 (x.key.size : Int)) ?_
       refine VlS (.bool false) ?_
       refine VlS (.bool false) ?_
       refine VlS (.pointer (some ⟨w.heap.size, 2, none⟩)) ?_
       refine VlS (.string x.text) ?_
       refine VlS (.int .i64 (x.text.size : Int)) ?_
       refine VlS (.bool false) ?_
       refine VlS (.bool false) ?_
       refine VlS (.bool false) ?_
       refine WL.nil (hK4 _ _ ?_)
       refine wp_cond_false rfl ?_
       refine wp_seq_k fun K5 hK5 => rgn ?_
       refine WL.row (by kernel_rfl) 88 (.tmp 3) rfl w.heap.size rfl 88 (opA x) _ HB.out Tryz.underlying88 rfl (Tryz.size88B x) ?_
       simp only [Act.put, pqA, pqB, pqC]
       refine VlS (.slice va (hasI x.kind).length vc) ?_
       refine WL.callF (by kernel_rfl) 109 _ _ rfl Tryz.in109 #[.agg (opA x), .slice va (hasI x.kind).length vc] (by simp [Act.eval]) ?_
       refine (other_any x _ (hasI x.kind) w1 (HF.out.below HW.out) (hasI_lt _) (hasI_len _)).mono ?_
       rintro e w2 ⟨rfl, h2⟩
       rw [hS]
       refine ⟨_, rfl, ?_⟩
       have HB2 := Keep.mk (HB.out.below h2 HB.out.lt)
       have HW2 := Keep.mk (HW.out.trans (h2.mono HW.out.size))
       have d0 := HB2.out.c 0 (opA_0 x)
       clear h2
       simp only [Act.put, pqA, pqB, pqC]
       refine VlS (.bool false) ?_
       refine WL.nil (hK5 _ _ ?_)
       refine wp_cond_false rfl ?_
       refine wp_seq_k fun K6 hK6 => rgn ?_
       refine VlS (.pointer (some ⟨w.heap.size, 0, none⟩)) ?_
       refine VlS (.int .i64 x.kind) ?_
       refine WL.callF (by kernel_rfl) 110 _ _ rfl Tryz.in110 #[.int .i64 x.kind] (by simp [Act.eval]) ?_
       refine (cell_any x.kind w2).mono ?_
       rintro e w3 ⟨rfl, rfl⟩
       refine ⟨_, rfl, ?_⟩
       simp only [Act.put, pqA, pqB, pqC]
       refine VlS (.bool true) ?_
       refine VlS (.bool true) ?_
       refine WL.row (by kernel_rfl) 88 (.tmp 3) rfl w.heap.size rfl 88 (opA x) _ HB2.out Tryz.underlying88 rfl (Tryz.size88B x) ?_
       simp only [Act.put, pqA, pqB, pqC]
       refine VlS (.slice la l.length lc) ?_
       refine WL.callF (by kernel_rfl) 111 _ _ rfl Tryz.in111 #[.agg (opA x), .slice la l.length lc] (by simp [Act.eval]) ?_
       refine (may_any x _ l _ Hx.out (HL.out.below HW2.out) Hl.out).mono ?_
       rintro e w4 ⟨rfl, h4⟩
       rw [hM]
       refine ⟨_, rfl, ?_⟩
       simp only [Act.put, pqA, pqB, pqC]
       refine VlS (.bool false) ?_
       refine VlS (.bool false) ?_
       refine VlS (.bool false) ?_
       refine WL.nil (hK6 _ _ ?_)
       refine wp_cond_false rfl ?_
       refine wp_skip ?_
       refine hK2 _ _ ?_
       refine wp_seq_k fun K7 hK7 => rgn ?_
       refine VlS (.int .i64 0) ?_
       refine WL.nil (hK7 _ _ ?_)
       refine wp_ret ?_
       go_ret
       exact ⟨by rw [HR.out]; rfl, HW2.out.trans (h4.mono HW2.out.size)⟩
     ·rw [if_neg hD] at HR
      refine wp_seq_k fun K1 hK1 => rgn ?_
      refine WL.box (by kernel_rfl) 88 (.tmp 0) rfl (opA x) rfl ?_
      rw [hw1.out]
      simp only [Act.put, pqA, pqB, pqC]
      refine VlS (.int .i64 0) ?_
      refine WL.nil (hK1 _ _ ?_)
      refine wp_seq_k fun K2 hK2 => ?_
      refine wp_block ?_
      refine wp_seq_k fun K3 hK3 => rgn ?_
      refine VlS (.slice va (hasI x.kind).length vc) ?_
      refine VlS (.int .i64 ((hasI x.kind).length : Int)) ?_
      refine VlS (.bool false) ?_
      refine VlS (.bool false) ?_
      refine WL.nil (hK3 _ _ ?_)
      refine wp_cond_false rfl ?_
      refine wp_seq_k fun K4 hK4 => rgn ?_
      refine VlS (.pointer (some ⟨w.heap.size, 1, none⟩)) ?_
      refine VlS (.string x.key) ?_
      refine VlS (.int .i64 (x.key.size : Int)) ?_
      refine VlS (.bool false) ?_
      refine VlS (.bool false) ?_
      refine VlS (.pointer (some ⟨w.heap.size, 2, none⟩)) ?_
      refine VlS (.string x.text) ?_
      refine VlS (.int .i64 (x.text.size : Int)) ?_
      refine VlS (.bool false) ?_
      refine VlS (.bool false) ?_
      refine VlS (.bool false) ?_
      refine WL.nil (hK4 _ _ ?_)
      refine wp_cond_false rfl ?_
      refine wp_seq_k fun K5 hK5 => rgn ?_
      refine WL.row (by kernel_rfl) 88 (.tmp 3) rfl w.heap.size rfl 88 (opA x) _ HB.out Tryz.underlying88 rfl (Tryz.size88B x) ?_
      simp only [Act.put, pqA, pqB, pqC]
      refine VlS (.slice va (hasI x.kind).length vc) ?_
      refine WL.callF (by kernel_rfl) 109 _ _ rfl Tryz.in109 #[.agg (opA x), .slice va (hasI x.kind).length vc] (by simp [Act.eval]) ?_
      refine (other_any x _ (hasI x.kind) w1 (HF.out.below HW.out) (hasI_lt _) (hasI_len _)).mono ?_
      rintro e w2 ⟨rfl, h2⟩
      rw [hS]
      refine ⟨_, rfl, ?_⟩
      have HB2 := Keep.mk (HB.out.below h2 HB.out.lt)
      have HW2 := Keep.mk (HW.out.trans (h2.mono HW.out.size))
      have d0 := HB2.out.c 0 (opA_0 x)
      clear h2
      simp only [Act.put, pqA, pqB, pqC]
      refine VlS (.bool false) ?_
      refine WL.nil (hK5 _ _ ?_)
      refine wp_cond_false rfl ?_
      refine wp_seq_k fun K6 hK6 => rgn ?_
      refine VlS (.pointer (some ⟨w.heap.size, 0, none⟩)) ?_
      refine VlS (.int .i64 x.kind) ?_
      refine WL.callF (by kernel_rfl) 110 _ _ rfl Tryz.in110 #[.int .i64 x.kind] (by simp [Act.eval]) ?_
      refine (cell_any x.kind w2).mono ?_
      rintro e w3 ⟨rfl, rfl⟩
      refine ⟨_, rfl, ?_⟩
      simp only [Act.put, pqA, pqB, pqC]
      refine VlS (.bool false) ?_
      refine VlS (.bool false) ?_
      refine SkS ?_
      refine SkS ?_
      refine SkS ?_
      refine SkS ?_
      refine VlS (.bool false) ?_
      refine VlS (.bool false) ?_
      refine WL.nil (hK6 _ _ ?_)
      refine wp_cond_false rfl ?_
      refine wp_skip ?_
      refine hK2 _ _ ?_
      refine wp_seq_k fun K7 hK7 => rgn ?_
      refine VlS (.int .i64 0) ?_
      refine WL.nil (hK7 _ _ ?_)
      refine wp_ret ?_
      go_ret
      exact ⟨by rw [HR.out]; rfl, HW2.out⟩

def chkF : List OpV → List OpV → Int × Nat
 | _, [] => (0, 0)
 | l, x :: r => if wrongV l x = 0 then chkF (l ++ [x]) r else (wrongV l x, l.length)
def chk (l : List OpV) : Int × Nat := if 1024 < l.length then (3, 0) else chkF [] l
theorem wp_callF {P : Program} {Q : Exit → Act → World → Prop} {o : Oper} {a : Act} {w : World} {K : Act → World → Prop} (f : FuncId) (args : Array Operand) (ts : Array TypeId) (ho : o.op = .call { callee := .value (.func f), args := args, argTypes := ts })
  (hf : ∀ (w : World) (vs : Array Value), (callFunc f vs).run P w = .ok (.enter f vs) w)
  (vs : Array Value) (hvs : args.map a.eval = vs)
  (R : Value → World → Prop) (hc : Calls P f vs w fun e w' => ∃ v, e = .returned v ∧ R v w')
  (h : ∀ v w', R v w' → K (a.put o.dst v) w') : o.wp P a w K Q := by
 unfold Oper.wp
 rw [run_callF a o f args ts ho hf w, Oper.upon_enter, hvs]
 refine hc.mono ?_
 rintro e w' ⟨v, rfl, hr⟩
 exact h v w' hr
theorem TabAt.look2 {w : World} {m : Nat} (h : TabAt w m) (k : Int) : ∃ v, FieldsAt w v (hasI k) ∧ ∀ wx, Below w.heap.size w wx →
  (Instr.lookup 147 (.map (some m)) (.int .i64 k) false).run Tryz.prog wx = .ok v wx ∧ (Instr.lookup 147 (.map (some m)) (.int .i64 k) true).run Tryz.prog wx = .ok (.tuple #[v, .bool (!(hasI k).isEmpty)]) wx := by
 obtain ⟨V, h1, h2⟩ := h.ex
 have h3 := fun wx (hb : Below w.heap.size w wx) => run_look wx m _ k (h1.grown (Grown.below (S := fun _ => False) hb) (fun h => h))
 simp only [find_tab] at h3
 by_cases hk : k ∈ ([1, 2, 3, 4, 5, 6, 7, 8, 9] : List Int)
 ·refine ⟨V k, h2 k hk, fun wx hb => ⟨by rw [h3 wx hb, if_pos hk]; rfl, ?_⟩⟩
  have : (hasI k).isEmpty = false := by simpa using hasI_some k hk
  rw [h3 wx hb, if_pos hk, this]; rfl
 ·refine ⟨.slice none 0 0, .inl ⟨rfl, hasI_none k hk⟩, fun wx hb => ⟨by rw [h3 wx hb, if_neg hk]; rfl, ?_⟩⟩
  rw [h3 wx hb, if_neg hk, hasI_none k hk]; rfl
theorem Tryz.elem26 : Tryz.prog.elem 26 = 88 := by kernel_rfl
theorem Tryz.sizeOf88 (w : World) : (sizeOf 88).run Tryz.prog w = .ok 37 w := by kernel_rfl
theorem sl_run23 (base : Option Addr) (n cap a : Nat) (ha : a ≤ cap) (wx : World) : (Instr.sliceAt 26 (.slice base n cap) none (some (.int .i64 (a : Int))) none).run Tryz.prog wx = .ok (.slice base a cap) wx := by
 have hu : Tryz.prog.underlying 26 = some (.slice (Tryz.prog.elem 26)) := by rw [Tryz.elem26]; exact Tryz.underlying26
 have h1 := run_slice_h (P := Tryz.prog) (w := wx) 26 base n cap hu .i64 (a : Int) (by omega) (by omega)
 have h2 := run_sliceAt_slice (P := Tryz.prog) (w := wx) 26 (.slice base n cap) none (some (.int .i64 (a : Int))) none hu
 rw [Tryz.elem26] at h1
 have h3 : sliced base 0 (a : Int).toNat cap 37 = .slice base a cap := by
  have h4 : (if cap = 0 then base else base.map (·.add (0 * 37))) = base := by
   split
   ·rfl
   ·cases base <;> rfl
  unfold sliced
  rw [h4, Int.toNat_natCast, Nat.sub_zero, Nat.sub_zero]
 rw [h2, h1]
 refine (congrArg (fun z => Result.andThen z fun s w => Result.ok (sliced base 0 (a : Int).toNat cap s) w) (Tryz.sizeOf88 wx)).trans ?_
 show Result.ok (sliced base 0 (a : Int).toNat cap 37) wx = _
 rw [h3]
theorem OpsAt.take {w : World} {a : Option Addr} {n c : Nat} {l : List OpV} (h : OpsAt w (.slice a n c) l) {t : Nat} (ht : t ≤ l.length) : t ≤ c ∧ OpsAt w (.slice a t c) (l.take t) := by
 rcases h with ⟨_, _, e, rfl⟩ | ⟨b, off, cap, e, h2, h3⟩
 ·obtain rfl : t = 0 := by simpa using ht
  exact ⟨Nat.zero_le _, .inl ⟨_, _, rfl, rfl⟩⟩
 ·injection e with e1 e2 e3
  subst e1 e3
  refine ⟨by omega, .inr ⟨b, off, c, ?_, ?_, fun i x hx => h3 i x ?_⟩⟩
  ·rw [List.length_take, Nat.min_eq_left ht]
  ·rw [List.length_take]; omega
  ·rw [List.getElem?_take] at hx; split at hx
   ·exact hx
   ·cases hx
theorem chkF_step (l : List OpV) (t : Nat) (ht : t < l.length) : chkF (l.take t) (l.drop t) = if wrongV (l.take t) (l.getD t zeroOp) = 0 then chkF (l.take (t + 1)) (l.drop (t + 1)) else (wrongV (l.take t) (l.getD t zeroOp), t) := by
 rw [List.drop_eq_getElem_cons ht, chkF, List.take_succ_eq_append_getElem ht, List.length_take, Nat.min_eq_left (by omega)]
 rw [show l.getD t zeroOp = l[t] by simp [List.getD_eq_getElem?_getD, ht]]
set_option maxRecDepth 8000 in
set_option maxHeartbeats 1000000 in
theorem check_any (v : Value) (l : List OpV) (w : World) (hl : OpsAt w v l) (hok : ∀ x ∈ l, OpOk x) (hb : l.length ≤ 4398046511104) :
  Calls Tryz.prog 42 #[v] w fun e w' => e = .returned (.tuple #[.int .i64 (chk l).1, .int .i64 ((chk l).2 : Int)]) ∧ Below w.heap.size w w' := by
 obtain ⟨va, vc, rfl⟩ := hl.form
 have HL := Keep.mk hl
 have Hok := Keep.mk hok
 have Hlb := Keep.mk hb
 have hb' : (l.length : Int) ≤ 9223372036854775807 := by omega
 obtain ⟨R, hR⟩ : ∃ R, R = chk l := ⟨_, rfl⟩
 rw [← hR]
 unfold chk at hR
 have HR := Keep.mk hR
 clear hl hok hb hR
 go_enter Tryz.func42, Tryz.ntmps42
 by_cases hM : 1024 < l.length
 ·have hM' : (1024 : Int) < (l.length : Int) := by omega
  rw [if_pos hM] at HR
  refine wp_seq_k fun K1 hK1 => rgn ?_
  refine VlS (.int .i64 0) ?_
  refine VlS (.int .i64 0) ?_
  refine WL.nil (hK1 _ _ ?_)
  refine wp_seq_k fun K2 hK2 => ?_
  refine wp_seq_k fun K3 hK3 => rgn ?_
  refine VlS (.slice va l.length vc) ?_
  refine VlS (.int .i64 (l.length : Int)) ?_
  refine VlS (.bool true) ?_
  refine WL.nil (hK3 _ _ ?_)
  refine wp_cond_true rfl ?_
  refine wp_seq_k fun K4 hK4 => rgn ?_
  refine VlS (.int .i64 3) ?_
  refine VlS (.int .i64 0) ?_
  refine WL.nil (hK4 _ _ ?_)
  refine wp_ret ?_
  go_ret2
  exact ⟨by rw [HR.out]; rfl, Below.refl _ _⟩
 ·have hM' : ¬ (1024 : Int) < (l.length : Int) := by omega
  rw [if_neg hM] at HR
  refine wp_seq_k fun K1 hK1 => rgn ?_
  refine VlS (.int .i64 0) ?_
  refine VlS (.int .i64 0) ?_
  refine WL.nil (hK1 _ _ ?_)
  refine wp_seq_k fun K2 hK2 => ?_
  refine wp_seq_k fun K3 hK3 => rgn ?_
  refine VlS (.slice va l.length vc) ?_
  refine VlS (.int .i64 (l.length : Int)) ?_
  refine VlS (.bool false) ?_
  refine WL.nil (hK3 _ _ ?_)
  refine wp_cond_false rfl ?_
  refine wp_skip ?_
  refine hK2 _ _ ?_
  refine wp_seq_k fun K4 hK4 => rgn ?_
  refine WL.callF (by kernel_rfl) 79 _ _ rfl Tryz.in79 #[] (by simp) ?_
  refine (tab_any w).mono ?_
  rintro e w1 ⟨m, rfl, hT1, hm1, hB1⟩
  refine ⟨_, rfl, ?_⟩
  have hL1 := HL.out.below hB1
  simp only [Act.put, pqA, pqB, pqC]
  refine VlS (.map (some m)) ?_
  refine WL.nil (hK4 _ _ ?_)
  refine wp_seq_k fun K5 hK5 => ?_
  refine wp_seq_k fun K6 hK6 => rgn ?_
  refine VlS (.slice va l.length vc) ?_
  refine VlS (.int .i64 (l.length : Int)) ?_
  refine VlS (.int .i64 0) ?_
  refine WL.nil (hK6 _ _ ?_)
  refine wp_block ?_
  refine wp_loop (fun a wr => ∃ (t : Nat) (u2 u3 u5 u6 u7 u15 u16 u17 u18 u19 u20 u21 u22 u23 u24 u25 u26 u27 u28 u29 u30 u31 u32 : Value), a = { tmps := #[.slice va l.length vc, undef, u2, u3, .map (some m), u5, u6, u7, .slice va l.length vc, .int .i64 (l.length : Int), .bool false, .map (some m), .slice va l.length vc, .int .i64 (l.length : Int), .int .i64 (t : Int), u15, u16, u17, u18, u19, u20, u21, u22, u23, u24, u25, u26, u27, u28, u29, u30, u31, u32], defers := [] } ∧ t ≤ l.length ∧ chkF [] l = chkF (l.take t) (l.drop t) ∧ TabAt wr m ∧ OpsAt wr (.slice va l.length vc) l ∧ Below w.heap.size w wr) (fun a _ => l.length - (intOf (a.tmps.getD 14 undef)).toNat) ⟨0, .int .i64 0, .int .i64 0, undef, undef, undef, undef, undef, undef, undef, undef, undef, undef, undef, undef, undef, undef, undef, undef, undef, undef, undef, undef, undef, rfl, by omega, rfl, hT1, hL1, hB1⟩ ?_
  rintro a wr ⟨t, u2, u3, u5, u6, u7, u15, u16, u17, u18, u19, u20, u21, u22, u23, u24, u25, u26, u27, u28, u29, u30, u31, u32, rfl, ht, hC, hT, hL, hB⟩
  by_cases htl : t < l.length
  ·have htl' : (t : Int) < (l.length : Int) := by omega
   obtain ⟨gL, ofL, hva, hr⟩ := hL.at htl
   have hst := chkF_step l t htl
   have htk := hL.take (Nat.le_of_lt htl)
   have hmem : l.getD t zeroOp ∈ l := by simp [List.getD_eq_getElem?_getD, htl]
   have Hx := Keep.mk (Hok.out _ hmem)
   generalize l.getD t zeroOp = x at *
   have hwr1 : IntKind.i64.wrap ((t : Int) + 1) = (t : Int) + 1 := by rw [IntKind.wrap_i64]; have := Hlb.out; omega
   have HLl := Keep.mk hL
   have HBl := Keep.mk hB
   have HTl := Keep.mk hT
   have Hst := Keep.mk hst
   have Htk := Keep.mk htk
   clear hL hB hT hst htk hmem
   by_cases hW : wrongV (l.take t) x = 0
   ·refine wp_seq_k fun K7 hK7 => rgn ?_
    refine VlS (.bool true) ?_
    refine WL.nil (hK7 _ _ ?_)
    refine wp_seq_k fun K8 hK8 => ?_
    refine wp_cond_true rfl ?_
    refine wp_skip ?_
    refine hK8 _ _ ?_
    refine wp_seq_k fun K9 hK9 => ?_
    refine wp_block ?_
    refine wp_seq_k fun K10 hK10 => rgn ?_
    refine VlS (.int .i64 (t : Int)) ?_
    refine VlS (.pointer (some ⟨gL, ofL + t * 37, none⟩)) ?_
    refine WL.mid (by kernel_rfl) 88 (.tmp 17) rfl gL (ofL + t * 37) rfl (opL x) _ hr Tryz.underlying88 rfl (Tryz.size88L x) ?_
    rw [rng_load]
    simp only [Act.put, pqA, pqB, pqC]
    refine WL.new (by kernel_rfl) 88 rfl _ Tryz.new88 ?_
    simp only [Act.put, pqA, pqB, pqC]
    refine VlS (.int .i64 (t : Int)) ?_
    refine WL.storeR (by kernel_rfl) 88 (.tmp 6) (.tmp 18) rfl wr.heap.size (opA x) rfl rfl 88 (opA zeroOp) (Blk.new wr 88 _) (Tryz.size88B x) (opA_sizes _ _) (opA_one x) ?_
    have HX := Keep.mk ((Blk.new wr 88 (opA zeroOp)).setRow (opA x))
    have HG : Keep (Below wr.heap.size wr ((wr.alloc (.cells (opA zeroOp) 88)).setRow wr.heap.size (opA x))) := ⟨below_setRow (below_new wr _) (Nat.le_refl _) _⟩
    generalize (wr.alloc (.cells (opA zeroOp) 88)).setRow wr.heap.size (opA x) = wq at *
    obtain ⟨vF, hvF, hlk⟩ := (HTl.out.below HG.out).look2 x.kind
    have HvF := Keep.mk hvF
    have HS0 : Keep (∀ wx, Below wq.heap.size wq wx → wx.rangeAt wr.heap.size 0 (opL x) ∧ wx.cell? ⟨wr.heap.size, 0, none⟩ = some (.int .i64 x.kind) ∧ (Instr.lookup 147 (.map (some m)) (.int .i64 x.kind) false).run Tryz.prog wx = .ok vF wx) := ⟨fun wx hb => ⟨blk_range (HX.out.below hb HX.out.lt), (HX.out.below hb HX.out.lt).c 0 (opA_0 x), (hlk wx hb).1⟩⟩
    clear hvF hlk
    simp only [Act.put]
    refine WL.nil (hK10 _ _ ?_)
    refine wp_seq_k fun K11 hK11 => ?_
    have hD0 : Below wq.heap.size wq wq.drew := (Below.refl _ _).drew
    refine wp_region_held_drew (S := fun wx => wx.rangeAt wr.heap.size 0 (opL x) ∧ wx.cell? ⟨wr.heap.size, 0, none⟩ = some (.int .i64 x.kind) ∧ (Instr.lookup 147 (.map (some m)) (.int .i64 x.kind) false).run Tryz.prog wx = .ok vF wx) (by kernel_rfl) (HS0.out _ hD0) (fun hHeld => ?_)
    refine tkS (i := 0) (oi := ⟨some 19, Op.load 88 (Operand.tmp 6), 88, _, _, none⟩) (v := .agg (opL x).toArray) rfl (yieldsIf_load_mid (by rfl) 88 (Operand.tmp 6) rfl wr.heap.size 0 rfl (opL x) _ (fun w hS => hS.1) Tryz.underlying88 rfl (Tryz.size88L x)) hHeld ?_
    refine tkS (i := 1) (oi := ⟨some 20, Op.move (Operand.tmp 4), 147, _, _, none⟩) (v := .map (some m)) rfl (Or.inl ⟨by rfl, fun w hS => by obtain ⟨hs1, hs2, hs3⟩ := hS; go_simp⟩) hHeld ?_
    refine tkS (i := 2) (oi := ⟨some 21, Op.fieldAddr 88 (Operand.tmp 6) 0, 0, _, _, none⟩) (v := .pointer (some ⟨wr.heap.size, 0, none⟩)) rfl (Or.inl ⟨by rfl, fun w hS => by obtain ⟨hs1, hs2, hs3⟩ := hS; go_simp⟩) hHeld ?_
    refine tkS (i := 3) (oi := ⟨some 22, Op.load 3 (Operand.tmp 21), 3, _, _, none⟩) (v := .int .i64 x.kind) rfl (Or.inl ⟨by rfl, fun w hS => by obtain ⟨hs1, hs2, hs3⟩ := hS; go_simp⟩) hHeld ?_
    refine tkS (i := 4) (oi := ⟨some 23, Op.lookup 147 (Operand.tmp 20) (Operand.tmp 22) false, 150, _, _, none⟩) (v := vF) rfl (Or.inl ⟨by rfl, fun w hS => by obtain ⟨hs1, hs2, hs3⟩ := hS; go_simp⟩) hHeld ?_
    refine tkS (i := 5) (oi := ⟨some 24, Op.move (Operand.tmp 0), 26, _, _, none⟩) (v := .slice va l.length vc) rfl (Or.inl ⟨by rfl, fun w hS => by obtain ⟨hs1, hs2, hs3⟩ := hS; go_simp⟩) hHeld ?_
    refine tkS (i := 6) (oi := ⟨some 25, Op.move (Operand.tmp 5), 3, _, _, none⟩) (v := .int .i64 (t : Int)) rfl (Or.inl ⟨by rfl, fun w hS => by obtain ⟨hs1, hs2, hs3⟩ := hS; go_simp⟩) hHeld ?_
    refine tkS (i := 7) (oi := ⟨some 26, Op.slice 26 (Operand.tmp 24) none (some (Operand.tmp 25)) none, 26, _, _, none⟩) (v := .slice va t vc) rfl (yieldsIf_slice (by rfl) 26 (Operand.tmp 24) (Operand.tmp 25) rfl (.slice va l.length vc) (.int .i64 (t : Int)) (.slice va t vc) rfl rfl (sl_run23 _ _ _ t Htk.out.1)) hHeld ?_
    refine wpAnyH_ready (rs := [8]) (by kernel_rfl) (by simp) ?_
    refine AllReadyH.cons (o := ⟨some 27, Op.call { callee := Callee.value (Operand.func 80), args := #[Operand.tmp 19, Operand.tmp 23, Operand.tmp 26], argTypes := #[88, 150, 26] }, 55, _, _, none⟩) rfl (fun K hK => ?_) AllReadyH.nil
    rw [if_pos (by rfl)]
    refine wp_callF 80 _ _ rfl Tryz.in80 #[.agg (opA x), vF, .slice va t vc] (by simp [Act.eval, rng_load]) (fun vz wz => vz = .int .i64 (wrongV (l.take t) x) ∧ Below wq.heap.size wq wz) ?_ ?_
    ·refine (wrong_any x vF _ (l.take t) wq.drew (HvF.out.below hD0) Hx.out (Htk.out.2.below (HG.out.trans (hD0.mono HG.out.size))) (by have := Hlb.out; rw [List.length_take]; omega)).mono ?_
     rintro e wz ⟨rfl, h⟩
     exact ⟨_, rfl, rfl, hD0.trans (h.mono hD0.size)⟩
    rintro vz w7 ⟨rfl, h7⟩
    have HB7 := Keep.mk h7
    clear h7
    refine hK.out _ _ (HS0.out _ HB7.out) fun hHeld2 => ?_
    clear hK
    simp only [Act.put, pqA, pqB, pqC]
    refine tkS (i := 9) (oi := ⟨some 7, Op.assign (Operand.tmp 27), 55, _, _, none⟩) (v := .int .i64 (wrongV (l.take t) x)) rfl (Or.inl ⟨by rfl, fun w hS => by obtain ⟨hs1, hs2, hs3⟩ := hS; go_simp⟩) hHeld2 ?_
    refine wpAnyH_done (by kernel_rfl) ?_ _
    refine hK11 _ _ ?_
    refine wp_seq_k fun K12 hK12 => rgn ?_
    refine VlS (.int .i64 (wrongV (l.take t) x)) ?_
    refine VlS (.bool false) ?_
    refine WL.nil (hK12 _ _ ?_)
    refine wp_cond_false rfl ?_
    refine wp_skip ?_
    refine hK9 _ _ ?_
    refine rgn ?_
    refine VlS (.int .i64 ((t : Int) + 1)) ?_
    refine VlS (.int .i64 ((t : Int) + 1)) ?_
    refine WL.nil ?_
    rw [if_pos hW] at Hst
    have HB8 := Keep.mk (HG.out.trans (HB7.out.mono HG.out.size))
    refine ⟨⟨t + 1, u2, u3, .int .i64 (t : Int), .pointer (some ⟨wr.heap.size, 0, none⟩), .int .i64 (wrongV (l.take t) x), .bool true, .int .i64 (t : Int), .pointer (some ⟨gL, ofL + t * 37, none⟩), .agg (opA x), .agg (opL x).toArray, .map (some m), .pointer (some ⟨wr.heap.size, 0, none⟩), .int .i64 x.kind, vF, .slice va l.length vc, .int .i64 (t : Int), .slice va t vc, .int .i64 (wrongV (l.take t) x), .int .i64 (wrongV (l.take t) x), .bool false, u30, u31, .int .i64 ((t : Int) + 1), rfl, by omega, hC.trans Hst.out, HTl.out.below HB8.out, HLl.out.below HB8.out, HBl.out.trans (HB8.out.mono HBl.out.size)⟩, ?_⟩
    simp only [intOf]; show l.length - ((t : Int) + 1).toNat < l.length - ((t : Int)).toNat; omega
   ·refine wp_seq_k fun K13 hK13 => rgn ?_
    refine VlS (.bool true) ?_
    refine WL.nil (hK13 _ _ ?_)
    refine wp_seq_k fun K14 hK14 => ?_
    refine wp_cond_true rfl ?_
    refine wp_skip ?_
    refine hK14 _ _ ?_
    refine wp_seq_k fun K15 hK15 => ?_
    refine wp_block ?_
    refine wp_seq_k fun K16 hK16 => rgn ?_
    refine VlS (.int .i64 (t : Int)) ?_
    refine VlS (.pointer (some ⟨gL, ofL + t * 37, none⟩)) ?_
    refine WL.mid (by kernel_rfl) 88 (.tmp 17) rfl gL (ofL + t * 37) rfl (opL x) _ hr Tryz.underlying88 rfl (Tryz.size88L x) ?_
    rw [rng_load]
    simp only [Act.put, pqA, pqB, pqC]
    refine WL.new (by kernel_rfl) 88 rfl _ Tryz.new88 ?_
    simp only [Act.put, pqA, pqB, pqC]
    refine VlS (.int .i64 (t : Int)) ?_
    refine WL.storeR (by kernel_rfl) 88 (.tmp 6) (.tmp 18) rfl wr.heap.size (opA x) rfl rfl 88 (opA zeroOp) (Blk.new wr 88 _) (Tryz.size88B x) (opA_sizes _ _) (opA_one x) ?_
    have HX := Keep.mk ((Blk.new wr 88 (opA zeroOp)).setRow (opA x))
    have HG : Keep (Below wr.heap.size wr ((wr.alloc (.cells (opA zeroOp) 88)).setRow wr.heap.size (opA x))) := ⟨below_setRow (below_new wr _) (Nat.le_refl _) _⟩
    generalize (wr.alloc (.cells (opA zeroOp) 88)).setRow wr.heap.size (opA x) = wq at *
    obtain ⟨vF, hvF, hlk⟩ := (HTl.out.below HG.out).look2 x.kind
    have HvF := Keep.mk hvF
    have HS0 : Keep (∀ wx, Below wq.heap.size wq wx → wx.rangeAt wr.heap.size 0 (opL x) ∧ wx.cell? ⟨wr.heap.size, 0, none⟩ = some (.int .i64 x.kind) ∧ (Instr.lookup 147 (.map (some m)) (.int .i64 x.kind) false).run Tryz.prog wx = .ok vF wx) := ⟨fun wx hb => ⟨blk_range (HX.out.below hb HX.out.lt), (HX.out.below hb HX.out.lt).c 0 (opA_0 x), (hlk wx hb).1⟩⟩
    clear hvF hlk
    simp only [Act.put]
    refine WL.nil (hK16 _ _ ?_)
    refine wp_seq_k fun K17 hK17 => ?_
    have hD0 : Below wq.heap.size wq wq.drew := (Below.refl _ _).drew
    refine wp_region_held_drew (S := fun wx => wx.rangeAt wr.heap.size 0 (opL x) ∧ wx.cell? ⟨wr.heap.size, 0, none⟩ = some (.int .i64 x.kind) ∧ (Instr.lookup 147 (.map (some m)) (.int .i64 x.kind) false).run Tryz.prog wx = .ok vF wx) (by kernel_rfl) (HS0.out _ hD0) (fun hHeld => ?_)
    refine tkS (i := 0) (oi := ⟨some 19, Op.load 88 (Operand.tmp 6), 88, _, _, none⟩) (v := .agg (opL x).toArray) rfl (yieldsIf_load_mid (by rfl) 88 (Operand.tmp 6) rfl wr.heap.size 0 rfl (opL x) _ (fun w hS => hS.1) Tryz.underlying88 rfl (Tryz.size88L x)) hHeld ?_
    refine tkS (i := 1) (oi := ⟨some 20, Op.move (Operand.tmp 4), 147, _, _, none⟩) (v := .map (some m)) rfl (Or.inl ⟨by rfl, fun w hS => by obtain ⟨hs1, hs2, hs3⟩ := hS; go_simp⟩) hHeld ?_
    refine tkS (i := 2) (oi := ⟨some 21, Op.fieldAddr 88 (Operand.tmp 6) 0, 0, _, _, none⟩) (v := .pointer (some ⟨wr.heap.size, 0, none⟩)) rfl (Or.inl ⟨by rfl, fun w hS => by obtain ⟨hs1, hs2, hs3⟩ := hS; go_simp⟩) hHeld ?_
    refine tkS (i := 3) (oi := ⟨some 22, Op.load 3 (Operand.tmp 21), 3, _, _, none⟩) (v := .int .i64 x.kind) rfl (Or.inl ⟨by rfl, fun w hS => by obtain ⟨hs1, hs2, hs3⟩ := hS; go_simp⟩) hHeld ?_
    refine tkS (i := 4) (oi := ⟨some 23, Op.lookup 147 (Operand.tmp 20) (Operand.tmp 22) false, 150, _, _, none⟩) (v := vF) rfl (Or.inl ⟨by rfl, fun w hS => by obtain ⟨hs1, hs2, hs3⟩ := hS; go_simp⟩) hHeld ?_
    refine tkS (i := 5) (oi := ⟨some 24, Op.move (Operand.tmp 0), 26, _, _, none⟩) (v := .slice va l.length vc) rfl (Or.inl ⟨by rfl, fun w hS => by obtain ⟨hs1, hs2, hs3⟩ := hS; go_simp⟩) hHeld ?_
    refine tkS (i := 6) (oi := ⟨some 25, Op.move (Operand.tmp 5), 3, _, _, none⟩) (v := .int .i64 (t : Int)) rfl (Or.inl ⟨by rfl, fun w hS => by obtain ⟨hs1, hs2, hs3⟩ := hS; go_simp⟩) hHeld ?_
    refine tkS (i := 7) (oi := ⟨some 26, Op.slice 26 (Operand.tmp 24) none (some (Operand.tmp 25)) none, 26, _, _, none⟩) (v := .slice va t vc) rfl (yieldsIf_slice (by rfl) 26 (Operand.tmp 24) (Operand.tmp 25) rfl (.slice va l.length vc) (.int .i64 (t : Int)) (.slice va t vc) rfl rfl (sl_run23 _ _ _ t Htk.out.1)) hHeld ?_
    refine wpAnyH_ready (rs := [8]) (by kernel_rfl) (by simp) ?_
    refine AllReadyH.cons (o := ⟨some 27, Op.call { callee := Callee.value (Operand.func 80), args := #[Operand.tmp 19, Operand.tmp 23, Operand.tmp 26], argTypes := #[88, 150, 26] }, 55, _, _, none⟩) rfl (fun K hK => ?_) AllReadyH.nil
    rw [if_pos (by rfl)]
    refine wp_callF 80 _ _ rfl Tryz.in80 #[.agg (opA x), vF, .slice va t vc] (by simp [Act.eval, rng_load]) (fun vz wz => vz = .int .i64 (wrongV (l.take t) x) ∧ Below wq.heap.size wq wz) ?_ ?_
    ·refine (wrong_any x vF _ (l.take t) wq.drew (HvF.out.below hD0) Hx.out (Htk.out.2.below (HG.out.trans (hD0.mono HG.out.size))) (by have := Hlb.out; rw [List.length_take]; omega)).mono ?_
     rintro e wz ⟨rfl, h⟩
     exact ⟨_, rfl, rfl, hD0.trans (h.mono hD0.size)⟩
    rintro vz w7 ⟨rfl, h7⟩
    have HB7 := Keep.mk h7
    clear h7
    refine hK.out _ _ (HS0.out _ HB7.out) fun hHeld2 => ?_
    clear hK
    simp only [Act.put, pqA, pqB, pqC]
    refine tkS (i := 9) (oi := ⟨some 7, Op.assign (Operand.tmp 27), 55, _, _, none⟩) (v := .int .i64 (wrongV (l.take t) x)) rfl (Or.inl ⟨by rfl, fun w hS => by obtain ⟨hs1, hs2, hs3⟩ := hS; go_simp⟩) hHeld2 ?_
    refine wpAnyH_done (by kernel_rfl) ?_ _
    refine hK17 _ _ ?_
    refine wp_seq_k fun K18 hK18 => rgn ?_
    refine VlS (.int .i64 (wrongV (l.take t) x)) ?_
    refine VlS (.bool true) ?_
    refine WL.nil (hK18 _ _ ?_)
    refine wp_cond_true rfl ?_
    refine wp_seq_k fun K19 hK19 => rgn ?_
    refine VlS (.int .i64 (wrongV (l.take t) x)) ?_
    refine VlS (.int .i64 (t : Int)) ?_
    refine VlS (.int .i64 (wrongV (l.take t) x)) ?_
    refine VlS (.int .i64 (t : Int)) ?_
    refine WL.nil (hK19 _ _ ?_)
    refine wp_ret ?_
    rw [if_neg hW] at Hst
    go_ret2
    exact ⟨by rw [HR.out, hC, Hst.out]; rfl, HBl.out.trans ((HG.out.trans (HB7.out.mono HG.out.size)).mono HBl.out.size)⟩
  ·obtain rfl : t = l.length := by omega
   have htl' : ¬ (l.length : Int) < (l.length : Int) := by omega
   refine wp_seq_k fun K20 hK20 => rgn ?_
   refine VlS (.bool false) ?_
   refine WL.nil (hK20 _ _ ?_)
   refine wp_seq_k fun K21 hK21 => ?_
   refine wp_cond_false rfl ?_
   refine wp_exit ?_
   refine hK5 _ _ ?_
   refine wp_seq_k fun K22 hK22 => rgn ?_
   refine VlS (.int .i64 0) ?_
   refine VlS (.int .i64 0) ?_
   refine WL.nil (hK22 _ _ ?_)
   refine wp_ret ?_
   go_ret2
   exact ⟨by rw [HR.out, hC, List.drop_length]; rfl, hB⟩

def putF (i : Nat) (x : OpV) : List Int := if i = 0 then bform (lst x.key) else if i = 1 then bform (lst x.text) else if i = 2 then numL (zig x.n) else numL x.op.toNat ++ (if x.op = 0 then [] else hl 32 (hof x.node))
theorem OutAt.below {w w' : World} {p : Nat} {v : Value} {l : List Int} (h : OutAt w p v l) (hb : Below w.heap.size w w') : OutAt w' p v l :=
 h.grown (Grown.below (S := fun _ => False) hb) fun _ _ h => h
theorem OutAt.off {w : World} {p : Nat} {v : Value} {l : List Int} (h : OutAt w p v l) {g : Nat} {T : TypeId} {cs : Array Value} (hg : Blk w g T cs) (h1 : T ≠ 144) (h2 : T ≠ 5) : ¬ OF p v g := by
 rintro (rfl | e)
 ·exact h1 (blk_type hg h.blk)
 ·exact h.own.ne hg h2 e
theorem OutAt.offT {w : World} {p : Nat} {v : Value} {l : List Int} (h : OutAt w p v l) {m : Nat} (ht : TabAt w m) : ¬ OF p v m := by
 rintro (rfl | e)
 ·exact ht.ne h.blk rfl
 ·rcases h.own.form with ⟨rfl, _⟩ | ⟨g, cap, cur, rfl, hg, _⟩
  ·simp [Value.ownBlock] at e
  ·simp [Value.ownBlock] at e
   subst e
   exact ht.ne hg rfl
theorem OutAt.tab {w w' : World} {p : Nat} {v : Value} {l : List Int} (h : OutAt w p v l) {m : Nat} (ht : TabAt w m) (hg : Grown w w' (OF p v)) : TabAt w' m :=
 ht.grown hg (h.offT ht) fun _ _ hb => h.off hb (by decide) (by decide)
theorem OutAt.keeps {w w' : World} {p : Nat} {v : Value} {l : List Int} (h : OutAt w p v l) {g : Nat} {T : TypeId} {cs : Array Value} (hb : Blk w g T cs) (h1 : T ≠ 144) (h2 : T ≠ 5) (hg : Grown w w' (OF p v)) : Blk w' g T cs := hg.blk hb (h.off hb h1 h2)
theorem OutAt.fields {w w' : World} {p : Nat} {v : Value} {l : List Int} (h : OutAt w p v l) {u : Value} {is : List Nat} (hf : FieldsAt w u is) (hg : Grown w w' (OF p v)) : FieldsAt w' u is :=
 hf.grown hg fun _ hb => h.off hb (by decide) (by decide)
theorem put0_any (p : Nat) (v : Value) (l : List Int) (x : OpV) (w : World) (h : OutAt w p v l) (hx : OpOk x) (hb : l.length + (putF 0 x).length ≤ 200000000000000) :
  Calls Tryz.prog 122 #[ptr p, .agg (opA x)] w (OutPost p v (l ++ putF 0 x) w) := by
 have e : putF 0 x = bform (lst x.key) := rfl
 rw [e] at hb ⊢
 have HO : Keep (OutAt (w.alloc (.cells (opA x) 88)) p v l) := ⟨h.box _⟩
 have HB := Keep.mk (Blk.new w 88 (opA x))
 obtain ⟨w1, hw1⟩ : ∃ w1, Keep (w.alloc (.cells (opA x) 88) = w1) := ⟨_, ⟨rfl⟩⟩
 rw [hw1.out] at HB HO
 have Hb := Keep.mk hb
 have Hx := Keep.mk hx
 have c1 := HB.out.c 1 (opA_1 x)
 clear h hb hx e
 go_enter Tryz.func122, Tryz.ntmps122
 refine wp_seq_k fun K1 hK1 => rgn ?_
 refine WL.box (by kernel_rfl) 88 (.tmp 1) rfl (opA x) rfl ?_
 rw [hw1.out]
 simp only [Act.put, pqA, pqB, pqC]
 refine WL.nil (hK1 _ _ ?_)
 refine rgn ?_
 refine VlS (.pointer (some ⟨p, 0, none⟩)) ?_
 refine VlS (.pointer (some ⟨w.heap.size, 1, none⟩)) ?_
 refine VlS (.string x.key) ?_
 refine WL.callF (by kernel_rfl) 123 _ _ rfl Tryz.in123 #[ptr p, .string x.key] (by simp [Act.eval]) ?_
 refine (otext_any p v l x.key w1 HO.out Hb.out Hx.out.key).mono ?_
 rintro e w2 hp
 obtain ⟨rfl, hq⟩ := hp
 refine ⟨_, rfl, ?_⟩
 have HP := Keep.mk hq
 clear hq
 simp only [Act.put, pqA, pqB, pqC]
 refine WL.nil ?_
 go_end0
 exact OutPost.box (o := .cells (opA x) 88) (by rw [hw1.out]; exact ⟨rfl, HP.out⟩)
theorem put1_any (p : Nat) (v : Value) (l : List Int) (x : OpV) (w : World) (h : OutAt w p v l) (hx : OpOk x) (hb : l.length + (putF 1 x).length ≤ 200000000000000) :
  Calls Tryz.prog 127 #[ptr p, .agg (opA x)] w (OutPost p v (l ++ putF 1 x) w) := by
 have e : putF 1 x = bform (lst x.text) := rfl
 rw [e] at hb ⊢
 have HO : Keep (OutAt (w.alloc (.cells (opA x) 88)) p v l) := ⟨h.box _⟩
 have HB := Keep.mk (Blk.new w 88 (opA x))
 obtain ⟨w1, hw1⟩ : ∃ w1, Keep (w.alloc (.cells (opA x) 88) = w1) := ⟨_, ⟨rfl⟩⟩
 rw [hw1.out] at HB HO
 have Hb := Keep.mk hb
 have Hx := Keep.mk hx
 have c1 := HB.out.c 2 (opA_2 x)
 clear h hb hx e
 go_enter Tryz.func127, Tryz.ntmps127
 refine wp_seq_k fun K1 hK1 => rgn ?_
 refine WL.box (by kernel_rfl) 88 (.tmp 1) rfl (opA x) rfl ?_
 rw [hw1.out]
 simp only [Act.put, pqA, pqB, pqC]
 refine WL.nil (hK1 _ _ ?_)
 refine rgn ?_
 refine VlS (.pointer (some ⟨p, 0, none⟩)) ?_
 refine VlS (.pointer (some ⟨w.heap.size, 2, none⟩)) ?_
 refine VlS (.string x.text) ?_
 refine WL.callF (by kernel_rfl) 123 _ _ rfl Tryz.in123 #[ptr p, .string x.text] (by simp [Act.eval]) ?_
 refine (otext_any p v l x.text w1 HO.out Hb.out Hx.out.text).mono ?_
 rintro e w2 hp
 obtain ⟨rfl, hq⟩ := hp
 refine ⟨_, rfl, ?_⟩
 have HP := Keep.mk hq
 clear hq
 simp only [Act.put, pqA, pqB, pqC]
 refine WL.nil ?_
 go_end0
 exact OutPost.box (o := .cells (opA x) 88) (by rw [hw1.out]; exact ⟨rfl, HP.out⟩)
theorem put2_any (p : Nat) (v : Value) (l : List Int) (x : OpV) (w : World) (h : OutAt w p v l) (hx : OpOk x) (hb : l.length + (putF 2 x).length ≤ 200000000000000) :
  Calls Tryz.prog 130 #[ptr p, .agg (opA x)] w (OutPost p v (l ++ putF 2 x) w) := by
 have e : putF 2 x = numL (zig x.n) := rfl
 rw [e] at hb ⊢
 have HO : Keep (OutAt (w.alloc (.cells (opA x) 88)) p v l) := ⟨h.box _⟩
 have HB := Keep.mk (Blk.new w 88 (opA x))
 obtain ⟨w1, hw1⟩ : ∃ w1, Keep (w.alloc (.cells (opA x) 88) = w1) := ⟨_, ⟨rfl⟩⟩
 rw [hw1.out] at HB HO
 have Hb := Keep.mk hb
 have Hx := Keep.mk hx
 have c1 := HB.out.c 3 (opA_3 x)
 clear h hb hx e
 go_enter Tryz.func130, Tryz.ntmps130
 refine wp_seq_k fun K1 hK1 => rgn ?_
 refine WL.box (by kernel_rfl) 88 (.tmp 1) rfl (opA x) rfl ?_
 rw [hw1.out]
 simp only [Act.put, pqA, pqB, pqC]
 refine WL.nil (hK1 _ _ ?_)
 refine rgn ?_
 refine VlS (.pointer (some ⟨p, 0, none⟩)) ?_
 refine VlS (.pointer (some ⟨w.heap.size, 3, none⟩)) ?_
 refine VlS (.int .i64 x.n) ?_
 refine WL.callF (by kernel_rfl) 131 _ _ rfl Tryz.in131 #[ptr p, .int .i64 x.n] (by simp [Act.eval]) ?_
 refine (osigned_any p v l x.n w1 HO.out Hx.out.n1 Hx.out.n2 (by have := Hb.out; rw [List.length_append]; exact this)).mono ?_
 rintro e w2 hp
 obtain ⟨rfl, hq⟩ := hp
 refine ⟨_, rfl, ?_⟩
 have HP := Keep.mk hq
 clear hq
 simp only [Act.put, pqA, pqB, pqC]
 refine WL.nil ?_
 go_end0
 exact OutPost.box (o := .cells (opA x) 88) (by rw [hw1.out]; exact ⟨rfl, HP.out⟩)
theorem put3_any (p : Nat) (v : Value) (l : List Int) (x : OpV) (w : World) (h : OutAt w p v l) (hx : OpOk x) (ho1 : 0 ≤ x.op) (ho2 : x.op ≤ 1024) (hb : l.length + (putF 3 x).length ≤ 200000000000000) :
  Calls Tryz.prog 135 #[ptr p, .agg (opA x)] w (OutPost p v (l ++ putF 3 x) w) := by
 obtain ⟨n, hn⟩ : ∃ n : Nat, x.op = (n : Int) := ⟨x.op.toNat, by omega⟩
 have e : putF 3 x = numL n ++ (if x.op = 0 then [] else hl 32 (hof x.node)) := by
  show numL x.op.toNat ++ _ = _
  rw [hn, Int.toNat_natCast]
 rw [e] at hb ⊢
 have HO : Keep (OutAt (w.alloc (.cells (opA x) 88)) p v l) := ⟨h.box _⟩
 have HB := Keep.mk (Blk.new w 88 (opA x))
 obtain ⟨w1, hw1⟩ : ∃ w1, Keep (w.alloc (.cells (opA x) 88) = w1) := ⟨_, ⟨rfl⟩⟩
 rw [hw1.out] at HB HO
 have Hb := Keep.mk hb
 have Hx := Keep.mk hx
 have c36 := HB.out.c 36 (opA_36 x)
 have Hn : Keep (n ≤ 1024) := ⟨by omega⟩
 have hwn : IntKind.u64.wrap x.op = (n : Int) := by rw [hn, IntKind.wrap_u64]; have := Hn.out; omega
 rw [List.length_append] at Hb
 clear h hb hx e
 go_enter Tryz.func135, Tryz.ntmps135
 by_cases h0 : x.op = 0
 ·rw [if_pos h0] at Hb ⊢
  rw [h0] at hwn
  clear hn
  refine wp_seq_k fun K1 hK1 => rgn ?_
  refine WL.box (by kernel_rfl) 88 (.tmp 1) rfl (opA x) rfl ?_
  rw [hw1.out]
  simp only [Act.put, pqA, pqB, pqC]
  refine WL.nil (hK1 _ _ ?_)
  refine wp_seq_k fun K2 hK2 => rgn ?_
  refine VlS (.pointer (some ⟨p, 0, none⟩)) ?_
  refine VlS (.pointer (some ⟨w.heap.size, 4, none⟩)) ?_
  refine VlS (.pointer (some ⟨w.heap.size, 36, none⟩)) ?_
  refine VlS (.int .i64 x.op) ?_
  refine VlS (.int .u64 (n : Int)) ?_
  refine WL.callF (by kernel_rfl) 74 _ _ rfl Tryz.in74 #[ptr p, .int .u64 (n : Int)] (by simp [Act.eval]) ?_
  refine (onum_any p v l n w1 HO.out (by have := Hn.out; omega) (by have := Hb.out; rw [List.length_append]; omega)).mono ?_
  rintro e w2 hp
  obtain ⟨rfl, v2, hO2, hm2, hg2⟩ := hp
  refine ⟨_, rfl, ?_⟩
  have HO2 := Keep.mk hO2
  have HM2 := Keep.mk hm2
  have HG2 := Keep.mk hg2
  have HB2 := Keep.mk (HO.out.keeps HB.out (by decide) (by decide) hg2)
  have d36 := HB2.out.c 36 (opA_36 x)
  clear hO2 hm2 hg2
  simp only [Act.put, pqA, pqB, pqC]
  refine WL.nil (hK2 _ _ ?_)
  refine wp_seq_k fun K3 hK3 => rgn ?_
  refine VlS (.pointer (some ⟨w.heap.size, 4, none⟩)) ?_
  refine VlS (.pointer (some ⟨w.heap.size, 36, none⟩)) ?_
  refine VlS (.int .i64 x.op) ?_
  refine VlS (.bool false) ?_
  refine WL.nil (hK3 _ _ ?_)
  refine wp_cond_false rfl ?_
  refine wp_skip ?_
  go_end0
  exact OutPost.box (o := .cells (opA x) 88) (by rw [hw1.out, List.append_nil]; exact ⟨rfl, v2, HO2.out, HM2.out, HG2.out⟩)
 ·rw [if_neg h0, hl_len] at Hb
  rw [if_neg h0]
  clear hn
  refine wp_seq_k fun K1 hK1 => rgn ?_
  refine WL.box (by kernel_rfl) 88 (.tmp 1) rfl (opA x) rfl ?_
  rw [hw1.out]
  simp only [Act.put, pqA, pqB, pqC]
  refine WL.nil (hK1 _ _ ?_)
  refine wp_seq_k fun K2 hK2 => rgn ?_
  refine VlS (.pointer (some ⟨p, 0, none⟩)) ?_
  refine VlS (.pointer (some ⟨w.heap.size, 4, none⟩)) ?_
  refine VlS (.pointer (some ⟨w.heap.size, 36, none⟩)) ?_
  refine VlS (.int .i64 x.op) ?_
  refine VlS (.int .u64 (n : Int)) ?_
  refine WL.callF (by kernel_rfl) 74 _ _ rfl Tryz.in74 #[ptr p, .int .u64 (n : Int)] (by simp [Act.eval]) ?_
  refine (onum_any p v l n w1 HO.out (by have := Hn.out; omega) (by have := Hb.out; rw [List.length_append]; omega)).mono ?_
  rintro e w2 hp
  obtain ⟨rfl, v2, hO2, hm2, hg2⟩ := hp
  refine ⟨_, rfl, ?_⟩
  have HO2 := Keep.mk hO2
  have HM2 := Keep.mk hm2
  have HG2 := Keep.mk hg2
  have HB2 := Keep.mk (HO.out.keeps HB.out (by decide) (by decide) hg2)
  have d36 := HB2.out.c 36 (opA_36 x)
  clear hO2 hm2 hg2
  simp only [Act.put, pqA, pqB, pqC]
  refine WL.nil (hK2 _ _ ?_)
  refine wp_seq_k fun K3 hK3 => rgn ?_
  refine VlS (.pointer (some ⟨w.heap.size, 4, none⟩)) ?_
  refine VlS (.pointer (some ⟨w.heap.size, 36, none⟩)) ?_
  refine VlS (.int .i64 x.op) ?_
  refine VlS (.bool true) ?_
  refine WL.nil (hK3 _ _ ?_)
  refine wp_cond_true rfl ?_
  refine rgn ?_
  refine VlS (.pointer (some ⟨p, 0, none⟩)) ?_
  refine VlS (.pointer (some ⟨w.heap.size, 4, none⟩)) ?_
  refine VlS (.pointer (some ⟨w.heap.size, 4, none⟩)) ?_
  refine WL.midA (by kernel_rfl) 41 (.tmp 16) rfl w.heap.size 4 rfl (bytesA 32 (hof x.node)) _ (opA_nodes HB2.out) Tryz.underlying41 rfl (Tryz.size41B _) ?_
  simp only [Act.put, pqA, pqB, pqC]
  refine WL.callF (by kernel_rfl) 75 _ _ rfl Tryz.in75 #[ptr p, .agg (bytesA 32 (hof x.node))] (by simp [Act.eval]) ?_
  refine (ohash_any p v2 (l ++ numL n) (hof x.node) w2 HO2.out (by have := Hb.out; rw [List.length_append]; omega)).mono ?_
  rintro e w3 hp
  obtain ⟨rfl, hq⟩ := hp
  refine ⟨_, rfl, ?_⟩
  have HP := Keep.mk hq
  clear hq
  simp only [Act.put, pqA, pqB, pqC]
  refine WL.nil ?_
  go_end0
  exact OutPost.box (o := .cells (opA x) 88) (by rw [hw1.out, ← List.append_assoc]; exact OutPost.trans HM2.out HG2.out ⟨rfl, HP.out⟩)

def oneF (x : OpV) : List Int := x.kind :: (hasI x.kind).flatMap fun i => putF i x
def formL (l : List OpV) : List Int := numL l.length ++ l.flatMap oneF
theorem fm_next {α β : Type} (f : α → List β) (l : List α) (t : Nat) (ht : t < l.length) (d : α) : (l.take (t + 1)).flatMap f = (l.take t).flatMap f ++ f (l.getD t d) := by
 rw [List.take_succ_eq_append_getElem ht, List.flatMap_append]
 simp [List.getD_eq_getElem?_getD, ht]
theorem fm_len {α β : Type} (f : α → List β) (l : List α) (t : Nat) : ((l.take t).flatMap f).length ≤ (l.flatMap f).length := by
 conv => rhs; rw [← List.take_append_drop t l, List.flatMap_append, List.length_append]
 omega
theorem chkF_ok : ∀ (r a : List OpV), (chkF a r).1 = 0 → ∀ i x, r[i]? = some x → wrongV (a ++ r.take i) x = 0
 | [], _, _, i, x, hx => by simp at hx
 | y :: r, a, h, i, x, hx => by
  rw [chkF] at h
  by_cases hw : wrongV a y = 0
  ·rw [if_pos hw] at h
   cases i with
   | zero => simp at hx; subst hx; simpa using hw
   | succ i =>
    have := chkF_ok r (a ++ [y]) h i x (by simpa using hx)
    simpa [List.append_assoc] using this
  ·rw [if_neg hw] at h
   exact absurd h hw
theorem chk_ok {l : List OpV} (h : (chk l).1 = 0) : l.length ≤ 1024 ∧ ∀ i x, l[i]? = some x → wrongV (l.take i) x = 0 := by
 unfold chk at h
 by_cases hl : 1024 < l.length
 ·rw [if_pos hl] at h; simp at h
 ·rw [if_neg hl] at h
  exact ⟨by omega, fun i x hx => by simpa using chkF_ok l [] h i x hx⟩
theorem wrongV_ok {a : List OpV} {x : OpV} (h : wrongV a x = 0) : hasI x.kind ≠ [] ∧ x.key.size ≤ 65536 ∧ x.text.size ≤ 65536 ∧ sm (wipes (hasI x.kind) { x with kind := 0 }) zeroOp = true ∧ (cellV x.kind = 4 → mayAt a x = true) := by
 unfold wrongV at h
 by_cases h1 : hasI x.kind = []
 ·rw [if_pos h1] at h; simp at h
 rw [if_neg h1] at h
 by_cases h2 : 65536 < x.key.size
 ·rw [if_pos h2] at h; simp at h
 rw [if_neg h2] at h
 by_cases h3 : 65536 < x.text.size
 ·rw [if_pos h3] at h; simp at h
 rw [if_neg h3] at h
 cases h4 : sm (wipes (hasI x.kind) { x with kind := 0 }) zeroOp with
 | false => rw [if_pos h4] at h; simp at h
 | true =>
  rw [if_neg (by rw [h4]; decide)] at h
  refine ⟨h1, by omega, by omega, rfl, fun h5 => ?_⟩
  rw [if_pos h5] at h
  cases h6 : mayAt a x with
  | true => rfl
  | false => rw [h6] at h; simp at h
theorem mayAt_op {a : List OpV} {x : OpV} (ha : a.length ≤ 1024) (h : mayAt a x = true) : 0 ≤ x.op ∧ x.op ≤ 1024 := by
 unfold mayAt at h
 by_cases h1 : (nd x.node z32 && x.op == 0) = true
 ·simp at h1; omega
 rw [if_neg h1] at h
 by_cases h2 : nd x.node z32 = false
 ·rw [if_pos h2] at h; simp at h; omega
 rw [if_neg h2] at h
 by_cases h3 : x.op < 1 ∨ (a.length : Int) < x.op
 ·rw [if_pos h3] at h; simp at h
 ·omega
theorem hasI_mem {k : Int} (h : hasI k ≠ []) : k ∈ ([1, 2, 3, 4, 5, 6, 7, 8, 9] : List Int) := by
 by_cases hk : k ∈ ([1, 2, 3, 4, 5, 6, 7, 8, 9] : List Int)
 ·exact hk
 ·exact absurd (hasI_none k hk) h
theorem hasI_rng {k : Int} (h : hasI k ≠ []) : 1 ≤ k ∧ k ≤ 9 := by
 have := hasI_mem h
 simp only [List.mem_cons, List.not_mem_nil, or_false] at this
 omega
theorem hasI_three {k : Int} (h : 3 ∈ hasI k) : cellV k = 4 := by
 have h1 : hasI k ≠ [] := fun e => by rw [e] at h; simp at h
 have := hasI_mem h1
 simp only [List.mem_cons, List.not_mem_nil, or_false] at this
 rcases this with rfl | rfl | rfl | rfl | rfl | rfl | rfl | rfl | rfl <;> first | (exact absurd h (by decide)) | rfl
theorem Moved.mono {a b : World} {v v' : Value} (h : Moved b v v') (hs : a.heap.size ≤ b.heap.size) : Moved a v v' := (Moved.refl a v).trans hs h
set_option maxRecDepth 8000 in
set_option maxHeartbeats 2000000 in
theorem put_anyE (p : Nat) (v : Value) (L0 : List Int) (vl : Value) (l : List OpV) (w : World) (h : OutAt w p v L0) (hl : OpsAt w vl l) (hok : ∀ x ∈ l, OpOk x) (hb : l.length ≤ 4398046511104)
  (hsep : l ≠ [] → ∀ k, vl.ownBlock = some k → ¬ OF p v k) (hbb : (chk l).1 = 0 → L0.length + (formL l).length ≤ 200000000000000) :
  Calls Tryz.prog 76 #[ptr p, vl] w fun e w' => e = .returned (.int .i64 (chk l).1) ∧ ∃ v', OutAt w' p v' (if (chk l).1 = 0 then L0 ++ formL l else L0) ∧ Moved w v v' ∧ Grown w w' (OF p v) := by
 obtain ⟨va, vc, rfl⟩ := hl.form
 have HO := Keep.mk h
 have HL := Keep.mk hl
 have Hok := Keep.mk hok
 have Hlb := Keep.mk hb
 have Hsep := Keep.mk hsep
 have hb' : (l.length : Int) ≤ 9223372036854775807 := by omega
 have hwl : IntKind.u64.wrap (l.length : Int) = (l.length : Int) := by rw [IntKind.wrap_u64]; omega
 go_enter Tryz.func76, Tryz.ntmps76
 by_cases hC : (chk l).1 = 0
 ·have Hbb := Keep.mk (hbb hC)
  have Hok2 := Keep.mk (chk_ok hC)
  have HC0 := Keep.mk hC
  clear h hl hok hb hsep hbb
  refine wp_seq_k fun K1 hK1 => rgn ?_
  refine VlS (.int .i64 0) ?_
  refine WL.nil (hK1 _ _ ?_)
  refine wp_seq_k fun K2 hK2 => ?_
  refine wp_seq_k fun K3 hK3 => rgn ?_
  refine VlS (.slice va l.length vc) ?_
  refine WL.callF (by kernel_rfl) 42 _ _ rfl Tryz.in42 #[.slice va l.length vc] (by simp [Act.eval]) ?_
  refine (check_any _ l w HL.out Hok.out Hlb.out).mono ?_
  rintro e w1 ⟨rfl, h1⟩
  refine ⟨_, rfl, ?_⟩
  have HB1 := Keep.mk h1
  clear h1
  simp only [Act.put, pqA, pqB, pqC]
  refine VlS (.tuple #[.int .i64 (chk l).1, .int .i64 ((chk l).2 : Int)]) ?_
  refine VlS (.int .i64 (chk l).1) ?_
  refine VlS (.int .i64 ((chk l).2 : Int)) ?_
  refine VlS (.int .i64 (chk l).1) ?_
  refine VlS (.int .i64 ((chk l).2 : Int)) ?_
  refine WL.nil (hK3 _ _ ?_)
  refine wp_seq_k fun K4 hK4 => rgn ?_
  refine VlS (.int .i64 (chk l).1) ?_
  refine VlS (.bool false) ?_
  refine WL.nil (hK4 _ _ ?_)
  refine wp_cond_false rfl ?_
  refine wp_skip ?_
  refine hK2 _ _ ?_
  refine wp_seq_k fun K5 hK5 => rgn ?_
  refine WL.callF (by kernel_rfl) 79 _ _ rfl Tryz.in79 #[] (by simp) ?_
  refine (tab_any w1).mono ?_
  rintro e w2 ⟨m, rfl, hT2, hm2, hB2⟩
  refine ⟨_, rfl, ?_⟩
  have HB2 := Keep.mk (HB1.out.trans (hB2.mono HB1.out.size))
  have HT2 := Keep.mk hT2
  have HO2 := Keep.mk (HO.out.below HB2.out)
  clear hT2 hm2 hB2
  simp only [Act.put, pqA, pqB, pqC]
  refine VlS (.map (some m)) ?_
  refine WL.nil (hK5 _ _ ?_)
  refine wp_seq_k fun K6 hK6 => rgn ?_
  refine VlS (.pointer (some ⟨p, 0, none⟩)) ?_
  refine VlS (.slice va l.length vc) ?_
  refine VlS (.int .i64 (l.length : Int)) ?_
  refine VlS (.int .u64 (l.length : Int)) ?_
  refine WL.callF (by kernel_rfl) 74 _ _ rfl Tryz.in74 #[ptr p, .int .u64 (l.length : Int)] (by simp [Act.eval]) ?_
  refine (onum_any p v L0 l.length w2 HO2.out (by have := Hlb.out; omega) (by have := Hbb.out; unfold formL at this; rw [List.length_append] at this ⊢; omega)).mono ?_
  rintro e w4 hp
  obtain ⟨rfl, v4, hO4, hM4, hG4⟩ := hp
  refine ⟨_, rfl, ?_⟩
  have H4O := Keep.mk hO4
  have H4M : Keep (Moved w v v4) := ⟨hM4.mono HB2.out.size⟩
  have H4G : Keep (Grown w w4 (OF p v)) := ⟨(Grown.below HB2.out).trans hG4⟩
  have H4T := Keep.mk (HO2.out.tab HT2.out hG4)
  clear hO4 hM4 hG4
  simp only [Act.put, pqA, pqB, pqC]
  refine WL.nil (hK6 _ _ ?_)
  refine wp_seq_k fun K7 hK7 => ?_
  refine wp_seq_k fun K8 hK8 => rgn ?_
  refine VlS (.slice va l.length vc) ?_
  refine VlS (.int .i64 (l.length : Int)) ?_
  refine VlS (.int .i64 0) ?_
  refine WL.nil (hK8 _ _ ?_)
  refine wp_block ?_
  refine wp_loop (fun a wr => ∃ (t : Nat) (u9 u11 u29 u30 u31 u32 u33 u34 u35 u36 u37 u38 u39 u40 u41 u42 u43 u44 u45 u46 u47 u48 u49 u50 u51 u52 : Value), a = { tmps := #[.pointer (some ⟨p, 0, none⟩), .slice va l.length vc, undef, undef, .int .i64 0, .int .i64 (chk l).1, .int .i64 ((chk l).2 : Int), .map (some m), undef, u9, undef, u11, .tuple #[.int .i64 (chk l).1, .int .i64 ((chk l).2 : Int)], .slice va l.length vc, .tuple #[.int .i64 (chk l).1, .int .i64 ((chk l).2 : Int)], .int .i64 (chk l).1, .int .i64 ((chk l).2 : Int), .int .i64 (chk l).1, .bool false, undef, .map (some m), .pointer (some ⟨p, 0, none⟩), .slice va l.length vc, .int .i64 (l.length : Int), .int .u64 (l.length : Int), .tuple #[], .slice va l.length vc, .int .i64 (l.length : Int), .int .i64 (t : Int), u29, u30, u31, u32, u33, u34, u35, u36, u37, u38, u39, u40, u41, u42, u43, u44, u45, u46, u47, u48, u49, u50, u51, u52], defers := [] } ∧ t ≤ l.length ∧ ∃ vo, OutAt wr p vo (L0 ++ numL l.length ++ (l.take t).flatMap oneF) ∧ Moved w v vo ∧ Grown w wr (OF p v) ∧ TabAt wr m) (fun a _ => l.length - (intOf (a.tmps.getD 28 undef)).toNat) ⟨0, undef, undef, undef, undef, undef, undef, undef, undef, undef, undef, undef, undef, undef, undef, undef, undef, undef, undef, undef, undef, undef, undef, undef, undef, undef, undef, rfl, by omega, v4, by rw [List.take_zero, List.flatMap_nil, List.append_nil]; exact H4O.out, H4M.out, H4G.out, H4T.out⟩ ?_
  rintro a wr ⟨t, u9, u11, u29, u30, u31, u32, u33, u34, u35, u36, u37, u38, u39, u40, u41, u42, u43, u44, u45, u46, u47, u48, u49, u50, u51, u52, rfl, ht, vo, hO, hM, hG, hT⟩
  by_cases htl : t < l.length
  ·have htl' : (t : Int) < (l.length : Int) := by omega
   have hLr := HL.out.grown hG (fun b hb _ => Hsep.out (fun e => by rw [e] at htl; exact absurd htl (by simp)) b hb)
   obtain ⟨gL, ofL, hva, hr⟩ := hLr.at htl
   have hgx : l[t]? = some (l.getD t zeroOp) := by simp [List.getD_eq_getElem?_getD, htl]
   have hwx := wrongV_ok (Hok2.out.2 t _ hgx)
   have hmem : l.getD t zeroOp ∈ l := List.mem_of_getElem? hgx
   have Hx := Keep.mk (Hok.out _ hmem)
   have hnx := fm_next oneF l t htl zeroOp
   have hln := fm_len oneF l (t + 1)
   generalize l.getD t zeroOp = x at *
   have hkr := hasI_rng hwx.1
   have hwk : IntKind.u8.wrap x.kind = x.kind := by rw [IntKind.wrap_u8]; omega
   have H3 : Keep (3 ∈ hasI x.kind → 0 ≤ x.op ∧ x.op ≤ 1024) := ⟨fun h3 => mayAt_op (by rw [List.length_take]; have := Hok2.out.1; omega) (hwx.2.2.2.2 (hasI_three h3))⟩
   have Hi4 := Keep.mk (hasI_lt x.kind)
   have Hn3 := Keep.mk (hasI_len x.kind)
   obtain ⟨is, his⟩ : ∃ is, is = hasI x.kind := ⟨_, rfl⟩
   obtain ⟨L1, hL1⟩ : ∃ L1, L1 = L0 ++ numL l.length ++ (l.take t).flatMap oneF ++ [x.kind] := ⟨_, rfl⟩
   have hone : oneF x = x.kind :: is.flatMap fun i => putF i x := by rw [his]; rfl
   have hfull : L1 ++ (is.flatMap fun i => putF i x) = L0 ++ numL l.length ++ (l.take (t + 1)).flatMap oneF := by rw [hnx, hone, hL1]; simp
   have Hbd : Keep ((L1 ++ is.flatMap fun i => putF i x).length ≤ 200000000000000) := ⟨by
    rw [hfull, List.length_append, List.length_append]
    have := Hbb.out
    unfold formL at this
    rw [List.length_append] at this
    omega⟩
   have Hb1 : Keep ((L0 ++ numL l.length ++ (l.take t).flatMap oneF ++ [x.kind]).length ≤ 200000000000000) := ⟨by rw [← hL1]; have := Hbd.out; rw [List.length_append] at this; omega⟩
   have hwr1 : IntKind.i64.wrap ((t : Int) + 1) = (t : Int) + 1 := by rw [IntKind.wrap_i64]; have := Hlb.out; omega
   rw [← his] at H3 Hi4 Hn3
   have hkx1 := hkr.1
   have hkx2 := hkr.2
   have JO := Keep.mk hO
   have JM := Keep.mk hM
   have JG := Keep.mk hG
   have JT := Keep.mk hT
   have Jfull := Keep.mk hfull
   have Jis := Keep.mk his
   have JL1 := Keep.mk hL1
   clear hO hM hG hT hLr hnx hln hone hfull hwx hkr his hL1 hmem hgx
   refine wp_seq_k fun K9 hK9 => rgn ?_
   refine VlS (.bool true) ?_
   refine WL.nil (hK9 _ _ ?_)
   refine wp_seq_k fun K10 hK10 => ?_
   refine wp_cond_true rfl ?_
   refine wp_skip ?_
   refine hK10 _ _ ?_
   refine wp_seq_k fun K11 hK11 => ?_
   refine wp_block ?_
   refine wp_seq_k fun K12 hK12 => rgn ?_
   refine VlS (.pointer (some ⟨gL, ofL + t * 37, none⟩)) ?_
   refine WL.mid (by kernel_rfl) 88 (.tmp 30) rfl gL (ofL + t * 37) rfl (opL x) _ hr Tryz.underlying88 rfl (Tryz.size88L x) ?_
   rw [rng_load]
   simp only [Act.put, pqA, pqB, pqC]
   refine WL.new (by kernel_rfl) 88 rfl _ Tryz.new88 ?_
   simp only [Act.put, pqA, pqB, pqC]
   refine WL.storeR (by kernel_rfl) 88 (.tmp 9) (.tmp 31) rfl wr.heap.size (opA x) rfl rfl 88 (opA zeroOp) (Blk.new wr 88 _) (Tryz.size88B x) (opA_sizes _ _) (opA_one x) ?_
   have HX := Keep.mk ((Blk.new wr 88 (opA zeroOp)).setRow (opA x))
   have HGr : Keep (Below wr.heap.size wr ((wr.alloc (.cells (opA zeroOp) 88)).setRow wr.heap.size (opA x))) := ⟨below_setRow (below_new wr _) (Nat.le_refl _) _⟩
   generalize (wr.alloc (.cells (opA zeroOp) 88)).setRow wr.heap.size (opA x) = wq at *
   obtain ⟨gx, hgx⟩ : ∃ gx, Keep (gx = wr.heap.size) := ⟨_, ⟨rfl⟩⟩
   rw [← hgx.out] at HX ⊢
   have k0 := HX.out.c 0 (opA_0 x)
   have HOq := Keep.mk (JO.out.below HGr.out)
   have HTq := Keep.mk (JT.out.below HGr.out)
   simp only [Act.put]
   refine WL.nil (hK12 _ _ ?_)
   refine wp_seq_k fun K13 hK13 => rgn ?_
   refine VlS (.pointer (some ⟨p, 0, none⟩)) ?_
   refine VlS (.pointer (some ⟨gx, 0, none⟩)) ?_
   refine VlS (.int .i64 x.kind) ?_
   refine VlS (.int .u8 x.kind) ?_
   refine WL.callF (by kernel_rfl) 73 _ _ rfl Tryz.in73 #[ptr p, .int .u8 x.kind] (by simp [Act.eval]) ?_
   refine (obyte_any p vo _ x.kind wq HOq.out Hb1.out).mono ?_
   rintro e w6 hp
   obtain ⟨rfl, vo6, hO6, hM6, hG6⟩ := hp
   refine ⟨_, rfl, ?_⟩
   rw [← JL1.out] at hO6
   have HGs : Keep (Grown wr w6 (OF p vo)) := ⟨(Grown.below HGr.out).trans hG6⟩
   have H6O := Keep.mk hO6
   have H6M : Keep (Moved w v vo6) := ⟨JM.out.trans JG.out.size (hM6.mono HGr.out.size)⟩
   have H6G : Keep (Grown w w6 (OF p v)) := ⟨JG.out.next HGs.out fun k hk ho => by
    rcases ho with rfl | ho
    ·exact .inl rfl
    ·exact .inr (JM.out.old hk ho)⟩
   have H6T := Keep.mk (JO.out.tab JT.out HGs.out)
   have H6X := Keep.mk (HOq.out.keeps HX.out (by decide) (by decide) hG6)
   obtain ⟨vF, hvF, hlk⟩ := H6T.out.look2 x.kind
   rw [← Jis.out] at hvF
   obtain ⟨fa, fc, rfl⟩ := hvF.form
   have H6F := Keep.mk hvF
   have hlk1 := (hlk w6 (Below.refl _ _)).1
   have k6 := H6X.out.c 0 (opA_0 x)
   clear hO6 hM6 hG6 hvF hlk k0
   simp only [Act.put, pqA, pqB, pqC]
   refine WL.nil (hK13 _ _ ?_)
   refine wp_seq_k fun K14 hK14 => rgn ?_
   refine VlS (.map (some m)) ?_
   refine VlS (.pointer (some ⟨gx, 0, none⟩)) ?_
   refine VlS (.int .i64 x.kind) ?_
   refine VlS (.slice fa is.length fc) ?_
   refine VlS (.int .i64 (is.length : Int)) ?_
   refine VlS (.int .i64 0) ?_
   refine WL.nil (hK14 _ _ ?_)
   refine wp_block ?_
   refine wp_loop (fun a ws => ∃ (t2 : Nat) (u11 u43 u44 u45 u46 u47 u48 u49 u50 u51 : Value), a = { tmps := #[.pointer (some ⟨p, 0, none⟩), .slice va l.length vc, undef, undef, .int .i64 0, .int .i64 (chk l).1, .int .i64 ((chk l).2 : Int), .map (some m), undef, .pointer (some ⟨gx, 0, none⟩), undef, u11, .tuple #[.int .i64 (chk l).1, .int .i64 ((chk l).2 : Int)], .slice va l.length vc, .tuple #[.int .i64 (chk l).1, .int .i64 ((chk l).2 : Int)], .int .i64 (chk l).1, .int .i64 ((chk l).2 : Int), .int .i64 (chk l).1, .bool false, undef, .map (some m), .pointer (some ⟨p, 0, none⟩), .slice va l.length vc, .int .i64 (l.length : Int), .int .u64 (l.length : Int), .tuple #[], .slice va l.length vc, .int .i64 (l.length : Int), .int .i64 (t : Int), .bool true, .pointer (some ⟨gL, ofL + t * 37, none⟩), .agg (opA x), .pointer (some ⟨p, 0, none⟩), .pointer (some ⟨gx, 0, none⟩), .int .i64 x.kind, .int .u8 x.kind, .tuple #[], .map (some m), .pointer (some ⟨gx, 0, none⟩), .int .i64 x.kind, .slice fa is.length fc, .int .i64 (is.length : Int), .int .i64 (t2 : Int), u43, u44, u45, u46, u47, u48, u49, u50, u51, u52], defers := [] } ∧ t2 ≤ is.length ∧ ∃ vi, OutAt ws p vi (L1 ++ (is.take t2).flatMap fun i => putF i x) ∧ Moved w v vi ∧ Grown w ws (OF p v) ∧ TabAt ws m ∧ FieldsAt ws (.slice fa is.length fc) is ∧ Blk ws gx 88 (opA x)) (fun a _ => is.length - (intOf (a.tmps.getD 42 undef)).toNat) ⟨0, u11, u43, u44, u45, u46, u47, u48, u49, u50, u51, rfl, by omega, vo6, by rw [List.take_zero, List.flatMap_nil, List.append_nil]; exact H6O.out, H6M.out, H6G.out, H6T.out, H6F.out, H6X.out⟩ ?_
   rintro a ws ⟨t2, u11, u43, u44, u45, u46, u47, u48, u49, u50, u51, rfl, ht2, vi, hO2, hM2, hG2, hT2, hF2, hX2⟩
   by_cases htl2 : t2 < is.length
   ·have htl2' : (t2 : Int) < (is.length : Int) := by omega
    obtain ⟨gF, hfa, hr2⟩ := hF2.at htl2
    have him : is.getD t2 0 ∈ is := by simp [List.getD_eq_getElem?_getD, htl2]
    have hi4 : is.getD t2 0 < 4 := Hi4.out _ him
    have hi3 : is.getD t2 0 = 3 → 0 ≤ x.op ∧ x.op ≤ 1024 := fun e => H3.out (e ▸ him)
    have hnx2 := fm_next (fun i => putF i x) is t2 htl2 0
    have hbd : (L1 ++ (is.take t2).flatMap fun i => putF i x).length + (putF (is.getD t2 0) x).length ≤ 200000000000000 := by
     have h1 := fm_len (fun i => putF i x) is (t2 + 1)
     rw [hnx2, List.length_append] at h1
     have h2 := Hbd.out
     rw [List.length_append] at h2 ⊢
     omega
    generalize is.getD t2 0 = i at *
    obtain ⟨L2, hL2⟩ : ∃ L2, L2 = L1 ++ (is.take t2).flatMap fun i => putF i x := ⟨_, rfl⟩
    rw [← hL2] at hO2 hbd
    have hwr2 : IntKind.i64.wrap ((t2 : Int) + 1) = (t2 : Int) + 1 := by rw [IntKind.wrap_i64]; have := Hn3.out; omega
    have KO2 := Keep.mk hO2
    have KM2 := Keep.mk hM2
    have KG2 := Keep.mk hG2
    have KT2 := Keep.mk hT2
    have KF2 := Keep.mk hF2
    have KX2 := Keep.mk hX2
    have Kbd := Keep.mk hbd
    have Ki3 := Keep.mk hi3
    have Knx2 := Keep.mk hnx2
    have KL2 := Keep.mk hL2
    clear hO2 hM2 hG2 hT2 hF2 hX2 hbd hi3 hnx2 hL2 him
    rcases (show i = 0 ∨ i = 1 ∨ i = 2 ∨ i = 3 by omega) with rfl | rfl | rfl | rfl
    ·refine wp_seq_k fun K15 hK15 => rgn ?_
     refine VlS (.bool true) ?_
     refine WL.nil (hK15 _ _ ?_)
     refine wp_seq_k fun K16 hK16 => ?_
     refine wp_cond_true rfl ?_
     refine wp_skip ?_
     refine hK16 _ _ ?_
     refine wp_seq_k fun K17 hK17 => ?_
     refine wp_block ?_
     refine wp_seq_k fun K18 hK18 => rgn ?_
     refine VlS (.pointer (some ⟨gF, 0 + t2 * 3, none⟩)) ?_
     refine WL.midA (by kernel_rfl) 182 (.tmp 44) rfl gF (0 + t2 * 3) rfl (fldA 0) _ hr2 Tryz.underlying182 rfl (Tryz.size182B 0) ?_
     simp only [Act.put, pqA, pqB, pqC]
     refine WL.new (by kernel_rfl) 182 rfl _ Tryz.new182 ?_
     simp only [Act.put, pqA, pqB, pqC]
     refine WL.storeR (by kernel_rfl) 182 (.tmp 11) (.tmp 45) rfl ws.heap.size (fldA 0) rfl rfl 182 noF (Blk.new ws 182 noF) (Tryz.size182B 0) (noF_sizes 0) (fldA_one 0) ?_
     have HN := Keep.mk ((Blk.new ws 182 noF).setRow (fldA 0))
     have HGq : Keep (Below ws.heap.size ws ((ws.alloc (.cells noF 182)).setRow ws.heap.size (fldA 0))) := ⟨below_setRow (below_new ws _) (Nat.le_refl _) _⟩
     generalize (ws.alloc (.cells noF 182)).setRow ws.heap.size (fldA 0) = wy at *
     have cf : wy.cell? ⟨ws.heap.size, 1, none⟩ = some (fnv 122) := HN.out.c 1 rfl
     unfold fnv at cf
     have HOy := Keep.mk (KO2.out.below HGq.out)
     have HXy := Keep.mk (KX2.out.below HGq.out KX2.out.lt)
     simp only [Act.put]
     refine WL.nil (hK18 _ _ ?_)
     refine rgn ?_
     refine VlS (.pointer (some ⟨ws.heap.size, 1, none⟩)) ?_
     refine VlS (.func (.func 122) #[] #[]) ?_
     refine VlS (.pointer (some ⟨p, 0, none⟩)) ?_
     refine WL.row (by kernel_rfl) 88 (.tmp 9) rfl gx rfl 88 (opA x) _ HXy.out Tryz.underlying88 rfl (Tryz.size88B x) ?_
     simp only [Act.put, pqA, pqB, pqC]
     refine WL.callV (by kernel_rfl) 122 (.tmp 47) _ _ rfl rfl Tryz.in122 #[ptr p, .agg (opA x)] (by simp [Act.eval]) ?_
     refine (put0_any p vi L2 x wy HOy.out Hx.out Kbd.out).mono ?_
     rintro e w9 hp
     obtain ⟨rfl, v9, hO9, hM9, hG9⟩ := hp
     refine ⟨_, rfl, ?_⟩
     have HGs : Keep (Grown ws w9 (OF p vi)) := ⟨(Grown.below HGq.out).trans hG9⟩
     have HM9 := Keep.mk hM9
     have HO9 := Keep.mk hO9
     clear hG9 hM9 hO9 cf
     simp only [Act.put, pqA, pqB, pqC]
     refine WL.nil (hK17 _ _ ?_)
     refine rgn ?_
     refine VlS (.int .i64 ((t2 : Int) + 1)) ?_
     refine VlS (.int .i64 ((t2 : Int) + 1)) ?_
     refine WL.nil ?_
     refine ⟨⟨t2 + 1, .pointer (some ⟨ws.heap.size, 0, none⟩), .bool true, .pointer (some ⟨gF, 0 + t2 * 3, none⟩), .agg (fldA 0), .pointer (some ⟨ws.heap.size, 1, none⟩), .func (.func 122) #[] #[], .pointer (some ⟨p, 0, none⟩), .agg (opA x), .tuple #[], .int .i64 ((t2 : Int) + 1), rfl, by omega, v9, by rw [Knx2.out, ← List.append_assoc, ← KL2.out]; exact HO9.out, KM2.out.trans KG2.out.size (HM9.out.mono HGq.out.size), KG2.out.next HGs.out fun k hk ho => ?_, KO2.out.tab KT2.out HGs.out, KO2.out.fields KF2.out HGs.out, KO2.out.keeps KX2.out (by decide) (by decide) HGs.out⟩, ?_⟩
     ·rcases ho with rfl | ho
      ·exact .inl rfl
      ·exact .inr (KM2.out.old hk ho)
     ·simp only [intOf]; show is.length - ((t2 : Int) + 1).toNat < is.length - ((t2 : Int)).toNat; omega
    ·refine wp_seq_k fun K19 hK19 => rgn ?_
     refine VlS (.bool true) ?_
     refine WL.nil (hK19 _ _ ?_)
     refine wp_seq_k fun K20 hK20 => ?_
     refine wp_cond_true rfl ?_
     refine wp_skip ?_
     refine hK20 _ _ ?_
     refine wp_seq_k fun K21 hK21 => ?_
     refine wp_block ?_
     refine wp_seq_k fun K22 hK22 => rgn ?_
     refine VlS (.pointer (some ⟨gF, 0 + t2 * 3, none⟩)) ?_
     refine WL.midA (by kernel_rfl) 182 (.tmp 44) rfl gF (0 + t2 * 3) rfl (fldA 1) _ hr2 Tryz.underlying182 rfl (Tryz.size182B 1) ?_
     simp only [Act.put, pqA, pqB, pqC]
     refine WL.new (by kernel_rfl) 182 rfl _ Tryz.new182 ?_
     simp only [Act.put, pqA, pqB, pqC]
     refine WL.storeR (by kernel_rfl) 182 (.tmp 11) (.tmp 45) rfl ws.heap.size (fldA 1) rfl rfl 182 noF (Blk.new ws 182 noF) (Tryz.size182B 1) (noF_sizes 1) (fldA_one 1) ?_
     have HN := Keep.mk ((Blk.new ws 182 noF).setRow (fldA 1))
     have HGq : Keep (Below ws.heap.size ws ((ws.alloc (.cells noF 182)).setRow ws.heap.size (fldA 1))) := ⟨below_setRow (below_new ws _) (Nat.le_refl _) _⟩
     generalize (ws.alloc (.cells noF 182)).setRow ws.heap.size (fldA 1) = wy at *
     have cf : wy.cell? ⟨ws.heap.size, 1, none⟩ = some (fnv 127) := HN.out.c 1 rfl
     unfold fnv at cf
     have HOy := Keep.mk (KO2.out.below HGq.out)
     have HXy := Keep.mk (KX2.out.below HGq.out KX2.out.lt)
     simp only [Act.put]
     refine WL.nil (hK22 _ _ ?_)
     refine rgn ?_
     refine VlS (.pointer (some ⟨ws.heap.size, 1, none⟩)) ?_
     refine VlS (.func (.func 127) #[] #[]) ?_
     refine VlS (.pointer (some ⟨p, 0, none⟩)) ?_
     refine WL.row (by kernel_rfl) 88 (.tmp 9) rfl gx rfl 88 (opA x) _ HXy.out Tryz.underlying88 rfl (Tryz.size88B x) ?_
     simp only [Act.put, pqA, pqB, pqC]
     refine WL.callV (by kernel_rfl) 127 (.tmp 47) _ _ rfl rfl Tryz.in127 #[ptr p, .agg (opA x)] (by simp [Act.eval]) ?_
     refine (put1_any p vi L2 x wy HOy.out Hx.out Kbd.out).mono ?_
     rintro e w9 hp
     obtain ⟨rfl, v9, hO9, hM9, hG9⟩ := hp
     refine ⟨_, rfl, ?_⟩
     have HGs : Keep (Grown ws w9 (OF p vi)) := ⟨(Grown.below HGq.out).trans hG9⟩
     have HM9 := Keep.mk hM9
     have HO9 := Keep.mk hO9
     clear hG9 hM9 hO9 cf
     simp only [Act.put, pqA, pqB, pqC]
     refine WL.nil (hK21 _ _ ?_)
     refine rgn ?_
     refine VlS (.int .i64 ((t2 : Int) + 1)) ?_
     refine VlS (.int .i64 ((t2 : Int) + 1)) ?_
     refine WL.nil ?_
     refine ⟨⟨t2 + 1, .pointer (some ⟨ws.heap.size, 0, none⟩), .bool true, .pointer (some ⟨gF, 0 + t2 * 3, none⟩), .agg (fldA 1), .pointer (some ⟨ws.heap.size, 1, none⟩), .func (.func 127) #[] #[], .pointer (some ⟨p, 0, none⟩), .agg (opA x), .tuple #[], .int .i64 ((t2 : Int) + 1), rfl, by omega, v9, by rw [Knx2.out, ← List.append_assoc, ← KL2.out]; exact HO9.out, KM2.out.trans KG2.out.size (HM9.out.mono HGq.out.size), KG2.out.next HGs.out fun k hk ho => ?_, KO2.out.tab KT2.out HGs.out, KO2.out.fields KF2.out HGs.out, KO2.out.keeps KX2.out (by decide) (by decide) HGs.out⟩, ?_⟩
     ·rcases ho with rfl | ho
      ·exact .inl rfl
      ·exact .inr (KM2.out.old hk ho)
     ·simp only [intOf]; show is.length - ((t2 : Int) + 1).toNat < is.length - ((t2 : Int)).toNat; omega
    ·refine wp_seq_k fun K23 hK23 => rgn ?_
     refine VlS (.bool true) ?_
     refine WL.nil (hK23 _ _ ?_)
     refine wp_seq_k fun K24 hK24 => ?_
     refine wp_cond_true rfl ?_
     refine wp_skip ?_
     refine hK24 _ _ ?_
     refine wp_seq_k fun K25 hK25 => ?_
     refine wp_block ?_
     refine wp_seq_k fun K26 hK26 => rgn ?_
     refine VlS (.pointer (some ⟨gF, 0 + t2 * 3, none⟩)) ?_
     refine WL.midA (by kernel_rfl) 182 (.tmp 44) rfl gF (0 + t2 * 3) rfl (fldA 2) _ hr2 Tryz.underlying182 rfl (Tryz.size182B 2) ?_
     simp only [Act.put, pqA, pqB, pqC]
     refine WL.new (by kernel_rfl) 182 rfl _ Tryz.new182 ?_
     simp only [Act.put, pqA, pqB, pqC]
     refine WL.storeR (by kernel_rfl) 182 (.tmp 11) (.tmp 45) rfl ws.heap.size (fldA 2) rfl rfl 182 noF (Blk.new ws 182 noF) (Tryz.size182B 2) (noF_sizes 2) (fldA_one 2) ?_
     have HN := Keep.mk ((Blk.new ws 182 noF).setRow (fldA 2))
     have HGq : Keep (Below ws.heap.size ws ((ws.alloc (.cells noF 182)).setRow ws.heap.size (fldA 2))) := ⟨below_setRow (below_new ws _) (Nat.le_refl _) _⟩
     generalize (ws.alloc (.cells noF 182)).setRow ws.heap.size (fldA 2) = wy at *
     have cf : wy.cell? ⟨ws.heap.size, 1, none⟩ = some (fnv 130) := HN.out.c 1 rfl
     unfold fnv at cf
     have HOy := Keep.mk (KO2.out.below HGq.out)
     have HXy := Keep.mk (KX2.out.below HGq.out KX2.out.lt)
     simp only [Act.put]
     refine WL.nil (hK26 _ _ ?_)
     refine rgn ?_
     refine VlS (.pointer (some ⟨ws.heap.size, 1, none⟩)) ?_
     refine VlS (.func (.func 130) #[] #[]) ?_
     refine VlS (.pointer (some ⟨p, 0, none⟩)) ?_
     refine WL.row (by kernel_rfl) 88 (.tmp 9) rfl gx rfl 88 (opA x) _ HXy.out Tryz.underlying88 rfl (Tryz.size88B x) ?_
     simp only [Act.put, pqA, pqB, pqC]
     refine WL.callV (by kernel_rfl) 130 (.tmp 47) _ _ rfl rfl Tryz.in130 #[ptr p, .agg (opA x)] (by simp [Act.eval]) ?_
     refine (put2_any p vi L2 x wy HOy.out Hx.out Kbd.out).mono ?_
     rintro e w9 hp
     obtain ⟨rfl, v9, hO9, hM9, hG9⟩ := hp
     refine ⟨_, rfl, ?_⟩
     have HGs : Keep (Grown ws w9 (OF p vi)) := ⟨(Grown.below HGq.out).trans hG9⟩
     have HM9 := Keep.mk hM9
     have HO9 := Keep.mk hO9
     clear hG9 hM9 hO9 cf
     simp only [Act.put, pqA, pqB, pqC]
     refine WL.nil (hK25 _ _ ?_)
     refine rgn ?_
     refine VlS (.int .i64 ((t2 : Int) + 1)) ?_
     refine VlS (.int .i64 ((t2 : Int) + 1)) ?_
     refine WL.nil ?_
     refine ⟨⟨t2 + 1, .pointer (some ⟨ws.heap.size, 0, none⟩), .bool true, .pointer (some ⟨gF, 0 + t2 * 3, none⟩), .agg (fldA 2), .pointer (some ⟨ws.heap.size, 1, none⟩), .func (.func 130) #[] #[], .pointer (some ⟨p, 0, none⟩), .agg (opA x), .tuple #[], .int .i64 ((t2 : Int) + 1), rfl, by omega, v9, by rw [Knx2.out, ← List.append_assoc, ← KL2.out]; exact HO9.out, KM2.out.trans KG2.out.size (HM9.out.mono HGq.out.size), KG2.out.next HGs.out fun k hk ho => ?_, KO2.out.tab KT2.out HGs.out, KO2.out.fields KF2.out HGs.out, KO2.out.keeps KX2.out (by decide) (by decide) HGs.out⟩, ?_⟩
     ·rcases ho with rfl | ho
      ·exact .inl rfl
      ·exact .inr (KM2.out.old hk ho)
     ·simp only [intOf]; show is.length - ((t2 : Int) + 1).toNat < is.length - ((t2 : Int)).toNat; omega
    ·refine wp_seq_k fun K27 hK27 => rgn ?_
     refine VlS (.bool true) ?_
     refine WL.nil (hK27 _ _ ?_)
     refine wp_seq_k fun K28 hK28 => ?_
     refine wp_cond_true rfl ?_
     refine wp_skip ?_
     refine hK28 _ _ ?_
     refine wp_seq_k fun K29 hK29 => ?_
     refine wp_block ?_
     refine wp_seq_k fun K30 hK30 => rgn ?_
     refine VlS (.pointer (some ⟨gF, 0 + t2 * 3, none⟩)) ?_
     refine WL.midA (by kernel_rfl) 182 (.tmp 44) rfl gF (0 + t2 * 3) rfl (fldA 3) _ hr2 Tryz.underlying182 rfl (Tryz.size182B 3) ?_
     simp only [Act.put, pqA, pqB, pqC]
     refine WL.new (by kernel_rfl) 182 rfl _ Tryz.new182 ?_
     simp only [Act.put, pqA, pqB, pqC]
     refine WL.storeR (by kernel_rfl) 182 (.tmp 11) (.tmp 45) rfl ws.heap.size (fldA 3) rfl rfl 182 noF (Blk.new ws 182 noF) (Tryz.size182B 3) (noF_sizes 3) (fldA_one 3) ?_
     have HN := Keep.mk ((Blk.new ws 182 noF).setRow (fldA 3))
     have HGq : Keep (Below ws.heap.size ws ((ws.alloc (.cells noF 182)).setRow ws.heap.size (fldA 3))) := ⟨below_setRow (below_new ws _) (Nat.le_refl _) _⟩
     generalize (ws.alloc (.cells noF 182)).setRow ws.heap.size (fldA 3) = wy at *
     have cf : wy.cell? ⟨ws.heap.size, 1, none⟩ = some (fnv 135) := HN.out.c 1 rfl
     unfold fnv at cf
     have HOy := Keep.mk (KO2.out.below HGq.out)
     have HXy := Keep.mk (KX2.out.below HGq.out KX2.out.lt)
     simp only [Act.put]
     refine WL.nil (hK30 _ _ ?_)
     refine rgn ?_
     refine VlS (.pointer (some ⟨ws.heap.size, 1, none⟩)) ?_
     refine VlS (.func (.func 135) #[] #[]) ?_
     refine VlS (.pointer (some ⟨p, 0, none⟩)) ?_
     refine WL.row (by kernel_rfl) 88 (.tmp 9) rfl gx rfl 88 (opA x) _ HXy.out Tryz.underlying88 rfl (Tryz.size88B x) ?_
     simp only [Act.put, pqA, pqB, pqC]
     refine WL.callV (by kernel_rfl) 135 (.tmp 47) _ _ rfl rfl Tryz.in135 #[ptr p, .agg (opA x)] (by simp [Act.eval]) ?_
     refine (put3_any p vi L2 x wy HOy.out Hx.out (Ki3.out rfl).1 (Ki3.out rfl).2 Kbd.out).mono ?_
     rintro e w9 hp
     obtain ⟨rfl, v9, hO9, hM9, hG9⟩ := hp
     refine ⟨_, rfl, ?_⟩
     have HGs : Keep (Grown ws w9 (OF p vi)) := ⟨(Grown.below HGq.out).trans hG9⟩
     have HM9 := Keep.mk hM9
     have HO9 := Keep.mk hO9
     clear hG9 hM9 hO9 cf
     simp only [Act.put, pqA, pqB, pqC]
     refine WL.nil (hK29 _ _ ?_)
     refine rgn ?_
     refine VlS (.int .i64 ((t2 : Int) + 1)) ?_
     refine VlS (.int .i64 ((t2 : Int) + 1)) ?_
     refine WL.nil ?_
     refine ⟨⟨t2 + 1, .pointer (some ⟨ws.heap.size, 0, none⟩), .bool true, .pointer (some ⟨gF, 0 + t2 * 3, none⟩), .agg (fldA 3), .pointer (some ⟨ws.heap.size, 1, none⟩), .func (.func 135) #[] #[], .pointer (some ⟨p, 0, none⟩), .agg (opA x), .tuple #[], .int .i64 ((t2 : Int) + 1), rfl, by omega, v9, by rw [Knx2.out, ← List.append_assoc, ← KL2.out]; exact HO9.out, KM2.out.trans KG2.out.size (HM9.out.mono HGq.out.size), KG2.out.next HGs.out fun k hk ho => ?_, KO2.out.tab KT2.out HGs.out, KO2.out.fields KF2.out HGs.out, KO2.out.keeps KX2.out (by decide) (by decide) HGs.out⟩, ?_⟩
     ·rcases ho with rfl | ho
      ·exact .inl rfl
      ·exact .inr (KM2.out.old hk ho)
     ·simp only [intOf]; show is.length - ((t2 : Int) + 1).toNat < is.length - ((t2 : Int)).toNat; omega
   ·have ht2e : t2 = is.length := by omega
    have htl2' : ¬ (t2 : Int) < (is.length : Int) := by omega
    rw [ht2e, List.take_length] at hO2
    clear ht2e
    have KO2 := Keep.mk hO2
    have KM2 := Keep.mk hM2
    have KG2 := Keep.mk hG2
    have KT2 := Keep.mk hT2
    clear hO2 hM2 hG2 hT2 hF2 hX2
    refine wp_seq_k fun K31 hK31 => rgn ?_
    refine VlS (.bool false) ?_
    refine WL.nil (hK31 _ _ ?_)
    refine wp_seq_k fun K32 hK32 => ?_
    refine wp_cond_false rfl ?_
    refine wp_exit ?_
    refine hK11 _ _ ?_
    refine rgn ?_
    refine VlS (.int .i64 ((t : Int) + 1)) ?_
    refine VlS (.int .i64 ((t : Int) + 1)) ?_
    refine WL.nil ?_
    rw [Jfull.out] at KO2
    refine ⟨⟨t + 1, .pointer (some ⟨gx, 0, none⟩), u11, .bool true, .pointer (some ⟨gL, ofL + t * 37, none⟩), .agg (opA x), .pointer (some ⟨p, 0, none⟩), .pointer (some ⟨gx, 0, none⟩), .int .i64 x.kind, .int .u8 x.kind, .tuple #[], .map (some m), .pointer (some ⟨gx, 0, none⟩), .int .i64 x.kind, .slice fa is.length fc, .int .i64 (is.length : Int), .int .i64 (t2 : Int), .bool false, u44, u45, u46, u47, u48, u49, u50, u51, .int .i64 ((t : Int) + 1), rfl, by omega, vi, KO2.out, KM2.out, KG2.out, KT2.out⟩, ?_⟩
    simp only [intOf]; show l.length - ((t : Int) + 1).toNat < l.length - ((t : Int)).toNat; omega
  ·obtain rfl : t = l.length := by omega
   have htl' : ¬ (l.length : Int) < (l.length : Int) := by omega
   rw [List.take_length, List.append_assoc] at hO
   refine wp_seq_k fun K33 hK33 => rgn ?_
   refine VlS (.bool false) ?_
   refine WL.nil (hK33 _ _ ?_)
   refine wp_seq_k fun K34 hK34 => ?_
   refine wp_cond_false rfl ?_
   refine wp_exit ?_
   refine hK7 _ _ ?_
   refine wp_seq_k fun K35 hK35 => rgn ?_
   refine VlS (.int .i64 0) ?_
   refine WL.nil (hK35 _ _ ?_)
   refine wp_ret ?_
   go_ret
   exact ⟨by rw [HC0.out]; rfl, vo, by rw [if_pos HC0.out]; exact hO, hM, hG⟩
 ·clear h hl hok hb hsep hbb
  refine wp_seq_k fun K1 hK1 => rgn ?_
  refine VlS (.int .i64 0) ?_
  refine WL.nil (hK1 _ _ ?_)
  refine wp_seq_k fun K2 hK2 => ?_
  refine wp_seq_k fun K3 hK3 => rgn ?_
  refine VlS (.slice va l.length vc) ?_
  refine WL.callF (by kernel_rfl) 42 _ _ rfl Tryz.in42 #[.slice va l.length vc] (by simp [Act.eval]) ?_
  refine (check_any _ l w HL.out Hok.out Hlb.out).mono ?_
  rintro e w1 ⟨rfl, h1⟩
  refine ⟨_, rfl, ?_⟩
  have HB1 := Keep.mk h1
  clear h1
  simp only [Act.put, pqA, pqB, pqC]
  refine VlS (.tuple #[.int .i64 (chk l).1, .int .i64 ((chk l).2 : Int)]) ?_
  refine VlS (.int .i64 (chk l).1) ?_
  refine VlS (.int .i64 ((chk l).2 : Int)) ?_
  refine VlS (.int .i64 (chk l).1) ?_
  refine VlS (.int .i64 ((chk l).2 : Int)) ?_
  refine WL.nil (hK3 _ _ ?_)
  refine wp_seq_k fun K4 hK4 => rgn ?_
  refine VlS (.int .i64 (chk l).1) ?_
  refine VlS (.bool true) ?_
  refine WL.nil (hK4 _ _ ?_)
  refine wp_cond_true rfl ?_
  refine wp_seq_k fun K5 hK5 => rgn ?_
  refine VlS (.int .i64 (chk l).1) ?_
  refine VlS (.int .i64 (chk l).1) ?_
  refine WL.nil (hK5 _ _ ?_)
  refine wp_ret ?_
  go_ret
  exact ⟨rfl, v, by rw [if_neg hC]; exact HO.out.below HB1.out, Moved.refl _ _, Grown.below HB1.out⟩

def flatO (l : List OpV) : List Value := l.flatMap opL
theorem flatO_len (l : List OpV) : (flatO l).length = l.length * 37 := by
 induction l with
 | nil => rfl
 | cons x l ih =>
  simp only [flatO, List.flatMap_cons, List.length_append, opL_len, List.length_cons] at ih ⊢
  rw [ih]; omega
theorem flatO_drop (l : List OpV) : ∀ t, (flatO l).drop (t * 37) = flatO (l.drop t) := by
 induction l with
 | nil => intro t; simp [flatO]
 | cons x l ih =>
  intro t
  cases t with
  | zero => simp
  | succ t =>
   have := ih t
   simp only [flatO, List.flatMap_cons, List.drop_succ_cons] at this ⊢
   rw [← this, show (t + 1) * 37 = 37 + t * 37 by omega, ← List.drop_drop, List.drop_left' (opL_len x)]
theorem flatO_get (l : List OpV) (t : Nat) (x : OpV) (ht : l[t]? = some x) (j : Nat) (v : Value) (hv : (opL x)[j]? = some v) : (flatO l)[t * 37 + j]? = some v := by
 rw [← List.getElem?_drop, flatO_drop]
 obtain ⟨h1, h2⟩ := List.getElem?_eq_some_iff.1 ht
 rw [List.drop_eq_getElem_cons h1, h2]
 simp only [flatO, List.flatMap_cons]
 rw [List.getElem?_append_left (List.getElem?_eq_some_iff.1 hv).1]
 exact hv
theorem ops_block {w : World} {g : Nat} {T : TypeId} {l : List OpV} {cs : Array Value} {cap : Nat} (h : Blk w g T cs) (hc : cs.toList.take (l.length * 37) = flatO l) (hcap : l.length ≤ cap) : OpsAt w (.slice (some ⟨g, 0, none⟩) l.length cap) l := by
 refine .inr ⟨g, 0, cap, rfl, hcap, fun i x hx j v hv => ?_⟩
 rw [Nat.zero_add, h.cell]
 have := flatO_get l i x hx j v hv
 rw [← hc, List.getElem?_take] at this
 split at this
 ·simpa using this
 ·cases this
theorem z32_len : z32.length = 32 := by decide
theorem z32_byts : Byts z32 := by unfold z32; intro c hc; rw [List.eq_of_mem_replicate hc]; decide
end Go.Proofs.YtdeiicldfgkidaaGreat
