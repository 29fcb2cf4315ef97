import Derived.Test.YthlohkgdmfkpeaaGreatB01
import Derived.Defers
import Derived.Recover
import Derived.Test.YthlohkgdmfkpeaaGreatChecked
import Derived.WalkKit
import Derived.WalkSpells
import Derived.WalkLawsBesides
import Derived.BigQuiet
import Derived.BigRegion
import Derived.Deep.WholeRow
import Derived.Deep.MidRow
import Derived.Deep.RegionWith
import Derived.Deep.DeepCutAuto
import Derived.Deep.RegionHeld3
import Derived.ChangeKeysEq
import Derived.Sort.Grow
import Derived.Deep.Draws
import Derived.Deep.QuietTactic
namespace Go.Proofs.YthlohkgdmfkpeaaGreat.Nd
open Go.RowKit
set_option linter.unusedSimpArgs false

def wrongV (l : List OpV) (x : OpV) : Int :=
 if hasI x.kind = [] then 40 else if 65536 < x.key.size then 4 else if 65536 < x.text.size then 4 else if sm (wipes (hasI x.kind) { x with kind := 0 }) zeroOp = false then 41 else if cellV x.kind = 4 then (if mayAt l x = true then 0 else 42) else 0
theorem hasI_lt (k : Int) : ∀ i ∈ hasI k, i < 4 := by
 by_cases h : k ∈ ([1, 2, 3, 4, 5, 6, 7, 8, 9] : List Int)
 ·simp only [List.mem_cons, List.not_mem_nil, or_false] at h
  rcases h with rfl | rfl | rfl | rfl | rfl | rfl | rfl | rfl | rfl <;> decide
 ·rw [hasI_none k h]; simp
theorem hasI_len (k : Int) : (hasI k).length ≤ 3 := by
 by_cases h : k ∈ ([1, 2, 3, 4, 5, 6, 7, 8, 9] : List Int)
 ·simp only [List.mem_cons, List.not_mem_nil, or_false] at h
  rcases h with rfl | rfl | rfl | rfl | rfl | rfl | rfl | rfl | rfl <;> decide
 ·rw [hasI_none k h]; simp
set_option maxRecDepth 8000 in
set_option maxHeartbeats 1000000 in
theorem wrong_any (x : OpV) (v vl : Value) (l : List OpV) (w : World) (hF : FieldsAt w v (hasI x.kind)) (hx : OpOk x) (hl : OpsAt w vl l) (hb : l.length ≤ 4398046511104) :
  Calls Tryz.prog 92 #[.agg (opA x), v, vl] w fun e w' => e = .returned (.int .i64 (wrongV l x)) ∧ Below w.heap.size w w' := by
 obtain ⟨va, vc, rfl⟩ := hF.form
 obtain ⟨la, lc, rfl⟩ := hl.form
 have HF := Keep.mk hF
 have Hx := Keep.mk hx
 have HL := Keep.mk hl
 have Hl := Keep.mk hb
 have HB := Keep.mk (Blk.new w 119 (opA x))
 have HW := Keep.mk (below_new w (.cells (opA x) 119))
 obtain ⟨w1, hw1⟩ : ∃ w1, Keep (w.alloc (.cells (opA x) 119) = w1) := ⟨_, ⟨rfl⟩⟩
 rw [hw1.out] at HB HW
 have c0 := HB.out.c 0 (opA_0 x)
 have c1 := HB.out.c 1 (opA_1 x)
 have c2 := HB.out.c 2 (opA_2 x)
 have hk1 : (x.key.size : Int) ≤ 9223372036854775807 := by have := hx.key; omega
 have hk2 : (x.text.size : Int) ≤ 9223372036854775807 := by have := hx.text; omega
 obtain ⟨R, hR⟩ : ∃ R, R = wrongV l x := ⟨_, rfl⟩
 rw [← hR]
 unfold wrongV at hR
 have HR := Keep.mk hR
 have hI3 := hasI_len x.kind
 clear hF hx hl hb hR
 go_enter Tryz.func92, Tryz.ntmps92
 by_cases hA : hasI x.kind = []
 ·rw [if_pos hA] at HR
  have hA0 : (hasI x.kind).length = 0 := by rw [hA]; rfl
  refine wp_seq_k fun K1 hK1 => rgn ?_
  refine WL.box (by kernel_rfl) 119 (.tmp 0) rfl (opA x) rfl ?_
  rw [hw1.out]
  simp only [Act.put, pqA, pqB, pqC]
  refine VlS (.int .i64 0) ?_
  refine WL.nil (hK1 _ _ ?_)
  refine wp_seq_k fun K2 hK2 => ?_
  refine wp_block ?_
  refine wp_seq_k fun K3 hK3 => rgn ?_
  refine VlS (.slice va (hasI x.kind).length vc) ?_
  refine VlS (.int .i64 ((hasI x.kind).length : Int)) ?_
  refine VbT ?_
  refine VbT ?_
  refine WL.nil (hK3 _ _ ?_)
  refine wp_cond_true rfl ?_
  refine wp_seq_k fun K4 hK4 => rgn ?_
  refine VlS (.int .i64 40) ?_
  refine WL.nil (hK4 _ _ ?_)
  refine wp_ret ?_
  go_ret
  exact ⟨by rw [HR.out]; rfl, HW.out⟩
 ·rw [if_neg hA] at HR
  have hA0 : (hasI x.kind).length ≠ 0 := fun e => hA (List.eq_nil_of_length_eq_zero e)
  have hA1 : ¬ ((hasI x.kind).length : Int) = 0 := by omega
  by_cases hB1 : 65536 < x.key.size
  ·rw [if_pos hB1] at HR
   have hB1' : (65536 : Int) < (x.key.size : Int) := by omega
   refine wp_seq_k fun K1 hK1 => rgn ?_
   refine WL.box (by kernel_rfl) 119 (.tmp 0) rfl (opA x) rfl ?_
   rw [hw1.out]
   simp only [Act.put, pqA, pqB, pqC]
   refine VlS (.int .i64 0) ?_
   refine WL.nil (hK1 _ _ ?_)
   refine wp_seq_k fun K2 hK2 => ?_
   refine wp_block ?_
   refine wp_seq_k fun K3 hK3 => rgn ?_
   refine VlS (.slice va (hasI x.kind).length vc) ?_
   refine VlS (.int .i64 ((hasI x.kind).length : Int)) ?_
   refine VbF ?_
   refine VbF ?_
   refine WL.nil (hK3 _ _ ?_)
   refine wp_cond_false rfl ?_
   refine wp_seq_k fun K4 hK4 => rgn ?_
   refine VlS (.pointer (some ⟨w.heap.size, 1, none⟩)) ?_
   refine VlS (.string x.key) ?_
   refine VlS (.int .i64 (x.key.size : Int)) ?_
   refine VbT ?_
   refine VbT ?_
   refine SkS ?_
   refine SkS ?_
   refine SkS ?_
   refine SkS ?_
   refine VbT ?_
   refine VbT ?_
   refine WL.nil (hK4 _ _ ?_)
   refine wp_cond_true rfl ?_
   refine wp_seq_k fun K5 hK5 => rgn ?_
   refine VlS (.int .i64 4) ?_
   refine WL.nil (hK5 _ _ ?_)
   refine wp_ret ?_
   go_ret
   exact ⟨by rw [HR.out]; rfl, HW.out⟩
  ·rw [if_neg hB1] at HR
   have hB1' : ¬ (65536 : Int) < (x.key.size : Int) := by omega
   by_cases hB2 : 65536 < x.text.size
   ·rw [if_pos hB2] at HR
    have hB2' : (65536 : Int) < (x.text.size : Int) := by omega
    refine wp_seq_k fun K1 hK1 => rgn ?_
    refine WL.box (by kernel_rfl) 119 (.tmp 0) rfl (opA x) rfl ?_
    rw [hw1.out]
    simp only [Act.put, pqA, pqB, pqC]
    refine VlS (.int .i64 0) ?_
    refine WL.nil (hK1 _ _ ?_)
    refine wp_seq_k fun K2 hK2 => ?_
    refine wp_block ?_
    refine wp_seq_k fun K3 hK3 => rgn ?_
    refine VlS (.slice va (hasI x.kind).length vc) ?_
    refine VlS (.int .i64 ((hasI x.kind).length : Int)) ?_
    refine VbF ?_
    refine VbF ?_
    refine WL.nil (hK3 _ _ ?_)
    refine wp_cond_false rfl ?_
    refine wp_seq_k fun K4 hK4 => rgn ?_
    refine VlS (.pointer (some ⟨w.heap.size, 1, none⟩)) ?_
    refine VlS (.string x.key) ?_
    refine VlS (.int .i64 (x.key.size : Int)) ?_
    refine VbF ?_
    refine VbF ?_
    refine VlS (.pointer (some ⟨w.heap.size, 2, none⟩)) ?_
    refine VlS (.string x.text) ?_
    refine VlS (.int .i64 (x.text.size : Int)) ?_
    refine VbT ?_
    refine VbT ?_
    refine VbT ?_
    refine WL.nil (hK4 _ _ ?_)
    refine wp_cond_true rfl ?_
    refine wp_seq_k fun K5 hK5 => rgn ?_
    refine VlS (.int .i64 4) ?_
    refine WL.nil (hK5 _ _ ?_)
    refine wp_ret ?_
    go_ret
    exact ⟨by rw [HR.out]; rfl, HW.out⟩
   ·rw [if_neg hB2] at HR
    have hB2' : ¬ (65536 : Int) < (x.text.size : Int) := by omega
    cases hs : sm (wipes (hasI x.kind) { x with kind := 0 }) zeroOp with
    | false =>
     rw [if_pos hs] at HR
     have hS : (!sm (wipes (hasI x.kind) { x with kind := 0 }) zeroOp) = true := by rw [hs]; rfl
     refine wp_seq_k fun K1 hK1 => rgn ?_
     refine WL.box (by kernel_rfl) 119 (.tmp 0) rfl (opA x) rfl ?_
     rw [hw1.out]
     simp only [Act.put, pqA, pqB, pqC]
     refine VlS (.int .i64 0) ?_
     refine WL.nil (hK1 _ _ ?_)
     refine wp_seq_k fun K2 hK2 => ?_
     refine wp_block ?_
     refine wp_seq_k fun K3 hK3 => rgn ?_
     refine VlS (.slice va (hasI x.kind).length vc) ?_
     refine VlS (.int .i64 ((hasI x.kind).length : Int)) ?_
     refine VbF ?_
     refine VbF ?_
     refine WL.nil (hK3 _ _ ?_)
     refine wp_cond_false rfl ?_
     refine wp_seq_k fun K4 hK4 => rgn ?_
     refine VlS (.pointer (some ⟨w.heap.size, 1, none⟩)) ?_
     refine VlS (.string x.key) ?_
     refine VlS (.int .i64 (x.key.size : Int)) ?_
     refine VbF ?_
     refine VbF ?_
     refine VlS (.pointer (some ⟨w.heap.size, 2, none⟩)) ?_
     refine VlS (.string x.text) ?_
     refine VlS (.int .i64 (x.text.size : Int)) ?_
     refine VbF ?_
     refine VbF ?_
     refine VbF ?_
     refine WL.nil (hK4 _ _ ?_)
     refine wp_cond_false rfl ?_
     refine wp_seq_k fun K5 hK5 => rgn ?_
     refine WL.row (by kernel_rfl) 119 (.tmp 3) rfl w.heap.size rfl 119 (opA x) _ HB.out Tryz.underlying119 rfl (Tryz.size119B x) ?_
     simp only [Act.put, pqA, pqB, pqC]
     refine VlS (.slice va (hasI x.kind).length vc) ?_
     refine WL.callF (by kernel_rfl) 107 _ _ rfl Tryz.in107 #[.agg (opA x), .slice va (hasI x.kind).length vc] (by simp [Act.eval]) ?_
     refine (other_any x _ (hasI x.kind) w1 (HF.out.below HW.out) (hasI_lt _) (hasI_len _)).mono ?_
     rintro e w2 ⟨rfl, h2⟩
     rw [hS]
     refine ⟨_, rfl, ?_⟩
     have HB2 := Keep.mk (HB.out.below h2 HB.out.lt)
     have HW2 := Keep.mk (HW.out.trans (h2.mono HW.out.size))
     have d0 := HB2.out.c 0 (opA_0 x)
     clear h2
     simp only [Act.put, pqA, pqB, pqC]
     refine VbT ?_
     refine WL.nil (hK5 _ _ ?_)
     refine wp_cond_true rfl ?_
     refine wp_seq_k fun K6 hK6 => rgn ?_
     refine VlS (.int .i64 41) ?_
     refine WL.nil (hK6 _ _ ?_)
     refine wp_ret ?_
     go_ret
     exact ⟨by rw [HR.out]; rfl, HW2.out⟩
    | true =>
     rw [if_neg (by rw [hs]; decide)] at HR
     have hS : (!sm (wipes (hasI x.kind) { x with kind := 0 }) zeroOp) = false := by rw [hs]; rfl
     by_cases hD : cellV x.kind = 4
     ·rw [if_pos hD] at HR
      cases hM : mayAt l x with
      | false =>
       rw [if_neg (by rw [hM]; decide)] at HR
       refine wp_seq_k fun K1 hK1 => rgn ?_
       refine WL.box (by kernel_rfl) 119 (.tmp 0) rfl (opA x) rfl ?_
       rw [hw1.out]
       simp only [Act.put, pqA, pqB, pqC]
       refine VlS (.int .i64 0) ?_
       refine WL.nil (hK1 _ _ ?_)
       refine wp_seq_k fun K2 hK2 => ?_
       refine wp_block ?_
       refine wp_seq_k fun K3 hK3 => rgn ?_
       refine VlS (.slice va (hasI x.kind).length vc) ?_
       refine VlS (.int .i64 ((hasI x.kind).length : Int)) ?_
       refine VbF ?_
       refine VbF ?_
       refine WL.nil (hK3 _ _ ?_)
       refine wp_cond_false rfl ?_
       refine wp_seq_k fun K4 hK4 => rgn ?_
       refine VlS (.pointer (some ⟨w.heap.size, 1, none⟩)) ?_
       refine VlS (.string x.key) ?_
       refine VlS (.int .i64 (x.key.size : Int)) ?_
       refine VbF ?_
       refine VbF ?_
       refine VlS (.pointer (some ⟨w.heap.size, 2, none⟩)) ?_
       refine VlS (.string x.text) ?_
       refine VlS (.int .i64 (x.text.size : Int)) ?_
       refine VbF ?_
       refine VbF ?_
       refine VbF ?_
       refine WL.nil (hK4 _ _ ?_)
       refine wp_cond_false rfl ?_
       refine wp_seq_k fun K5 hK5 => rgn ?_
       refine WL.row (by kernel_rfl) 119 (.tmp 3) rfl w.heap.size rfl 119 (opA x) _ HB.out Tryz.underlying119 rfl (Tryz.size119B x) ?_
       simp only [Act.put, pqA, pqB, pqC]
       refine VlS (.slice va (hasI x.kind).length vc) ?_
       refine WL.callF (by kernel_rfl) 107 _ _ rfl Tryz.in107 #[.agg (opA x), .slice va (hasI x.kind).length vc] (by simp [Act.eval]) ?_
       refine (other_any x _ (hasI x.kind) w1 (HF.out.below HW.out) (hasI_lt _) (hasI_len _)).mono ?_
       rintro e w2 ⟨rfl, h2⟩
       rw [hS]
       refine ⟨_, rfl, ?_⟩
       have HB2 := Keep.mk (HB.out.below h2 HB.out.lt)
       have HW2 := Keep.mk (HW.out.trans (h2.mono HW.out.size))
       have d0 := HB2.out.c 0 (opA_0 x)
       clear h2
       simp only [Act.put, pqA, pqB, pqC]
       refine VbF ?_
       refine WL.nil (hK5 _ _ ?_)
       refine wp_cond_false rfl ?_
       refine wp_seq_k fun K6 hK6 => rgn ?_
       refine VlS (.pointer (some ⟨w.heap.size, 0, none⟩)) ?_
       refine VlS (.int .i64 x.kind) ?_
       refine WL.callF (by kernel_rfl) 108 _ _ rfl Tryz.in108 #[.int .i64 x.kind] (by simp [Act.eval]) ?_
       refine (cell_any x.kind w2).mono ?_
       rintro e w3 ⟨rfl, rfl⟩
       refine ⟨_, rfl, ?_⟩
       simp only [Act.put, pqA, pqB, pqC]
       refine VbT ?_
       refine VbT ?_
       refine WL.row (by kernel_rfl) 119 (.tmp 3) rfl w.heap.size rfl 119 (opA x) _ HB2.out Tryz.underlying119 rfl (Tryz.size119B x) ?_
       simp only [Act.put, pqA, pqB, pqC]
       refine VlS (.slice la l.length lc) ?_
       refine WL.callF (by kernel_rfl) 109 _ _ rfl Tryz.in109 #[.agg (opA x), .slice la l.length lc] (by simp [Act.eval]) ?_
       refine (may_any x _ l _ Hx.out (HL.out.below HW2.out) Hl.out).mono ?_
       rintro e w4 ⟨rfl, h4⟩
       rw [hM]
       refine ⟨_, rfl, ?_⟩
       simp only [Act.put, pqA, pqB, pqC]
       refine VbT ?_
       refine VbT ?_
       refine VbT ?_
       refine WL.nil (hK6 _ _ ?_)
       refine wp_cond_true rfl ?_
       refine wp_seq_k fun K7 hK7 => rgn ?_
       refine VlS (.int .i64 42) ?_
       refine WL.nil (hK7 _ _ ?_)
       refine wp_ret ?_
       go_ret
       exact ⟨by rw [HR.out]; rfl, HW2.out.trans (h4.mono HW2.out.size)⟩
      | true =>
       rw [if_pos hM] at HR
       refine wp_seq_k fun K1 hK1 => rgn ?_
       refine WL.box (by kernel_rfl) 119 (.tmp 0) rfl (opA x) rfl ?_
       rw [hw1.out]
       simp only [Act.put, pqA, pqB, pqC]
       refine VlS (.int .i64 0) ?_
       refine WL.nil (hK1 _ _ ?_)
       refine wp_seq_k fun K2 hK2 => ?_
       refine wp_block ?_
       refine wp_seq_k fun K3 hK3 => rgn ?_
       refine VlS (.slice va (hasI x.kind).length vc) ?_
       refine VlS (.int .i64 ((hasI x.kind).length : Int)) ?_
       refine VbF ?_
       refine VbF ?_
       refine WL.nil (hK3 _ _ ?_)
       refine wp_cond_false rfl ?_
       refine wp_seq_k fun K4 hK4 => rgn ?_
       refine VlS (.pointer (some ⟨w.heap.size, 1, none⟩)) ?_
       refine VlS (.string x.key) ?_
       refine VlS (.int .i64 (x.key.size : Int)) ?_
       refine VbF ?_
       refine VbF ?_
       refine VlS (.pointer (some ⟨w.heap.size, 2, none⟩)) ?_
       refine VlS (.string x.text) ?_
       refine VlS (.int .i64 (x.text.size : Int)) ?_
       refine VbF ?_
       refine VbF ?_
       refine VbF ?_
       refine WL.nil (hK4 _ _ ?_)
       refine wp_cond_false rfl ?_
       refine wp_seq_k fun K5 hK5 => rgn ?_
       refine WL.row (by kernel_rfl) 119 (.tmp 3) rfl w.heap.size rfl 119 (opA x) _ HB.out Tryz.underlying119 rfl (Tryz.size119B x) ?_
       simp only [Act.put, pqA, pqB, pqC]
       refine VlS (.slice va (hasI x.kind).length vc) ?_
       refine WL.callF (by kernel_rfl) 107 _ _ rfl Tryz.in107 #[.agg (opA x), .slice va (hasI x.kind).length vc] (by simp [Act.eval]) ?_
       refine (other_any x _ (hasI x.kind) w1 (HF.out.below HW.out) (hasI_lt _) (hasI_len _)).mono ?_
       rintro e w2 ⟨rfl, h2⟩
       rw [hS]
       refine ⟨_, rfl, ?_⟩
       have HB2 := Keep.mk (HB.out.below h2 HB.out.lt)
       have HW2 := Keep.mk (HW.out.trans (h2.mono HW.out.size))
       have d0 := HB2.out.c 0 (opA_0 x)
       clear h2
       simp only [Act.put, pqA, pqB, pqC]
       refine VbF ?_
       refine WL.nil (hK5 _ _ ?_)
       refine wp_cond_false rfl ?_
       refine wp_seq_k fun K6 hK6 => rgn ?_
       refine VlS (.pointer (some ⟨w.heap.size, 0, none⟩)) ?_
       refine VlS (.int .i64 x.kind) ?_
       refine WL.callF (by kernel_rfl) 108 _ _ rfl Tryz.in108 #[.int .i64 x.kind] (by simp [Act.eval]) ?_
       refine (cell_any x.kind w2).mono ?_
       rintro e w3 ⟨rfl, rfl⟩
       refine ⟨_, rfl, ?_⟩
       simp only [Act.put, pqA, pqB, pqC]
       refine VbT ?_
       refine VbT ?_
       refine WL.row (by kernel_rfl) 119 (.tmp 3) rfl w.heap.size rfl 119 (opA x) _ HB2.out Tryz.underlying119 rfl (Tryz.size119B x) ?_
       simp only [Act.put, pqA, pqB, pqC]
       refine VlS (.slice la l.length lc) ?_
       refine WL.callF (by kernel_rfl) 109 _ _ rfl Tryz.in109 #[.agg (opA x), .slice la l.length lc] (by simp [Act.eval]) ?_
       refine (may_any x _ l _ Hx.out (HL.out.below HW2.out) Hl.out).mono ?_
       rintro e w4 ⟨rfl, h4⟩
       rw [hM]
       refine ⟨_, rfl, ?_⟩
       simp only [Act.put, pqA, pqB, pqC]
       refine VbF ?_
       refine VbF ?_
       refine VbF ?_
       refine WL.nil (hK6 _ _ ?_)
       refine wp_cond_false rfl ?_
       refine wp_skip ?_
       refine hK2 _ _ ?_
       refine wp_seq_k fun K7 hK7 => rgn ?_
       refine VlS (.int .i64 0) ?_
       refine WL.nil (hK7 _ _ ?_)
       refine wp_ret ?_
       go_ret
       exact ⟨by rw [HR.out]; rfl, HW2.out.trans (h4.mono HW2.out.size)⟩
     ·rw [if_neg hD] at HR
      refine wp_seq_k fun K1 hK1 => rgn ?_
      refine WL.box (by kernel_rfl) 119 (.tmp 0) rfl (opA x) rfl ?_
      rw [hw1.out]
      simp only [Act.put, pqA, pqB, pqC]
      refine VlS (.int .i64 0) ?_
      refine WL.nil (hK1 _ _ ?_)
      refine wp_seq_k fun K2 hK2 => ?_
      refine wp_block ?_
      refine wp_seq_k fun K3 hK3 => rgn ?_
      refine VlS (.slice va (hasI x.kind).length vc) ?_
      refine VlS (.int .i64 ((hasI x.kind).length : Int)) ?_
      refine VbF ?_
      refine VbF ?_
      refine WL.nil (hK3 _ _ ?_)
      refine wp_cond_false rfl ?_
      refine wp_seq_k fun K4 hK4 => rgn ?_
      refine VlS (.pointer (some ⟨w.heap.size, 1, none⟩)) ?_
      refine VlS (.string x.key) ?_
      refine VlS (.int .i64 (x.key.size : Int)) ?_
      refine VbF ?_
      refine VbF ?_
      refine VlS (.pointer (some ⟨w.heap.size, 2, none⟩)) ?_
      refine VlS (.string x.text) ?_
      refine VlS (.int .i64 (x.text.size : Int)) ?_
      refine VbF ?_
      refine VbF ?_
      refine VbF ?_
      refine WL.nil (hK4 _ _ ?_)
      refine wp_cond_false rfl ?_
      refine wp_seq_k fun K5 hK5 => rgn ?_
      refine WL.row (by kernel_rfl) 119 (.tmp 3) rfl w.heap.size rfl 119 (opA x) _ HB.out Tryz.underlying119 rfl (Tryz.size119B x) ?_
      simp only [Act.put, pqA, pqB, pqC]
      refine VlS (.slice va (hasI x.kind).length vc) ?_
      refine WL.callF (by kernel_rfl) 107 _ _ rfl Tryz.in107 #[.agg (opA x), .slice va (hasI x.kind).length vc] (by simp [Act.eval]) ?_
      refine (other_any x _ (hasI x.kind) w1 (HF.out.below HW.out) (hasI_lt _) (hasI_len _)).mono ?_
      rintro e w2 ⟨rfl, h2⟩
      rw [hS]
      refine ⟨_, rfl, ?_⟩
      have HB2 := Keep.mk (HB.out.below h2 HB.out.lt)
      have HW2 := Keep.mk (HW.out.trans (h2.mono HW.out.size))
      have d0 := HB2.out.c 0 (opA_0 x)
      clear h2
      simp only [Act.put, pqA, pqB, pqC]
      refine VbF ?_
      refine WL.nil (hK5 _ _ ?_)
      refine wp_cond_false rfl ?_
      refine wp_seq_k fun K6 hK6 => rgn ?_
      refine VlS (.pointer (some ⟨w.heap.size, 0, none⟩)) ?_
      refine VlS (.int .i64 x.kind) ?_
      refine WL.callF (by kernel_rfl) 108 _ _ rfl Tryz.in108 #[.int .i64 x.kind] (by simp [Act.eval]) ?_
      refine (cell_any x.kind w2).mono ?_
      rintro e w3 ⟨rfl, rfl⟩
      refine ⟨_, rfl, ?_⟩
      simp only [Act.put, pqA, pqB, pqC]
      refine VbF ?_
      refine VbF ?_
      refine SkS ?_
      refine SkS ?_
      refine SkS ?_
      refine SkS ?_
      refine VbF ?_
      refine VbF ?_
      refine WL.nil (hK6 _ _ ?_)
      refine wp_cond_false rfl ?_
      refine wp_skip ?_
      refine hK2 _ _ ?_
      refine wp_seq_k fun K7 hK7 => rgn ?_
      refine VlS (.int .i64 0) ?_
      refine WL.nil (hK7 _ _ ?_)
      refine wp_ret ?_
      go_ret
      exact ⟨by rw [HR.out]; rfl, HW2.out⟩

def chkF : List OpV → List OpV → Int × Nat
 | _, [] => (0, 0)
 | l, x :: r => if wrongV l x = 0 then chkF (l ++ [x]) r else (wrongV l x, l.length)
def chk (l : List OpV) : Int × Nat := if 1024 < l.length then (3, 0) else chkF [] l
end Go.Proofs.YthlohkgdmfkpeaaGreat.Nd
namespace Go.Proofs.YthlohkgdmfkpeaaGreat.Nd
open Go.RowKit
set_option linter.unusedSimpArgs false

theorem wp_callF {P : Program} {Q : Exit → Act → World → Prop} {o : Oper} {a : Act} {w : World} {K : Act → World → Prop} (f : FuncId) (args : Array Operand) (ts : Array TypeId) (ho : o.op = .call { callee := .value (.func f), args := args, argTypes := ts })
  (hf : ∀ (w : World) (vs : Array Value), (callFunc f vs).run P w = .ok (.enter f vs) w)
  (vs : Array Value) (hvs : args.map a.eval = vs)
  (R : Value → World → Prop) (hc : Calls P f vs w fun e w' => ∃ v, e = .returned v ∧ R v w')
  (h : ∀ v w', R v w' → K (a.put o.dst v) w') : o.wp P a w K Q := by
 unfold Oper.wp
 rw [run_callF a o f args ts ho hf w, Oper.upon_enter, hvs]
 refine hc.mono ?_
 rintro e w' ⟨v, rfl, hr⟩
 exact h v w' hr
theorem TabAt.look2 {w : World} {m : Nat} (h : TabAt w m) (k : Int) : ∃ v, FieldsAt w v (hasI k) ∧ ∀ wx, Below w.heap.size w wx →
  (Instr.lookup 143 (.map (some m)) (.int .i64 k) false).run Tryz.prog wx = .ok v wx ∧ (Instr.lookup 143 (.map (some m)) (.int .i64 k) true).run Tryz.prog wx = .ok (.tuple #[v, .bool (!(hasI k).isEmpty)]) wx := by
 obtain ⟨V, h1, h2⟩ := h.ex
 have h3 := fun wx (hb : Below w.heap.size w wx) => run_look wx m _ k (h1.grown (Grown.below (S := fun _ => False) hb) (fun h => h))
 simp only [find_tab] at h3
 by_cases hk : k ∈ ([1, 2, 3, 4, 5, 6, 7, 8, 9] : List Int)
 ·refine ⟨V k, h2 k hk, fun wx hb => ⟨by rw [h3 wx hb, if_pos hk]; rfl, ?_⟩⟩
  have : (hasI k).isEmpty = false := by simpa using hasI_some k hk
  rw [h3 wx hb, if_pos hk, this]; rfl
 ·refine ⟨.slice none 0 0, .inl ⟨rfl, hasI_none k hk⟩, fun wx hb => ⟨by rw [h3 wx hb, if_neg hk]; rfl, ?_⟩⟩
  rw [h3 wx hb, if_neg hk, hasI_none k hk]; rfl
theorem Tryz.elem48 : Tryz.prog.elem 48 = 119 := by kernel_rfl
theorem Tryz.sizeOf119 (w : World) : (sizeOf 119).run Tryz.prog w = .ok 37 w := by kernel_rfl
theorem sl_run23 (base : Option Addr) (n cap a : Nat) (ha : a ≤ cap) (wx : World) : (Instr.sliceAt 48 (.slice base n cap) none (some (.int .i64 (a : Int))) none).run Tryz.prog wx = .ok (.slice base a cap) wx := by
 have hu : Tryz.prog.underlying 48 = some (.slice (Tryz.prog.elem 48)) := by rw [Tryz.elem48]; exact Tryz.underlying48
 have h1 := run_slice_h (P := Tryz.prog) (w := wx) 48 base n cap hu .i64 (a : Int) (by omega) (by omega)
 have h2 := run_sliceAt_slice (P := Tryz.prog) (w := wx) 48 (.slice base n cap) none (some (.int .i64 (a : Int))) none hu
 rw [Tryz.elem48] at h1
 have h3 : sliced base 0 (a : Int).toNat cap 37 = .slice base a cap := by
  have h4 : (if cap = 0 then base else base.map (·.add (0 * 37))) = base := by
   split
   ·rfl
   ·cases base <;> rfl
  unfold sliced
  rw [h4, Int.toNat_natCast, Nat.sub_zero, Nat.sub_zero]
 rw [h2, h1]
 refine (congrArg (fun z => Result.andThen z fun s w => Result.ok (sliced base 0 (a : Int).toNat cap s) w) (Tryz.sizeOf119 wx)).trans ?_
 show Result.ok (sliced base 0 (a : Int).toNat cap 37) wx = _
 rw [h3]
theorem OpsAt.take {w : World} {a : Option Addr} {n c : Nat} {l : List OpV} (h : OpsAt w (.slice a n c) l) {t : Nat} (ht : t ≤ l.length) : t ≤ c ∧ OpsAt w (.slice a t c) (l.take t) := by
 rcases h with ⟨_, _, e, rfl⟩ | ⟨b, off, cap, e, h2, h3⟩
 ·obtain rfl : t = 0 := by simpa using ht
  exact ⟨Nat.zero_le _, .inl ⟨_, _, rfl, rfl⟩⟩
 ·injection e with e1 e2 e3
  subst e1 e3
  refine ⟨by omega, .inr ⟨b, off, c, ?_, ?_, fun i x hx => h3 i x ?_⟩⟩
  ·rw [List.length_take, Nat.min_eq_left ht]
  ·rw [List.length_take]; omega
  ·rw [List.getElem?_take] at hx; split at hx
   ·exact hx
   ·cases hx
theorem chkF_step (l : List OpV) (t : Nat) (ht : t < l.length) : chkF (l.take t) (l.drop t) = if wrongV (l.take t) (l.getD t zeroOp) = 0 then chkF (l.take (t + 1)) (l.drop (t + 1)) else (wrongV (l.take t) (l.getD t zeroOp), t) := by
 rw [List.drop_eq_getElem_cons ht, chkF, List.take_succ_eq_append_getElem ht, List.length_take, Nat.min_eq_left (by omega)]
 rw [show l.getD t zeroOp = l[t] by simp [List.getD_eq_getElem?_getD, ht]]
set_option maxRecDepth 8000 in
set_option maxHeartbeats 1000000 in
theorem check_any (v : Value) (l : List OpV) (w : World) (hl : OpsAt w v l) (hok : ∀ x ∈ l, OpOk x) (hb : l.length ≤ 4398046511104) :
  Calls Tryz.prog 73 #[v] w fun e w' => e = .returned (.tuple #[.int .i64 (chk l).1, .int .i64 ((chk l).2 : Int)]) ∧ Below w.heap.size w w' := by
 obtain ⟨va, vc, rfl⟩ := hl.form
 have HL := Keep.mk hl
 have Hok := Keep.mk hok
 have Hlb := Keep.mk hb
 have hb' : (l.length : Int) ≤ 9223372036854775807 := by omega
 obtain ⟨R, hR⟩ : ∃ R, R = chk l := ⟨_, rfl⟩
 rw [← hR]
 unfold chk at hR
 have HR := Keep.mk hR
 clear hl hok hb hR
 go_enter Tryz.func73, Tryz.ntmps73
 by_cases hM : 1024 < l.length
 ·have hM' : (1024 : Int) < (l.length : Int) := by omega
  rw [if_pos hM] at HR
  refine wp_seq_k fun K1 hK1 => rgn ?_
  refine VlS (.int .i64 0) ?_
  refine VlS (.int .i64 0) ?_
  refine WL.nil (hK1 _ _ ?_)
  refine wp_seq_k fun K2 hK2 => ?_
  refine wp_seq_k fun K3 hK3 => rgn ?_
  refine VlS (.slice va l.length vc) ?_
  refine VlS (.int .i64 (l.length : Int)) ?_
  refine VbT ?_
  refine WL.nil (hK3 _ _ ?_)
  refine wp_cond_true rfl ?_
  refine wp_seq_k fun K4 hK4 => rgn ?_
  refine VlS (.int .i64 3) ?_
  refine VlS (.int .i64 0) ?_
  refine WL.nil (hK4 _ _ ?_)
  refine wp_ret ?_
  go_ret2
  exact ⟨by rw [HR.out]; rfl, Below.refl _ _⟩
 ·have hM' : ¬ (1024 : Int) < (l.length : Int) := by omega
  rw [if_neg hM] at HR
  refine wp_seq_k fun K1 hK1 => rgn ?_
  refine VlS (.int .i64 0) ?_
  refine VlS (.int .i64 0) ?_
  refine WL.nil (hK1 _ _ ?_)
  refine wp_seq_k fun K2 hK2 => ?_
  refine wp_seq_k fun K3 hK3 => rgn ?_
  refine VlS (.slice va l.length vc) ?_
  refine VlS (.int .i64 (l.length : Int)) ?_
  refine VbF ?_
  refine WL.nil (hK3 _ _ ?_)
  refine wp_cond_false rfl ?_
  refine wp_skip ?_
  refine hK2 _ _ ?_
  refine wp_seq_k fun K4 hK4 => rgn ?_
  refine WL.callF (by kernel_rfl) 91 _ _ rfl Tryz.in91 #[] (by simp) ?_
  refine (tab_any w).mono ?_
  rintro e w1 ⟨m, rfl, hT1, hm1, hB1⟩
  refine ⟨_, rfl, ?_⟩
  have hL1 := HL.out.below hB1
  simp only [Act.put, pqA, pqB, pqC]
  refine VlS (.map (some m)) ?_
  refine WL.nil (hK4 _ _ ?_)
  refine wp_seq_k fun K5 hK5 => ?_
  refine wp_seq_k fun K6 hK6 => rgn ?_
  refine VlS (.slice va l.length vc) ?_
  refine VlS (.int .i64 (l.length : Int)) ?_
  refine VlS (.int .i64 0) ?_
  refine WL.nil (hK6 _ _ ?_)
  refine wp_block ?_
  refine wp_loop (fun a wr => ∃ (t : Nat) (u2 u3 u5 u6 u7 u15 u16 u17 u18 u19 u20 u21 u22 u23 u24 u25 u26 u27 u28 u29 u30 u31 u32 : Value), a = { tmps := #[.slice va l.length vc, undef, u2, u3, .map (some m), u5, u6, u7, .slice va l.length vc, .int .i64 (l.length : Int), .bool false, .map (some m), .slice va l.length vc, .int .i64 (l.length : Int), .int .i64 (t : Int), u15, u16, u17, u18, u19, u20, u21, u22, u23, u24, u25, u26, u27, u28, u29, u30, u31, u32], defers := [] } ∧ t ≤ l.length ∧ chkF [] l = chkF (l.take t) (l.drop t) ∧ TabAt wr m ∧ OpsAt wr (.slice va l.length vc) l ∧ Below w.heap.size w wr) (fun a _ => l.length - (intOf (a.tmps.getD 14 undef)).toNat) ⟨0, .int .i64 0, .int .i64 0, undef, undef, undef, undef, undef, undef, undef, undef, undef, undef, undef, undef, undef, undef, undef, undef, undef, undef, undef, undef, undef, rfl, by omega, rfl, hT1, hL1, hB1⟩ ?_
  rintro a wr ⟨t, u2, u3, u5, u6, u7, u15, u16, u17, u18, u19, u20, u21, u22, u23, u24, u25, u26, u27, u28, u29, u30, u31, u32, rfl, ht, hC, hT, hL, hB⟩
  by_cases htl : t < l.length
  ·have htl' : (t : Int) < (l.length : Int) := by omega
   obtain ⟨gL, ofL, hva, hr⟩ := hL.at htl
   have hst := chkF_step l t htl
   have htk := hL.take (Nat.le_of_lt htl)
   have hmem : l.getD t zeroOp ∈ l := by simp [List.getD_eq_getElem?_getD, htl]
   have Hx := Keep.mk (Hok.out _ hmem)
   generalize l.getD t zeroOp = x at *
   have hwr1 : IntKind.i64.wrap ((t : Int) + 1) = (t : Int) + 1 := by rw [IntKind.wrap_i64]; have := Hlb.out; omega
   have HLl := Keep.mk hL
   have HBl := Keep.mk hB
   have HTl := Keep.mk hT
   have Hst := Keep.mk hst
   have Htk := Keep.mk htk
   clear hL hB hT hst htk hmem
   by_cases hW : wrongV (l.take t) x = 0
   ·refine wp_seq_k fun K7 hK7 => rgn ?_
    refine VbT ?_
    refine WL.nil (hK7 _ _ ?_)
    refine wp_seq_k fun K8 hK8 => ?_
    refine wp_cond_true rfl ?_
    refine wp_skip ?_
    refine hK8 _ _ ?_
    refine wp_seq_k fun K9 hK9 => ?_
    refine wp_block ?_
    refine wp_seq_k fun K10 hK10 => rgn ?_
    refine VlS (.int .i64 (t : Int)) ?_
    refine VlS (.pointer (some ⟨gL, ofL + t * 37, none⟩)) ?_
    refine WL.mid (by kernel_rfl) 119 (.tmp 17) rfl gL (ofL + t * 37) rfl (opL x) _ hr Tryz.underlying119 rfl (Tryz.size119L x) ?_
    rw [rng_load]
    simp only [Act.put, pqA, pqB, pqC]
    refine WL.new (by kernel_rfl) 119 rfl _ Tryz.new119 ?_
    simp only [Act.put, pqA, pqB, pqC]
    refine VlS (.int .i64 (t : Int)) ?_
    refine WL.storeR (by kernel_rfl) 119 (.tmp 6) (.tmp 18) rfl wr.heap.size (opA x) rfl rfl 119 (opA zeroOp) (Blk.new wr 119 _) (Tryz.size119B x) (opA_sizes _ _) (opA_one x) ?_
    have HX := Keep.mk ((Blk.new wr 119 (opA zeroOp)).setRow (opA x))
    have HG : Keep (Below wr.heap.size wr ((wr.alloc (.cells (opA zeroOp) 119)).setRow wr.heap.size (opA x))) := ⟨below_setRow (below_new wr _) (Nat.le_refl _) _⟩
    generalize (wr.alloc (.cells (opA zeroOp) 119)).setRow wr.heap.size (opA x) = wq at *
    obtain ⟨vF, hvF, hlk⟩ := (HTl.out.below HG.out).look2 x.kind
    have HvF := Keep.mk hvF
    have HS0 : Keep (∀ wx, Below wq.heap.size wq wx → wx.rangeAt wr.heap.size 0 (opL x) ∧ wx.cell? ⟨wr.heap.size, 0, none⟩ = some (.int .i64 x.kind) ∧ (Instr.lookup 143 (.map (some m)) (.int .i64 x.kind) false).run Tryz.prog wx = .ok vF wx) := ⟨fun wx hb => ⟨blk_range (HX.out.below hb HX.out.lt), (HX.out.below hb HX.out.lt).c 0 (opA_0 x), (hlk wx hb).1⟩⟩
    clear hvF hlk
    simp only [Act.put]
    refine WL.nil (hK10 _ _ ?_)
    refine wp_seq_k fun K11 hK11 => ?_
    have hD0 : Below wq.heap.size wq wq.drew := (Below.refl _ _).drew
    refine wp_region_held_drew (S := fun wx => wx.rangeAt wr.heap.size 0 (opL x) ∧ wx.cell? ⟨wr.heap.size, 0, none⟩ = some (.int .i64 x.kind) ∧ (Instr.lookup 143 (.map (some m)) (.int .i64 x.kind) false).run Tryz.prog wx = .ok vF wx) (by kernel_rfl) (HS0.out _ hD0) (fun hHeld => ?_)
    refine tkS (i := 0) (oi := ⟨some 19, Op.load 119 (Operand.tmp 6), 119, _, _, none⟩) (v := .agg (opL x).toArray) rfl (yieldsIf_load_mid (by rfl) 119 (Operand.tmp 6) rfl wr.heap.size 0 rfl (opL x) _ (fun w hS => hS.1) Tryz.underlying119 rfl (Tryz.size119L x)) hHeld ?_
    refine tkS (i := 1) (oi := ⟨some 20, Op.move (Operand.tmp 4), 143, _, _, none⟩) (v := .map (some m)) rfl (Or.inl ⟨by rfl, fun w hS => by obtain ⟨hs1, hs2, hs3⟩ := hS; go_simp⟩) hHeld ?_
    refine tkS (i := 2) (oi := ⟨some 21, Op.fieldAddr 119 (Operand.tmp 6) 0, 0, _, _, none⟩) (v := .pointer (some ⟨wr.heap.size, 0, none⟩)) rfl (Or.inl ⟨by rfl, fun w hS => by obtain ⟨hs1, hs2, hs3⟩ := hS; go_simp⟩) hHeld ?_
    refine tkS (i := 3) (oi := ⟨some 22, Op.load 3 (Operand.tmp 21), 3, _, _, none⟩) (v := .int .i64 x.kind) rfl (Or.inl ⟨by rfl, fun w hS => by obtain ⟨hs1, hs2, hs3⟩ := hS; go_simp⟩) hHeld ?_
    refine tkS (i := 4) (oi := ⟨some 23, Op.lookup 143 (Operand.tmp 20) (Operand.tmp 22) false, 146, _, _, none⟩) (v := vF) rfl (Or.inl ⟨by rfl, fun w hS => by obtain ⟨hs1, hs2, hs3⟩ := hS; go_simp⟩) hHeld ?_
    refine tkS (i := 5) (oi := ⟨some 24, Op.move (Operand.tmp 0), 48, _, _, none⟩) (v := .slice va l.length vc) rfl (Or.inl ⟨by rfl, fun w hS => by obtain ⟨hs1, hs2, hs3⟩ := hS; go_simp⟩) hHeld ?_
    refine tkS (i := 6) (oi := ⟨some 25, Op.move (Operand.tmp 5), 3, _, _, none⟩) (v := .int .i64 (t : Int)) rfl (Or.inl ⟨by rfl, fun w hS => by obtain ⟨hs1, hs2, hs3⟩ := hS; go_simp⟩) hHeld ?_
    refine tkS (i := 7) (oi := ⟨some 26, Op.slice 48 (Operand.tmp 24) none (some (Operand.tmp 25)) none, 48, _, _, none⟩) (v := .slice va t vc) rfl (yieldsIf_slice (by rfl) 48 (Operand.tmp 24) (Operand.tmp 25) rfl (.slice va l.length vc) (.int .i64 (t : Int)) (.slice va t vc) rfl rfl (sl_run23 _ _ _ t Htk.out.1)) hHeld ?_
    refine wpAnyH_ready (rs := [8]) (by kernel_rfl) (by simp) ?_
    refine AllReadyH.cons (o := ⟨some 27, Op.call { callee := Callee.value (Operand.func 92), args := #[Operand.tmp 19, Operand.tmp 23, Operand.tmp 26], argTypes := #[119, 146, 48] }, 26, _, _, none⟩) rfl (fun K hK => ?_) AllReadyH.nil
    rw [if_pos (by rfl)]
    refine wp_callF 92 _ _ rfl Tryz.in92 #[.agg (opA x), vF, .slice va t vc] (by simp [Act.eval, rng_load]) (fun vz wz => vz = .int .i64 (wrongV (l.take t) x) ∧ Below wq.heap.size wq wz) ?_ ?_
    ·refine (wrong_any x vF _ (l.take t) wq.drew (HvF.out.below hD0) Hx.out (Htk.out.2.below (HG.out.trans (hD0.mono HG.out.size))) (by have := Hlb.out; rw [List.length_take]; omega)).mono ?_
     rintro e wz ⟨rfl, h⟩
     exact ⟨_, rfl, rfl, hD0.trans (h.mono hD0.size)⟩
    rintro vz w7 ⟨rfl, h7⟩
    have HB7 := Keep.mk h7
    clear h7
    refine hK.out _ _ (HS0.out _ HB7.out) fun hHeld2 => ?_
    clear hK
    simp only [Act.put, pqA, pqB, pqC]
    refine tkS (i := 9) (oi := ⟨some 7, Op.assign (Operand.tmp 27), 26, _, _, none⟩) (v := .int .i64 (wrongV (l.take t) x)) rfl (Or.inl ⟨by rfl, fun w hS => by obtain ⟨hs1, hs2, hs3⟩ := hS; go_simp⟩) hHeld2 ?_
    refine wpAnyH_done (by kernel_rfl) ?_ _
    refine hK11 _ _ ?_
    refine wp_seq_k fun K12 hK12 => rgn ?_
    refine VlS (.int .i64 (wrongV (l.take t) x)) ?_
    refine VbF ?_
    refine WL.nil (hK12 _ _ ?_)
    refine wp_cond_false rfl ?_
    refine wp_skip ?_
    refine hK9 _ _ ?_
    refine rgn ?_
    refine VlS (.int .i64 ((t : Int) + 1)) ?_
    refine VlS (.int .i64 ((t : Int) + 1)) ?_
    refine WL.nil ?_
    rw [if_pos hW] at Hst
    have HB8 := Keep.mk (HG.out.trans (HB7.out.mono HG.out.size))
    refine ⟨⟨t + 1, u2, u3, .int .i64 (t : Int), .pointer (some ⟨wr.heap.size, 0, none⟩), .int .i64 (wrongV (l.take t) x), .bool true, .int .i64 (t : Int), .pointer (some ⟨gL, ofL + t * 37, none⟩), .agg (opA x), .agg (opL x).toArray, .map (some m), .pointer (some ⟨wr.heap.size, 0, none⟩), .int .i64 x.kind, vF, .slice va l.length vc, .int .i64 (t : Int), .slice va t vc, .int .i64 (wrongV (l.take t) x), .int .i64 (wrongV (l.take t) x), .bool false, u30, u31, .int .i64 ((t : Int) + 1), rfl, by omega, hC.trans Hst.out, HTl.out.below HB8.out, HLl.out.below HB8.out, HBl.out.trans (HB8.out.mono HBl.out.size)⟩, ?_⟩
    simp only [intOf]; show l.length - ((t : Int) + 1).toNat < l.length - ((t : Int)).toNat; omega
   ·refine wp_seq_k fun K13 hK13 => rgn ?_
    refine VbT ?_
    refine WL.nil (hK13 _ _ ?_)
    refine wp_seq_k fun K14 hK14 => ?_
    refine wp_cond_true rfl ?_
    refine wp_skip ?_
    refine hK14 _ _ ?_
    refine wp_seq_k fun K15 hK15 => ?_
    refine wp_block ?_
    refine wp_seq_k fun K16 hK16 => rgn ?_
    refine VlS (.int .i64 (t : Int)) ?_
    refine VlS (.pointer (some ⟨gL, ofL + t * 37, none⟩)) ?_
    refine WL.mid (by kernel_rfl) 119 (.tmp 17) rfl gL (ofL + t * 37) rfl (opL x) _ hr Tryz.underlying119 rfl (Tryz.size119L x) ?_
    rw [rng_load]
    simp only [Act.put, pqA, pqB, pqC]
    refine WL.new (by kernel_rfl) 119 rfl _ Tryz.new119 ?_
    simp only [Act.put, pqA, pqB, pqC]
    refine VlS (.int .i64 (t : Int)) ?_
    refine WL.storeR (by kernel_rfl) 119 (.tmp 6) (.tmp 18) rfl wr.heap.size (opA x) rfl rfl 119 (opA zeroOp) (Blk.new wr 119 _) (Tryz.size119B x) (opA_sizes _ _) (opA_one x) ?_
    have HX := Keep.mk ((Blk.new wr 119 (opA zeroOp)).setRow (opA x))
    have HG : Keep (Below wr.heap.size wr ((wr.alloc (.cells (opA zeroOp) 119)).setRow wr.heap.size (opA x))) := ⟨below_setRow (below_new wr _) (Nat.le_refl _) _⟩
    generalize (wr.alloc (.cells (opA zeroOp) 119)).setRow wr.heap.size (opA x) = wq at *
    obtain ⟨vF, hvF, hlk⟩ := (HTl.out.below HG.out).look2 x.kind
    have HvF := Keep.mk hvF
    have HS0 : Keep (∀ wx, Below wq.heap.size wq wx → wx.rangeAt wr.heap.size 0 (opL x) ∧ wx.cell? ⟨wr.heap.size, 0, none⟩ = some (.int .i64 x.kind) ∧ (Instr.lookup 143 (.map (some m)) (.int .i64 x.kind) false).run Tryz.prog wx = .ok vF wx) := ⟨fun wx hb => ⟨blk_range (HX.out.below hb HX.out.lt), (HX.out.below hb HX.out.lt).c 0 (opA_0 x), (hlk wx hb).1⟩⟩
    clear hvF hlk
    simp only [Act.put]
    refine WL.nil (hK16 _ _ ?_)
    refine wp_seq_k fun K17 hK17 => ?_
    have hD0 : Below wq.heap.size wq wq.drew := (Below.refl _ _).drew
    refine wp_region_held_drew (S := fun wx => wx.rangeAt wr.heap.size 0 (opL x) ∧ wx.cell? ⟨wr.heap.size, 0, none⟩ = some (.int .i64 x.kind) ∧ (Instr.lookup 143 (.map (some m)) (.int .i64 x.kind) false).run Tryz.prog wx = .ok vF wx) (by kernel_rfl) (HS0.out _ hD0) (fun hHeld => ?_)
    refine tkS (i := 0) (oi := ⟨some 19, Op.load 119 (Operand.tmp 6), 119, _, _, none⟩) (v := .agg (opL x).toArray) rfl (yieldsIf_load_mid (by rfl) 119 (Operand.tmp 6) rfl wr.heap.size 0 rfl (opL x) _ (fun w hS => hS.1) Tryz.underlying119 rfl (Tryz.size119L x)) hHeld ?_
    refine tkS (i := 1) (oi := ⟨some 20, Op.move (Operand.tmp 4), 143, _, _, none⟩) (v := .map (some m)) rfl (Or.inl ⟨by rfl, fun w hS => by obtain ⟨hs1, hs2, hs3⟩ := hS; go_simp⟩) hHeld ?_
    refine tkS (i := 2) (oi := ⟨some 21, Op.fieldAddr 119 (Operand.tmp 6) 0, 0, _, _, none⟩) (v := .pointer (some ⟨wr.heap.size, 0, none⟩)) rfl (Or.inl ⟨by rfl, fun w hS => by obtain ⟨hs1, hs2, hs3⟩ := hS; go_simp⟩) hHeld ?_
    refine tkS (i := 3) (oi := ⟨some 22, Op.load 3 (Operand.tmp 21), 3, _, _, none⟩) (v := .int .i64 x.kind) rfl (Or.inl ⟨by rfl, fun w hS => by obtain ⟨hs1, hs2, hs3⟩ := hS; go_simp⟩) hHeld ?_
    refine tkS (i := 4) (oi := ⟨some 23, Op.lookup 143 (Operand.tmp 20) (Operand.tmp 22) false, 146, _, _, none⟩) (v := vF) rfl (Or.inl ⟨by rfl, fun w hS => by obtain ⟨hs1, hs2, hs3⟩ := hS; go_simp⟩) hHeld ?_
    refine tkS (i := 5) (oi := ⟨some 24, Op.move (Operand.tmp 0), 48, _, _, none⟩) (v := .slice va l.length vc) rfl (Or.inl ⟨by rfl, fun w hS => by obtain ⟨hs1, hs2, hs3⟩ := hS; go_simp⟩) hHeld ?_
    refine tkS (i := 6) (oi := ⟨some 25, Op.move (Operand.tmp 5), 3, _, _, none⟩) (v := .int .i64 (t : Int)) rfl (Or.inl ⟨by rfl, fun w hS => by obtain ⟨hs1, hs2, hs3⟩ := hS; go_simp⟩) hHeld ?_
    refine tkS (i := 7) (oi := ⟨some 26, Op.slice 48 (Operand.tmp 24) none (some (Operand.tmp 25)) none, 48, _, _, none⟩) (v := .slice va t vc) rfl (yieldsIf_slice (by rfl) 48 (Operand.tmp 24) (Operand.tmp 25) rfl (.slice va l.length vc) (.int .i64 (t : Int)) (.slice va t vc) rfl rfl (sl_run23 _ _ _ t Htk.out.1)) hHeld ?_
    refine wpAnyH_ready (rs := [8]) (by kernel_rfl) (by simp) ?_
    refine AllReadyH.cons (o := ⟨some 27, Op.call { callee := Callee.value (Operand.func 92), args := #[Operand.tmp 19, Operand.tmp 23, Operand.tmp 26], argTypes := #[119, 146, 48] }, 26, _, _, none⟩) rfl (fun K hK => ?_) AllReadyH.nil
    rw [if_pos (by rfl)]
    refine wp_callF 92 _ _ rfl Tryz.in92 #[.agg (opA x), vF, .slice va t vc] (by simp [Act.eval, rng_load]) (fun vz wz => vz = .int .i64 (wrongV (l.take t) x) ∧ Below wq.heap.size wq wz) ?_ ?_
    ·refine (wrong_any x vF _ (l.take t) wq.drew (HvF.out.below hD0) Hx.out (Htk.out.2.below (HG.out.trans (hD0.mono HG.out.size))) (by have := Hlb.out; rw [List.length_take]; omega)).mono ?_
     rintro e wz ⟨rfl, h⟩
     exact ⟨_, rfl, rfl, hD0.trans (h.mono hD0.size)⟩
    rintro vz w7 ⟨rfl, h7⟩
    have HB7 := Keep.mk h7
    clear h7
    refine hK.out _ _ (HS0.out _ HB7.out) fun hHeld2 => ?_
    clear hK
    simp only [Act.put, pqA, pqB, pqC]
    refine tkS (i := 9) (oi := ⟨some 7, Op.assign (Operand.tmp 27), 26, _, _, none⟩) (v := .int .i64 (wrongV (l.take t) x)) rfl (Or.inl ⟨by rfl, fun w hS => by obtain ⟨hs1, hs2, hs3⟩ := hS; go_simp⟩) hHeld2 ?_
    refine wpAnyH_done (by kernel_rfl) ?_ _
    refine hK17 _ _ ?_
    refine wp_seq_k fun K18 hK18 => rgn ?_
    refine VlS (.int .i64 (wrongV (l.take t) x)) ?_
    refine VbT ?_
    refine WL.nil (hK18 _ _ ?_)
    refine wp_cond_true rfl ?_
    refine wp_seq_k fun K19 hK19 => rgn ?_
    refine VlS (.int .i64 (wrongV (l.take t) x)) ?_
    refine VlS (.int .i64 (t : Int)) ?_
    refine VlS (.int .i64 (wrongV (l.take t) x)) ?_
    refine VlS (.int .i64 (t : Int)) ?_
    refine WL.nil (hK19 _ _ ?_)
    refine wp_ret ?_
    rw [if_neg hW] at Hst
    go_ret2
    exact ⟨by rw [HR.out, hC, Hst.out]; rfl, HBl.out.trans ((HG.out.trans (HB7.out.mono HG.out.size)).mono HBl.out.size)⟩
  ·obtain rfl : t = l.length := by omega
   have htl' : ¬ (l.length : Int) < (l.length : Int) := by omega
   refine wp_seq_k fun K20 hK20 => rgn ?_
   refine VbF ?_
   refine WL.nil (hK20 _ _ ?_)
   refine wp_seq_k fun K21 hK21 => ?_
   refine wp_cond_false rfl ?_
   refine wp_exit ?_
   refine hK5 _ _ ?_
   refine wp_seq_k fun K22 hK22 => rgn ?_
   refine VlS (.int .i64 0) ?_
   refine VlS (.int .i64 0) ?_
   refine WL.nil (hK22 _ _ ?_)
   refine wp_ret ?_
   go_ret2
   exact ⟨by rw [HR.out, hC, List.drop_length]; rfl, hB⟩

end Go.Proofs.YthlohkgdmfkpeaaGreat.Nd
namespace Go.Proofs.YthlohkgdmfkpeaaGreat.Nd
open Go.RowKit
set_option linter.unusedSimpArgs false


end Go.Proofs.YthlohkgdmfkpeaaGreat.Nd
namespace Go.Proofs.YthlohkgdmfkpeaaGreat.Nd
open Go.RowKit
set_option linter.unusedSimpArgs false


end Go.Proofs.YthlohkgdmfkpeaaGreat.Nd
namespace Go.Proofs.YthlohkgdmfkpeaaGreat.Nd
open Go.RowKit
set_option linter.unusedSimpArgs false

end Go.Proofs.YthlohkgdmfkpeaaGreat.Nd
namespace Go.Proofs.YthlohkgdmfkpeaaGreat.Nd
open Go.RowKit
set_option linter.unusedSimpArgs false

end Go.Proofs.YthlohkgdmfkpeaaGreat.Nd
namespace Go.Proofs.YthlohkgdmfkpeaaGreat.Nd
open Go.RowKit
set_option linter.unusedSimpArgs false
set_option linter.unusedVariables false

section
variable {P : Program} {ops : Array Oper} {rest : List Oper} {o : Oper} {a : Act} {w : World} {Q : Exit → Act → World → Prop}
end
def wr (q : Nat) : PanicEntry := { v := .iface 103 (.agg #[err q]), recovered := false }
theorem Tryz.in88 (w : World) (vs : Array Value) : (callFunc 88 vs).run Tryz.prog w = .ok (.enter 88 vs) w := by kernel_rfl
theorem Tryz.in89 (w : World) (vs : Array Value) : (callFunc 89 vs).run Tryz.prog w = .ok (.enter 89 vs) w := by kernel_rfl
theorem isAuthor_any (x : Int) (w : World) : Calls Tryz.prog 88 #[.int .i64 x] w fun e w' => e = .returned (.bool (decide (1 ≤ x ∧ x ≤ 8))) ∧ w' = w := by
 go_enter Tryz.func88, Tryz.ntmps88
 refine wp_seq_k fun K1 hK1 => rgn ?_
 refine VbF ?_
 refine WL.nil (hK1 _ _ ?_)
 refine wp_seq_k fun K2 hK2 => rgn ?_
 refine VlS (.int .i64 x) ?_
 by_cases h1_1 : 1 ≤ x
 ·skip
  refine VbT ?_
  refine VbT ?_
  refine VlS (.int .i64 x) ?_
  by_cases h1_4 : x ≤ 8
  ·skip
   refine VbT ?_
   refine VbT ?_
   refine VbT ?_
   refine WL.nil (hK2 _ _ ?_)
   refine wp_ret ?_
   go_ret
   exact ⟨by simp [*], rfl⟩
  ·skip
   refine VbF ?_
   refine VbF ?_
   refine VbF ?_
   refine WL.nil (hK2 _ _ ?_)
   refine wp_ret ?_
   go_ret
   exact ⟨by simp [*], rfl⟩
 ·skip
  refine VbF ?_
  refine VbF ?_
  refine SkS ?_
  refine SkS ?_
  refine VbF ?_
  refine VbF ?_
  refine WL.nil (hK2 _ _ ?_)
  refine wp_ret ?_
  go_ret
  exact ⟨by simp [*], rfl⟩
theorem isAuthor_yes (x : Int) (w : World) (h : 1 ≤ x ∧ x ≤ 8) : Calls Tryz.prog 88 #[.int .i64 x] w fun e w' => e = .returned (.bool true) ∧ w' = w := by
 have := isAuthor_any x w
 rw [decide_eq_true h] at this
 exact this
theorem isAuthor_no (x : Int) (w : World) (h : ¬ (1 ≤ x ∧ x ≤ 8)) : Calls Tryz.prog 88 #[.int .i64 x] w fun e w' => e = .returned (.bool false) ∧ w' = w := by
 have := isAuthor_any x w
 rw [decide_eq_false h] at this
 exact this
theorem clockFits_any (x y : Int) (w : World) : Calls Tryz.prog 89 #[.int .i64 x, .int .i64 y] w fun e w' => e = .returned (.bool ((x == 1) == (y == 0))) ∧ w' = w := by
 go_enter Tryz.func89, Tryz.ntmps89
 refine wp_seq_k fun K1 hK1 => rgn ?_
 refine VbF ?_
 refine WL.nil (hK1 _ _ ?_)
 refine wp_seq_k fun K2 hK2 => rgn ?_
 refine VlS (.int .i64 x) ?_
 refine VlS (.bool (x == 1)) ?_
 refine VlS (.int .i64 y) ?_
 refine VlS (.bool (y == 0)) ?_
 refine VlS (.bool ((x == 1) == (y == 0))) ?_
 refine VlS (.bool ((x == 1) == (y == 0))) ?_
 refine WL.nil (hK2 _ _ ?_)
 refine wp_ret ?_
 go_ret
 exact ⟨rfl, rfl⟩
theorem clockFits_is (x y : Int) (w : World) (b : Bool) (h : ((x == 1) == (y == 0)) = b) : Calls Tryz.prog 89 #[.int .i64 x, .int .i64 y] w fun e w' => e = .returned (.bool b) ∧ w' = w := by
 have := clockFits_any x y w
 rw [h] at this
 exact this
end Go.Proofs.YthlohkgdmfkpeaaGreat.Nd
namespace Go.Proofs.YthlohkgdmfkpeaaGreat.Nd.Sh
open Go.RowKit

def Blk (w : World) (b : Nat) (T : TypeId) (cs : Array Value) : Prop := w.heap[b]? = some (.cells cs T (0, 0))

theorem Blk.lt {w : World} {b : Nat} {T : TypeId} {cs : Array Value} (h : Blk w b T cs) : b < w.heap.size := (Array.getElem?_eq_some_iff.1 h).1
theorem Blk.cell {w : World} {b : Nat} {T : TypeId} {cs : Array Value} (h : Blk w b T cs) (j : Nat) : w.cell? ⟨b, j, none⟩ = cs[j]? := cell_of_row w b j cs T (0, 0) h
theorem Blk.frozen {w : World} {b : Nat} {T : TypeId} {cs : Array Value} (h : Blk w b T cs) (j : Nat) : w.frozen? ⟨b, j, none⟩ = false := by
 unfold Blk at h; simp [World.frozen?, h]
theorem Blk.new (w : World) (T : TypeId) (cs : Array Value) : Blk (w.alloc (.cells cs T)) w.heap.size T cs := heap_alloc_new w _
theorem Blk.alloc {w : World} {b : Nat} {T : TypeId} {cs : Array Value} (h : Blk w b T cs) (o : Obj) : Blk (w.alloc o) b T cs := by
 unfold Blk; rw [Below.heap_alloc w o b h.lt]; exact h
theorem Blk.drew {w : World} {b : Nat} {T : TypeId} {cs : Array Value} (h : Blk w b T cs) : Blk w.drew b T cs := h
theorem Blk.below {w w' : World} {B b : Nat} {T : TypeId} {cs : Array Value} (h : Blk w b T cs) (hb : Below B w w') (hlt : b < B) : Blk w' b T cs := by
 unfold Blk; rw [hb.block b hlt]; exact h
theorem Blk.set {w : World} {b : Nat} {T : TypeId} {cs : Array Value} (h : Blk w b T cs) (j : Nat) (v : Value) : Blk (w.setCell ⟨b, j, none⟩ v) b T (cs.setIfInBounds j v) := by
 unfold Blk; rw [setCell_eq_setRow w b j cs T (0, 0) v h]; exact setRow_heap w b cs _ T (0, 0) h
theorem Blk.setRow {w : World} {b : Nat} {T : TypeId} {cs : Array Value} (h : Blk w b T cs) (cs' : Array Value) : Blk (w.setRow b cs') b T cs' := setRow_heap w b cs cs' T (0, 0) h
theorem Blk.setRow_ne {w : World} {b b' : Nat} {T : TypeId} {cs : Array Value} (h : Blk w b T cs) (hne : b ≠ b') (cs' : Array Value) : Blk (w.setRow b' cs') b T cs := by
 unfold Blk; rw [setRow_other w b' b cs' hne]; exact h
theorem below_setRow {B : Nat} {a w : World} (h : Below B a w) {b : Nat} (hb : B ≤ b) (cs : Array Value) : Below B a (w.setRow b cs) :=
 h.trans ⟨rfl, rfl, rfl, by simp, fun k hk => setRow_other w b k cs (by omega)⟩

def bytesA (n : Nat) (c : Nat → Int) : Array Value := Array.ofFn (n := n) fun i => .int .u8 (c i.val)

theorem bytesA_size (n : Nat) (c : Nat → Int) : (bytesA n c).size = n := by simp [bytesA]
theorem bytesA_get (n : Nat) (c : Nat → Int) (j : Nat) (h : j < n) : (bytesA n c)[j]? = some (.int .u8 (c j)) := by simp [bytesA, h]

theorem Tryz.size36 : (Tryz.prog.info? 36).map (·.size) = some 32 := by kernel_rfl

theorem Tryz.size36B (c : Nat → Int) : (Tryz.prog.info? 36).map (·.size) = some (bytesA 32 c).size := by rw [bytesA_size]; exact Tryz.size36

section
variable {P : Program}
theorem wpList_bld {ops : Array Oper} {rest : List Oper} {o : Oper} {a : Act} {w : World} {Q : Exit → Act → World → Prop} (hg : o.guard = none) (t : TypeId) (parts : Array (Nat × Operand)) (ho : o.op = .build t parts)
  (cells : Array Value) (hf : P.built t (parts.map fun (i, x) => (i, a.eval x)).toList = some cells)
  (h : wpList P ops Q rest (a.put o.dst (.agg cells)) w) : wpList P ops Q (o :: rest) a w :=
 wpList_build hg t parts ho (by rw [hf]; rfl) (by rw [hf]; exact h)
theorem wpList_new {ops : Array Oper} {rest : List Oper} {o : Oper} {a : Act} {w : World} {Q : Exit → Act → World → Prop} (hg : o.guard = none) (t : TypeId) (ho : o.op = .alloc t)
  (cells : Array Value) (hf : ∀ w : World, (Instr.alloc t true (.tuple #[])).run P w = .ok (.pointer (some ⟨w.heap.size, 0, none⟩)) (w.alloc (.cells cells t)))
  (h : wpList P ops Q rest (a.put o.dst (.pointer (some ⟨w.heap.size, 0, none⟩))) (w.alloc (.cells cells t))) : wpList P ops Q (o :: rest) a w := by
 refine wpList_plain hg fun K hK => ?_
 unfold Oper.wp execOp
 simp only [ho, Sem.run_bind, hf w, Result.andThen_ok]
 exact hK _ _ h
end
end Go.Proofs.YthlohkgdmfkpeaaGreat.Nd.Sh
namespace Go.Proofs.YthlohkgdmfkpeaaGreat.Nd.Sh

abbrev Hs := Vector UInt8 32

namespace Hs
def f (h : Hs) (i : Nat) : Int := ((h.toArray.getD i 0).toNat : Int)
theorem f_get (h : Hs) (i : Nat) (hi : i < 32) : h.f i = ((h[i]'hi).toNat : Int) := by
 unfold f
 rw [Array.getD_eq_getD_getElem?, Array.getElem?_eq_getElem (by rw [h.size_toArray]; exact hi)]
 rfl
theorem ext' {a b : Hs} (h : ∀ i, i < 32 → a.f i = b.f i) : a = b := by
 apply Vector.ext
 intro i hi
 have h1 := h i hi
 rw [f_get a i hi, f_get b i hi] at h1
 exact UInt8.toNat_inj.1 (by omega)
end Hs

def cmpG (a b : Nat → Int) : Nat → Nat → Int
 | 0, _ => 0
 | n + 1, i => if a i < b i then -1 else if b i < a i then 1 else cmpG a b n (i + 1)

theorem cmpG_neg (a b : Nat → Int) : ∀ n i, cmpG a b n i < 0 ↔ ∃ j, i ≤ j ∧ j < i + n ∧ (∀ k, i ≤ k → k < j → a k = b k) ∧ a j < b j
 | 0, i => by simp [cmpG]; omega
 | n + 1, i => by
  unfold cmpG
  by_cases h1 : a i < b i
  ·simp only [h1, if_true]
   exact ⟨fun _ => ⟨i, by omega, by omega, fun k _ _ => by omega, h1⟩, fun _ => by omega⟩
  ·by_cases h2 : b i < a i
   ·simp only [h1, h2, if_false, if_true]
    refine ⟨fun h => by omega, ?_⟩
    rintro ⟨j, hj, _, he, hl⟩
    rcases Nat.lt_or_eq_of_le hj with h | h
    ·have := he i (by omega) h; omega
    ·subst h; omega
   ·simp only [h1, h2, if_false]
    rw [cmpG_neg a b n (i + 1)]
    constructor
    ·rintro ⟨j, hj, hn, he, hl⟩
     refine ⟨j, by omega, by omega, fun k hk hkj => ?_, hl⟩
     rcases Nat.lt_or_eq_of_le hk with h | h
     ·exact he k (by omega) hkj
     ·subst h; omega
    ·rintro ⟨j, hj, hn, he, hl⟩
     rcases Nat.lt_or_eq_of_le hj with h | h
     ·exact ⟨j, by omega, by omega, fun k hk hkj => he k (by omega) hkj, hl⟩
     ·subst h; omega
theorem cmpG_zero (a b : Nat → Int) : ∀ n i, cmpG a b n i = 0 ↔ ∀ k, i ≤ k → k < i + n → a k = b k
 | 0, i => by simp [cmpG]; omega
 | n + 1, i => by
  unfold cmpG
  by_cases h1 : a i < b i
  ·simp only [h1, if_true]
   exact ⟨fun h => by omega, fun h => by have := h i (by omega) (by omega); omega⟩
  ·by_cases h2 : b i < a i
   ·simp only [h1, h2, if_false, if_true]
    exact ⟨fun h => by omega, fun h => by have := h i (by omega) (by omega); omega⟩
   ·simp only [h1, h2, if_false]
    rw [cmpG_zero a b n (i + 1)]
    constructor
    ·intro h k hk hn
     rcases Nat.lt_or_eq_of_le hk with h' | h'
     ·exact h k (by omega) (by omega)
     ·subst h'; omega
    ·intro h k hk hn
     exact h k (by omega) (by omega)
theorem cmpG_eq_skip (a b : Nat → Int) : ∀ i n, (∀ k, k < i → a k = b k) → i ≤ n → cmpG a b n 0 = cmpG a b (n - i) i := by
 intro i
 induction i with
 | zero => intro n _ _; rfl
 | succ i ih =>
  intro n h hn
  rw [ih n (fun k hk => h k (by omega)) (by omega)]
  obtain ⟨m, hm⟩ : ∃ m, n - i = m + 1 := ⟨n - i - 1, by omega⟩
  rw [hm, show n - (i + 1) = m by omega]
  have := h i (by omega)
  rw [cmpG, if_neg (by omega), if_neg (by omega)]
theorem cmpG_at (a b : Nat → Int) (i n : Nat) (h : ∀ k, k < i → a k = b k) (hi : i < n) (hne : a i ≠ b i) : cmpG a b n 0 = if a i < b i then -1 else 1 := by
 rw [cmpG_eq_skip a b i n h (by omega)]
 obtain ⟨m, hm⟩ : ∃ m, n - i = m + 1 := ⟨n - i - 1, by omega⟩
 rw [hm, cmpG]
 by_cases h1 : a i < b i
 ·rw [if_pos h1, if_pos h1]
 ·rw [if_neg h1, if_neg h1, if_pos (by omega)]

def cf (x y : Hs) : Int := cmpG x.f y.f 32 0
def Lt (x y : Hs) : Prop := cf x y < 0
theorem cf_zero (x y : Hs) : cf x y = 0 ↔ x = y := by
 unfold cf
 rw [cmpG_zero]
 constructor
 ·intro h; exact Hs.ext' fun i hi => h i (by omega) (by omega)
 ·rintro rfl; intros; rfl
theorem Lt.trans {x y z : Hs} (h1 : Lt x y) (h2 : Lt y z) : Lt x z := by
 unfold Lt cf at *
 rw [cmpG_neg] at *
 obtain ⟨i, _, hi, hie, hil⟩ := h1
 obtain ⟨j, _, hj, hje, hjl⟩ := h2
 rcases Nat.lt_trichotomy i j with h | h | h
 ·exact ⟨i, by omega, hi, fun k hk hki => (hie k hk hki).trans (hje k hk (by omega)), by rw [← hje i (by omega) h]; exact hil⟩
 ·subst h; exact ⟨i, by omega, hi, fun k hk hki => (hie k hk hki).trans (hje k hk hki), by omega⟩
 ·exact ⟨j, by omega, hj, fun k hk hkj => (hie k hk (by omega)).trans (hje k hk hkj), by rw [hie j (by omega) h]; exact hjl⟩
theorem Lt.irrefl (x : Hs) : ¬ Lt x x := by
 have := (cf_zero x x).2 rfl
 unfold Lt; omega
theorem Lt.ne {x y : Hs} (h : Lt x y) : x ≠ y := fun e => Lt.irrefl x (e ▸ h)


def once : List Hs → List Hs
 | [] => []
 | [x] => [x]
 | x :: y :: r => if x = y then once (y :: r) else x :: once (y :: r)

end Go.Proofs.YthlohkgdmfkpeaaGreat.Nd.Sh
namespace Go.Proofs.YthlohkgdmfkpeaaGreat.Nd.Sh
open Go.RowKit Go.Sort

theorem Tryz.cells5q : Tryz.prog.cellsOf 5 = 1 := by kernel_rfl
theorem Tryz.isAgg5q (w : World) : (isAgg 5).run Tryz.prog w = .ok false w := by kernel_rfl
theorem Tryz.size5q : (Tryz.prog.info? 5).map (·.size) = some 1 := by kernel_rfl
theorem run_part5q (c : Nat → Int) (i : Nat) (hi : i < 32) (w : World) : (part 5 (bytesA 32 c) i).run Tryz.prog w = .ok (.int .u8 (c i)) w := by
 unfold part
 rw [Sem.run_bind, Tryz.isAgg5q]
 simp [Result.andThen, bytesA_get 32 c i hi]
theorem run_items2 (c e : Nat → Int) (d : Nat) (w : World) : ∀ is : List Nat, (∀ i ∈ is, i < 32) → (Op.eqItems (d + 1) 5 1 (bytesA 32 c) (bytesA 32 e) is).run Tryz.prog w = .ok (is.all fun i => c i == e i) w
 | [], _ => by simp [Op.eqItems]
 | i :: is, h => by
  have hi := h i (by simp)
  have ih := run_items2 c e d w is (fun j hj => h j (by simp [hj]))
  simp only [Op.eqItems, Sem.run_bind, Nat.mul_one, run_part5q c i hi, run_part5q e i hi, Result.andThen_ok]
  rw [run_equalIn_int (P := Tryz.prog) (w := w) d 5 .u8 .u8 (c i) (e i) Tryz.underlying5]
  by_cases hh : c i = e i
  ·simp [Result.andThen_ok, ih, hh]
  ·simp [Result.andThen_ok, hh]
theorem run_equal_arr2 (c e : Nat → Int) (w : World) : (Op.equalIn 10000 36 (.agg (bytesA 32 c)) (.agg (bytesA 32 e))).run Tryz.prog w = .ok ((List.range 32).all fun i => c i == e i) w := by
 obtain ⟨i, hi, _⟩ := Option.map_eq_some_iff.1 Tryz.size5q
 rw [run_equalIn_array (P := Tryz.prog) w 9999 _ _ Tryz.underlying36 hi, Tryz.cells5q]
 exact run_items2 c e 9998 w _ (fun j hj => List.mem_range.1 hj)
theorem all_eq_iff (x y : Hs) : ((List.range 32).all fun i => x.f i == y.f i) = decide (x = y) := by
 by_cases h : x = y
 ·subst h; simp
 ·rw [decide_eq_false h, Bool.eq_false_iff]
  intro h2
  refine h (Hs.ext' fun i hi => ?_)
  have := List.all_eq_true.1 h2 i (List.mem_range.2 hi)
  simpa using this
theorem run_eqlH (x y : Hs) (w : World) : (binOp .eql 36 (.agg (bytesA 32 x.f)) (.agg (bytesA 32 y.f))).run Tryz.prog w = .ok (.bool (decide (x = y))) w := by
 rw [run_eql_struct, run_equal_arr2, all_eq_iff]; rfl
theorem run_neqH (x y : Hs) (w : World) : (binOp .neq 36 (.agg (bytesA 32 x.f)) (.agg (bytesA 32 y.f))).run Tryz.prog w = .ok (.bool (!decide (x = y))) w := by
 rw [run_neq_struct, run_equal_arr2, all_eq_iff]; rfl

theorem grown_below (w : World) (q : Nat) (os : Array Obj) : Below w.heap.size w (grow (w.drewN q) os) where
 os := rfl
 tape := rfl
 output := rfl
 size := by simp [grow]
 block i hi := by simp [grow, Array.getElem?_append, hi]

theorem drewN_grown {w w0 : World} (h : ∃ os, w0 = grow w os) (k : Nat) : ∃ q os, w0.drewN k = grow (w.drewN q) os := by
 obtain ⟨os, rfl⟩ := h
 exact ⟨k, os, rfl⟩

set_option maxRecDepth 8000 in
set_option maxHeartbeats 400000 in
theorem cmpByte_any (a b : Int) (w : World) : Calls Tryz.prog 102 #[.int .u8 a, .int .u8 b] w fun e w' => e = .returned (.int .i64 (if a < b then -1 else if b < a then 1 else 0)) ∧ ∃ q, w' = w.drewN q := by
 have h52 : ∀ (z : Int) (w : World), Calls Tryz.prog 144 #[.int .u8 z] w fun e w' => e = .returned (.bool false) ∧ ∃ q, w' = w.drewN q := by
  intro z w
  go_enter Tryz.func144, Tryz.ntmps144
  go_wp2
  first
   | (go_quiet (fail); go_wp2; go_ret; exact ⟨rfl, nq, rfl⟩)
   | (go_ret; exact ⟨rfl, 0, rfl⟩)
 have walk : ∀ r : Int, (a < b ∧ r = -1) ∨ (¬ a < b ∧ b < a ∧ r = 1) ∨ (¬ a < b ∧ ¬ b < a ∧ r = 0) → Calls Tryz.prog 102 #[.int .u8 a, .int .u8 b] w fun e w' => e = .returned (.int .i64 r) ∧ ∃ q, w' = w.drewN q := by
  intro r hr
  have HR : Keep ((a < b ∧ r = -1) ∨ (¬ a < b ∧ b < a ∧ r = 1) ∨ (¬ a < b ∧ ¬ b < a ∧ r = 0)) := ⟨hr⟩
  clear hr
  go_enter Tryz.func102, Tryz.ntmps102
  go_wp2_with fail
  refine (h52 a w).mono ?_
  rintro e w1 ⟨rfl, q1, rfl⟩
  go_wp2_with fail
  refine (h52 b _).mono ?_
  rintro e w2 ⟨rfl, q2, rfl⟩
  rw [World.drewN_drewN]
  rcases HR.out with ⟨h1, rfl⟩ | ⟨h1, h2, rfl⟩ | ⟨h1, h2, rfl⟩
  ·go_wp2
   go_ret
   exact ⟨rfl, _, rfl⟩
  ·go_wp2
   go_ret
   exact ⟨rfl, _, rfl⟩
  ·go_wp2
   go_ret
   exact ⟨rfl, _, rfl⟩
 refine walk _ ?_
 by_cases h1 : a < b
 ·exact .inl ⟨h1, if_pos h1⟩
 ·by_cases h2 : b < a
  ·exact .inr (.inl ⟨h1, h2, by rw [if_neg h1, if_pos h2]⟩)
  ·exact .inr (.inr ⟨h1, h2, by rw [if_neg h1, if_neg h2]⟩)


set_option maxRecDepth 8000 in
set_option maxHeartbeats 400000 in
set_option maxRecDepth 20000 in
theorem compare_walk (A B : Array Value) (x y : Nat → Int) (E : Bool) (w : World) (hA : ∀ t, t < 32 → A[t]? = some (.int .u8 (x t))) (hB : ∀ t, t < 32 → B[t]? = some (.int .u8 (y t))) (hAs : A.size = 32) (hBs : B.size = 32)
  (heq : ∀ w, (binOp .eql 36 (.agg A) (.agg B)).run Tryz.prog w = .ok (.bool E) w) (hE1 : E = true → cmpG x y 32 0 = 0) (hE2 : E = false → ∃ t, t < 32 ∧ x t ≠ y t) :
  Calls Tryz.prog 86 #[.agg A, .agg B] w fun e w' => e = .returned (.int .i64 (cmpG x y 32 0)) ∧ ∃ q os, w' = grow (w.drewN q) os := by
 have HA : Keep (∀ t, t < 32 → A[t]? = some (.int .u8 (x t))) := ⟨hA⟩
 have HB : Keep (∀ t, t < 32 → B[t]? = some (.int .u8 (y t))) := ⟨hB⟩
 obtain ⟨r, hr⟩ : ∃ r, Keep (r = cmpG x y 32 0) := ⟨_, ⟨rfl⟩⟩
 rw [← hr.out] at hE1 ⊢
 have H1 : Keep (E = true → r = 0) := ⟨hE1⟩
 have H2 : Keep (E = false → ∃ t, t < 32 ∧ x t ≠ y t) := ⟨hE2⟩
 have hi1 : (Tryz.prog.info? 36).map (·.size) = some A.size := by rw [hAs]; exact Tryz.size36
 have hi2 : (Tryz.prog.info? 36).map (·.size) = some B.size := by rw [hBs]; exact Tryz.size36
 clear hE1 hE2 hA hB
 have hA1 : (w.alloc (.cells A 36)).heap.size = w.heap.size + 1 := by simp
 have hX : Blk ((w.alloc (.cells A 36)).alloc (.cells B 36)) w.heap.size 36 A := (Blk.new w 36 _).alloc _
 have hY : Blk ((w.alloc (.cells A 36)).alloc (.cells B 36)) (w.heap.size + 1) 36 B := by rw [← hA1]; exact Blk.new _ 36 _
 have hG : (w.alloc (.cells A 36)).alloc (.cells B 36) = grow (w.drewN 0) #[.cells A 36, .cells B 36] := by
  rw [alloc_eq_grow, alloc_eq_grow, grow_grow]; rfl
 have HG : Keep (∃ os, (w.alloc (.cells A 36)).alloc (.cells B 36) = grow w os) := ⟨_, hG⟩
 clear hA1 hG
 go_enter Tryz.func86, Tryz.ntmps86
 go_wp2_with (first | (refine wpList_boxA rfl 36 (.tmp 0) rfl A rfl ?_; refine wpList_boxA rfl 36 (.tmp 1) rfl B rfl ?_) | (refine wpList_load_row rfl 36 (.tmp 2) rfl w.heap.size rfl 36 A (0, 0) (.array 32 5) hX Tryz.underlying36 rfl hi1 ?_; refine wpList_load_row rfl 36 (.tmp 3) rfl (w.heap.size + 1) rfl 36 B (0, 0) (.array 32 5) hY Tryz.underlying36 rfl hi2 ?_))
 ·go_ret
  have := H1.out (by assumption)
  obtain ⟨os, hos⟩ := HG.out
  exact ⟨by rw [this]; rfl, 0, os, by rw [hos]; rfl⟩
 ·have hE : E = false := by first | assumption | (cases E <;> simp_all)
  obtain ⟨d, hd, hne⟩ := H2.out hE
  have HN : Keep (x d ≠ y d) := ⟨hne⟩
  clear hne
  generalize (w.alloc (.cells A 36)).alloc (.cells B 36) = w0 at *
  generalize w.heap.size = p at *
  go_loopw [5] (fun i wr => ∃ t n : Nat, t ≤ d ∧ i = .int .i64 (t : Int) ∧ (∀ k, k < t → x k = y k) ∧ wr = w0.drewN n) (fun i _ => d - (intOf i).toNat)
  case atStart => exact ⟨0, 0, by omega, rfl, fun k hk => by omega, by rw [World.drewN_zero]⟩
  case round =>
   obtain ⟨t, n, ht, rfl, hke, rfl⟩ := hrel
   have HK : Keep (∀ k, k < t → x k = y k) := ⟨hke⟩
   clear hke
   have c1 : (w0.drewN n).cell? ⟨p, t, none⟩ = some (.int .u8 (x t)) := by rw [World.cell?_drewN, hX.cell]; exact HA.out t (by omega)
   have c2 : (w0.drewN n).cell? ⟨p + 1, t, none⟩ = some (.int .u8 (y t)) := by rw [World.cell?_drewN, hY.cell]; exact HB.out t (by omega)
   obtain ⟨a, ha⟩ : ∃ a, Keep (x t = a) := ⟨_, ⟨rfl⟩⟩
   obtain ⟨b, hb⟩ : ∃ b, Keep (y t = b) := ⟨_, ⟨rfl⟩⟩
   rw [ha.out] at c1
   rw [hb.out] at c2
   obtain ⟨wn, hwn⟩ : ∃ wn, Keep (w0.drewN n = wn) := ⟨_, ⟨rfl⟩⟩
   rw [hwn.out] at c1 c2 ⊢
   have ht32 : (t : Int) < 32 := by omega
   go_wp2
   go_quiet (fail)
   by_cases hab : a = b
   ·have htd : t ≠ d := fun e => by subst e; exact HN.out (by rw [ha.out, hb.out, hab])
    go_wp2
    go_roundw
    case rel => exact ⟨t + 1, n + nq, by omega, by go_num, fun k hk => by
     rcases Nat.lt_or_eq_of_le (Nat.le_of_lt_succ hk) with h | h
     ·exact HK.out k h
     ·subst h; rw [ha.out, hb.out, hab], by rw [← hwn.out, World.drewN_drewN]⟩
    case measure => simp [intOf]; omega
   ·have hra : Keep (r = (if a < b then -1 else if b < a then 1 else 0)) := ⟨by
     rw [hr.out, cmpG_at x y t 32 HK.out (by omega) (by rw [ha.out, hb.out]; exact hab), ha.out, hb.out]
     by_cases h1 : a < b
     ·rw [if_pos h1, if_pos h1]
     ·rw [if_neg h1, if_neg h1, if_pos (by omega)]⟩
    have hcb : ∀ w, Calls Tryz.prog 102 #[.int .u8 a, .int .u8 b] w fun e w' => e = .returned (.int .i64 r) ∧ ∃ q, w' = w.drewN q := fun w => by rw [hra.out]; exact cmpByte_any a b w
    have d1 : (wn.drewN nq).cell? ⟨p, t, none⟩ = some (.int .u8 a) := by rw [World.cell?_drewN]; exact c1
    have d2 : (wn.drewN nq).cell? ⟨p + 1, t, none⟩ = some (.int .u8 b) := by rw [World.cell?_drewN]; exact c2
    obtain ⟨wm, hwm⟩ : ∃ wm, Keep (wn.drewN nq = wm) := ⟨_, ⟨rfl⟩⟩
    go_wp2
    rw [hwm.out] at d1 d2 ⊢
    go_quiet (first | (go_at_call 102; refine Calls.quiet_of (hcb _)))
    go_wp2
    go_ret
    refine ⟨rfl, ?_⟩
    rw [← hwm.out, ← hwn.out, World.drewN_drewN, World.drewN_drewN]
    exact drewN_grown HG.out _

theorem compare_any (x y : Hs) (w : World) : Calls Tryz.prog 86 #[.agg (bytesA 32 x.f), .agg (bytesA 32 y.f)] w fun e w' => e = .returned (.int .i64 (cf x y)) ∧ ∃ q os, w' = grow (w.drewN q) os :=
 compare_walk (bytesA 32 x.f) (bytesA 32 y.f) x.f y.f (decide (x = y)) w (fun _ ht => bytesA_get _ _ _ ht) (fun _ ht => bytesA_get _ _ _ ht) (bytesA_size _ _) (bytesA_size _ _) (run_eqlH x y)
  (fun h => (cf_zero x y).2 (of_decide_eq_true h)) (fun h => Classical.byContradiction fun hc => of_decide_eq_false h (Hs.ext' fun i hi => Classical.byContradiction fun hn => hc ⟨i, hi, hn⟩))


end Go.Proofs.YthlohkgdmfkpeaaGreat.Nd.Sh
namespace Go.Proofs.YthlohkgdmfkpeaaGreat.Nd.Sh
open Go.RowKit Go.Sort

def encH (h : Hs) : List Value := (bytesA 32 h.f).toList
theorem encH_len (h : Hs) : (encH h).length = 32 := by rw [encH, Array.length_toList, bytesA_size]
theorem encH_get (h : Hs) (j : Nat) (hj : j < 32) : (encH h)[j]? = some (.int .u8 (h.f j)) := by rw [encH, Array.getElem?_toList, bytesA_get _ _ _ hj]
theorem encH_arr (h : Hs) : (encH h).toArray = bytesA 32 h.f := by rw [encH, Array.toArray_toList]
def flatH (L : List Hs) : List Value := L.flatMap encH
theorem flatH_cons (x : Hs) (L : List Hs) : flatH (x :: L) = encH x ++ flatH L := rfl
theorem flatH_len : ∀ L : List Hs, (flatH L).length = L.length * 32
 | [] => rfl
 | x :: L => by rw [flatH_cons, List.length_append, encH_len, flatH_len L, List.length_cons]; omega
theorem flatH_get : ∀ (L : List Hs) (i : Nat) (hi : i < L.length) (j : Nat), j < 32 → (flatH L)[i * 32 + j]? = (encH L[i])[j]?
 | x :: L, 0, _, j, hj => by rw [flatH_cons, List.getElem?_append_left (by rw [encH_len]; omega)]; simp
 | x :: L, i + 1, hi, j, hj => by
  rw [flatH_cons, List.getElem?_append_right (by rw [encH_len]; omega), encH_len, show (i + 1) * 32 + j - 32 = i * 32 + j by omega]
  simpa using flatH_get L i (by simpa using hi) j hj

def HRow (w : World) (v : Value) (L : List Hs) : Prop :=
 (∃ a c, v = .slice a 0 c ∧ L = [] ∧ (a = none → c = 0)) ∨ ∃ b off cap, v = .slice (some ⟨b, off, none⟩) L.length cap ∧ L.length ≤ cap ∧ w.rangeAt b off (flatH L)
theorem rangeAt_elem {w : World} {b off : Nat} {L : List Hs} (h : w.rangeAt b off (flatH L)) (i : Nat) (hi : i < L.length) : w.rangeAt b (off + i * 32) (encH L[i]) := by
 intro j v hv
 have hj : j < 32 := by
  have := (List.getElem?_eq_some_iff.1 hv).1
  rwa [encH_len] at this
 rw [Nat.add_assoc]
 exact h _ v (by rw [flatH_get L i hi j hj]; exact hv)
theorem HRow.form {w : World} {v : Value} {L : List Hs} (h : HRow w v L) : ∃ a c, v = .slice a L.length c := by
 rcases h with ⟨a, c, rfl, rfl, _⟩ | ⟨b, off, cap, rfl, _⟩
 ·exact ⟨a, c, rfl⟩
 ·exact ⟨_, cap, rfl⟩
theorem HRow.at {w : World} {a : Option Addr} {n c : Nat} {L : List Hs} (h : HRow w (.slice a n c) L) (hL : 0 < L.length) : ∃ b off, a = some ⟨b, off, none⟩ ∧ n = L.length ∧ L.length ≤ c ∧ w.rangeAt b off (flatH L) := by
 rcases h with ⟨_, _, _, rfl, _⟩ | ⟨b, off, cap, h1, h2, h3⟩
 ·simp at hL
 ·injection h1 with h1 h4 h5
  subst h1 h4 h5
  exact ⟨b, off, rfl, rfl, h2, h3⟩
theorem rangeAt_lt {w : World} {b off : Nat} {L : List Hs} (h : w.rangeAt b off (flatH L)) (hL : 0 < L.length) : b < w.heap.size := by
 have := h 0 (.int .u8 (L[0].f 0)) ((flatH_get L 0 hL 0 (by omega)).trans (encH_get _ _ (by omega)))
 exact cell_lt this
theorem rangeAt_below {w w' : World} {B b off : Nat} {cs : List Value} (h : w.rangeAt b off cs) (hb : Below B w w') (hlt : b < B) : w'.rangeAt b off cs := fun j v hv => by
 rw [hb.cell (p := ⟨b, off + j, none⟩) hlt]; exact h j v hv
theorem HRow.below {w w' : World} {v : Value} {L : List Hs} (h : HRow w v L) (hb : Below w.heap.size w w') : HRow w' v L := by
 rcases h with h | ⟨b, off, cap, h1, h2, h3⟩
 ·exact .inl h
 ·by_cases hL : 0 < L.length
  ·exact .inr ⟨b, off, cap, h1, h2, rangeAt_below h3 hb (rangeAt_lt h3 hL)⟩
  ·have : L = [] := List.eq_nil_of_length_eq_zero (by omega)
   subst this
   exact .inl ⟨_, _, h1, rfl, fun h => by cases h⟩
theorem HRow.of_owns {w : World} {base n : Nat} {v : Value} {L : List Hs} (h : w.ownsRow base 36 32 v n (flatH L)) : HRow w v L := by
 have hn : n = L.length := by have := h.1; rw [flatH_len] at this; omega
 subst hn
 rcases h.2 with ⟨rfl, h0⟩ | ⟨g, cap, cur, rfl, _, hg, hc, _, _, ht⟩
 ·exact .inl ⟨none, 0, rfl, List.eq_nil_of_length_eq_zero h0, fun _ => rfl⟩
 ·refine .inr ⟨g, 0, cap, rfl, hc, fun j v hv => ?_⟩
  rw [Nat.zero_add, cell_of_row w g j cur 36 (0, 0) hg]
  rw [← ht, List.getElem?_take] at hv
  split at hv
  ·rwa [Array.getElem?_toList] at hv
  ·cases hv
theorem Tryz.size36L (h : Hs) : (Tryz.prog.info? 36).map (·.size) = some (encH h).length := by rw [encH_len]; exact Tryz.size36

end Go.Proofs.YthlohkgdmfkpeaaGreat.Nd.Sh
namespace Go.Proofs.YthlohkgdmfkpeaaGreat.Nd.Sh
open Go.RowKit Go.Sort

theorem run_neqL (x y : Hs) (w : World) : (binOp .neq 36 (.agg (encH x).toArray) (.agg (encH y).toArray)).run Tryz.prog w = .ok (.bool (!decide (x = y))) w := by
 rw [encH_arr, encH_arr]; exact run_neqH x y w
theorem rangeAt_drewN {w : World} {b o n : Nat} {cs : List Value} (h : w.rangeAt b o cs) : (w.drewN n).rangeAt b o cs := h
theorem rangeAt_drew {w : World} {b o : Nat} {cs : List Value} (h : w.rangeAt b o cs) : w.drew.rangeAt b o cs := h

set_option maxRecDepth 8000 in
set_option maxHeartbeats 1000000 in
theorem same_walk (n b1 o1 c1 b2 o2 c2 : Nat) (L M : List Hs) (w : World) (hL : L.length = n) (hM : M.length = n) (h1 : w.rangeAt b1 o1 (flatH L)) (h2 : w.rangeAt b2 o2 (flatH M)) (hn : (n : Int) ≤ 9223372036854775807) :
  Calls Tryz.prog 28 #[.slice (some ⟨b1, o1, none⟩) n c1, .slice (some ⟨b2, o2, none⟩) n c2] w fun e w' => e = .returned (.bool (decide (L = M))) ∧ ∃ q, w' = w.drewN q := by
 obtain ⟨R, hR⟩ : ∃ R, Keep (R = decide (L = M)) := ⟨_, ⟨rfl⟩⟩
 rw [← hR.out]
 have HL : Keep (L.length = n) := ⟨hL⟩
 have HM : Keep (M.length = n) := ⟨hM⟩
 have H1 : Keep (w.rangeAt b1 o1 (flatH L)) := ⟨h1⟩
 have H2 : Keep (w.rangeAt b2 o2 (flatH M)) := ⟨h2⟩
 have hu := Tryz.underlying36
 clear hL hM h1 h2
 go_enter Tryz.func28, Tryz.ntmps28
 go_wp2
 go_loopw [5] (fun i wr => ∃ t q : Nat, t ≤ n ∧ i = .int .i64 (t : Int) ∧ (∀ k, k < t → L[k]? = M[k]?) ∧ wr = w.drewN q) (fun i _ => n - (intOf i).toNat)
 case atStart => exact ⟨0, 0, by omega, rfl, fun k hk => by omega, by rw [World.drewN_zero]⟩
 case round =>
  obtain ⟨t, q, ht, rfl, hke, rfl⟩ := hrel
  have HK : Keep (∀ k, k < t → L[k]? = M[k]?) := ⟨hke⟩
  clear hke
  by_cases hlt : t < n
  ·have l1 : t < L.length := by rw [HL.out]; exact hlt
   have l2 : t < M.length := by rw [HM.out]; exact hlt
   have hneq := run_neqL L[t] M[t]
   have cA : (w.drewN q).drew.rangeAt b1 (o1 + t * 32) (encH L[t]) := rangeAt_drew (rangeAt_drewN (rangeAt_elem H1.out t l1))
   have cB : (w.drewN q).drew.rangeAt b2 (o2 + t * 32) (encH M[t]) := rangeAt_drew (rangeAt_drewN (rangeAt_elem H2.out t l2))
   have hi1 := Tryz.size36L L[t]
   have hi2 := Tryz.size36L M[t]
   obtain ⟨E, hE⟩ : ∃ E, Keep (E = !decide (L[t] = M[t])) := ⟨_, ⟨rfl⟩⟩
   rw [← hE.out] at hneq
   have HE : Keep (E = false → L[t]? = M[t]?) := ⟨fun h => by
    have := hE.out; rw [h] at this
    rw [List.getElem?_eq_getElem l1, List.getElem?_eq_getElem l2]; simpa using this⟩
   have HF : Keep (E = true → R = false) := ⟨fun h => by
    have := hE.out; rw [h] at this
    rw [hR.out]; refine decide_eq_false fun e => ?_
    subst e; simp at this⟩
   clear hE
   generalize encH L[t] = CA at *
   generalize encH M[t] = CB at *
   obtain ⟨wn, hwn⟩ : ∃ wn, Keep (w.drewN q = wn) := ⟨_, ⟨rfl⟩⟩
   rw [hwn.out] at cA cB ⊢
   have hlt' : (t : Int) < (n : Int) := by omega
   clear l1 l2
   go_wp2
   refine wp_region_held_drew (S := fun w' => w'.rangeAt b1 (o1 + t * 32) CA ∧ w'.rangeAt b2 (o2 + t * 32) CB) (by kernel_rfl) ⟨cA, cB⟩ (fun hHeld => ?_)
   refine TkG (i := 0) (oi := ⟨some 17, Op.move (Operand.tmp 0), 24, _, _, none⟩) (v := Value.slice (some ⟨b1, o1, none⟩) n c1) rfl hHeld ?_
   refine TkG (i := 1) (oi := ⟨some 18, Op.move (Operand.tmp 5), 3, _, _, none⟩) (v := .int .i64 (t : Int)) rfl hHeld ?_
   refine TkG (i := 2) (oi := ⟨some 19, Op.indexAddr 24 (Operand.tmp 17) (Operand.tmp 18), 0, _, _, none⟩) (v := .pointer (some ⟨b1, o1 + t * 32, none⟩)) rfl hHeld ?_
   refine tkS (i := 3) (oi := ⟨some 20, Op.load 36 (Operand.tmp 19), 36, _, _, none⟩) (v := .agg (CA).toArray) rfl (yieldsIf_load_mid (by rfl) 36 (Operand.tmp 19) rfl b1 (o1 + t * 32) rfl CA _ (fun w hS => hS.1) hu rfl hi1) hHeld ?_
   refine TkG (i := 4) (oi := ⟨some 21, Op.move (Operand.tmp 1), 24, _, _, none⟩) (v := Value.slice (some ⟨b2, o2, none⟩) n c2) rfl hHeld ?_
   refine TkG (i := 5) (oi := ⟨some 22, Op.move (Operand.tmp 5), 3, _, _, none⟩) (v := .int .i64 (t : Int)) rfl hHeld ?_
   refine TkG (i := 6) (oi := ⟨some 23, Op.indexAddr 24 (Operand.tmp 21) (Operand.tmp 22), 0, _, _, none⟩) (v := .pointer (some ⟨b2, o2 + t * 32, none⟩)) rfl hHeld ?_
   refine tkS (i := 7) (oi := ⟨some 24, Op.load 36 (Operand.tmp 23), 36, _, _, none⟩) (v := .agg (CB).toArray) rfl (yieldsIf_load_mid (by rfl) 36 (Operand.tmp 23) rfl b2 (o2 + t * 32) rfl CB _ (fun w hS => hS.2) hu rfl hi2) hHeld ?_
   refine TkG (i := 8) (oi := ⟨some 25, Op.binOp BinOp.neq 36 (Operand.tmp 20) (Operand.tmp 24) 36, 4, _, _, none⟩) (v := .bool E) rfl hHeld ?_
   refine wpAnyH_done (by kernel_rfl) ?_ _
   have HD : Keep (∃ k, wn.drew = w.drewN k) := ⟨_, by rw [← hwn.out, World.drew_drewN]⟩
   cases E with
   | true =>
    have HF2 : Keep (R = false) := ⟨HF.out rfl⟩
    clear HF HE
    go_wp2
    go_ret
    exact ⟨by rw [HF2.out]; rfl, HD.out⟩
   | false =>
    have HE2 : Keep (L[t]? = M[t]?) := ⟨HE.out rfl⟩
    clear HF HE
    go_wp2
    go_roundw
    case rel =>
     obtain ⟨k, hk⟩ := HD.out
     exact ⟨t + 1, k, by omega, by go_num, fun k hk => by
      rcases Nat.lt_or_eq_of_le (Nat.le_of_lt_succ hk) with h | h
      ·exact HK.out k h
      ·subst h; exact HE2.out, hk⟩
    case measure => simp [intOf]; omega
  ·obtain rfl : t = n := by omega
   go_wp2
   go_ret
   refine ⟨?_, q, rfl⟩
   rw [hR.out, decide_eq_true (List.ext_getElem? fun i => ?_)]
   ·rfl
   ·by_cases hi : i < t
    ·exact HK.out i hi
    ·have e1 := HL.out
     have e2 := HM.out
     rw [List.getElem?_eq_none (by omega), List.getElem?_eq_none (by omega)]

set_option maxRecDepth 8000 in
set_option maxHeartbeats 400000 in
theorem same_ne (a1 a2 : Option Addr) (n m c1 c2 : Nat) (w : World) (h : n ≠ m) : Calls Tryz.prog 28 #[.slice a1 n c1, .slice a2 m c2] w fun e w' => e = .returned (.bool false) ∧ w' = w := by
 have h' : ¬ ((n : Int) = (m : Int)) := by omega
 go_enter Tryz.func28, Tryz.ntmps28
 go_wp2
 go_ret
 exact ⟨rfl, rfl⟩
set_option maxRecDepth 8000 in
set_option maxHeartbeats 400000 in
theorem same_none (a1 a2 : Option Addr) (c1 c2 : Nat) (w : World) : Calls Tryz.prog 28 #[.slice a1 0 c1, .slice a2 0 c2] w fun e w' => e = .returned (.bool true) ∧ w' = w := by
 go_enter Tryz.func28, Tryz.ntmps28
 go_wp2
 refine wp_loop_rounds 1 ?_; rw [rounds_succ]
 go_wp2
 go_ret
 exact ⟨rfl, rfl⟩
theorem same_any (v1 v2 : Value) (L M : List Hs) (w : World) (h1 : HRow w v1 L) (h2 : HRow w v2 M) (hn : (L.length : Int) ≤ 9223372036854775807) :
  Calls Tryz.prog 28 #[v1, v2] w fun e w' => e = .returned (.bool (decide (L = M))) ∧ ∃ q, w' = w.drewN q := by
 obtain ⟨a1, c1, rfl⟩ := h1.form
 obtain ⟨a2, c2, rfl⟩ := h2.form
 by_cases hl : L.length = M.length
 ·by_cases h0 : 0 < L.length
  ·obtain ⟨b1, o1, rfl, _, _, r1⟩ := h1.at h0
   obtain ⟨b2, o2, rfl, _, _, r2⟩ := h2.at (by omega)
   rw [← hl]
   exact same_walk L.length b1 o1 c1 b2 o2 c2 L M w rfl hl.symm r1 r2 hn
  ·have e1 : L = [] := List.eq_nil_of_length_eq_zero (by omega)
   have e2 : M = [] := List.eq_nil_of_length_eq_zero (by omega)
   subst e1 e2
   exact (same_none a1 a2 c1 c2 w).mono fun e w' h => ⟨by rw [h.1]; simp, 0, by rw [h.2, World.drewN_zero]⟩
 ·exact (same_ne a1 a2 _ _ c1 c2 w hl).mono fun e w' h => ⟨by rw [h.1, decide_eq_false fun e => hl (by rw [e])], 0, by rw [h.2, World.drewN_zero]⟩
end Go.Proofs.YthlohkgdmfkpeaaGreat.Nd.Sh
namespace Go.Proofs.YthlohkgdmfkpeaaGreat.Nd.Sh
open Go.RowKit Go.Sort

def risesB (L : List Hs) : Bool := (List.range (L.length - 1)).all fun i => decide (cf (L.getD i default) (L.getD (i + 1) default) < 0)
theorem risesB_iff (L : List Hs) : risesB L = true ↔ ∀ i, i + 1 < L.length → cf (L.getD i default) (L.getD (i + 1) default) < 0 := by
 unfold risesB
 rw [List.all_eq_true]
 constructor
 ·intro h i hi
  exact of_decide_eq_true (h i (List.mem_range.2 (by omega)))
 ·intro h i hi
  exact decide_eq_true (h i (by have := List.mem_range.1 hi; omega))
theorem Tryz.enter86 (w : World) (vs : Array Value) : (callFunc 86 vs).run Tryz.prog w = .ok (.enter 86 vs) w := by kernel_rfl

set_option maxRecDepth 8000 in
set_option maxHeartbeats 1000000 in
theorem rising_walk (n b o c : Nat) (L : List Hs) (w : World) (hL : L.length = n) (h1 : w.rangeAt b o (flatH L)) (hn : (n : Int) ≤ 9223372036854775806) (h0 : 0 < n) :
  Calls Tryz.prog 90 #[.slice (some ⟨b, o, none⟩) n c] w fun e w' => e = .returned (.bool (risesB L)) ∧ Below w.heap.size w w' := by
 obtain ⟨R, hR⟩ : ∃ R, Keep (R = risesB L) := ⟨_, ⟨rfl⟩⟩
 rw [← hR.out]
 have HL : Keep (L.length = n) := ⟨hL⟩
 have H1 : Keep (w.rangeAt b o (flatH L)) := ⟨h1⟩
 have hblt : b < w.heap.size := rangeAt_lt h1 (by omega)
 have hu := Tryz.underlying36
 clear hL h1
 go_enter Tryz.func90, Tryz.ntmps90
 go_wp2
 go_loopw [3] (fun i wr => ∃ t : Nat, t + 1 ≤ n ∧ i = .int .i64 ((t + 1 : Nat) : Int) ∧ (∀ k, k < t → cf (L.getD k default) (L.getD (k + 1) default) < 0) ∧ Below w.heap.size w wr) (fun i _ => n - (intOf i).toNat)
 case atStart => exact ⟨0, by omega, rfl, fun k hk => by omega, Below.refl _ _⟩
 case round =>
  obtain ⟨t, ht, rfl, hke, hB⟩ := hrel
  have HK : Keep (∀ k, k < t → cf (L.getD k default) (L.getD (k + 1) default) < 0) := ⟨hke⟩
  clear hke
  by_cases hlt : t + 1 < n
  ·have l1 : t < L.length := by rw [HL.out]; omega
   have l2 : t + 1 < L.length := by rw [HL.out]; exact hlt
   have HC : Keep (∀ w, Calls Tryz.prog 86 #[.agg (encH L[t]).toArray, .agg (encH L[t + 1]).toArray] w fun e w' => e = .returned (.int .i64 (cf L[t] L[t + 1])) ∧ Below w.heap.size w w') := ⟨fun w => by
    rw [encH_arr, encH_arr]
    refine (compare_any _ _ w).mono fun e w' h => ⟨h.1, ?_⟩
    obtain ⟨q, os, rfl⟩ := h.2
    exact grown_below w q os⟩
   have HS : Keep (∀ wx, Below wr.heap.size wr wx → wx.rangeAt b (o + t * 32) (encH L[t]) ∧ wx.rangeAt b (o + (t + 1) * 32) (encH L[t + 1])) := ⟨fun wx hx => by
    have hb2 := hB.trans (hx.mono hB.size)
    exact ⟨rangeAt_below (rangeAt_elem H1.out t l1) hb2 hblt, rangeAt_below (rangeAt_elem H1.out (t + 1) l2) hb2 hblt⟩⟩
   have hi1 := Tryz.size36L L[t]
   have hi2 := Tryz.size36L L[t + 1]
   obtain ⟨r, hr⟩ : ∃ r, Keep (r = cf L[t] L[t + 1]) := ⟨_, ⟨rfl⟩⟩
   rw [← hr.out] at HC
   have HE : Keep (r = cf (L.getD t default) (L.getD (t + 1) default)) := ⟨by
    rw [hr.out, List.getD_eq_getElem?_getD, List.getD_eq_getElem?_getD, List.getElem?_eq_getElem l1, List.getElem?_eq_getElem l2]; rfl⟩
   clear hr
   generalize encH L[t] = CA at *
   generalize encH L[t + 1] = CB at *
   clear l1 l2
   rename World => wn
   have hD0 : Below wn.heap.size wn wn.drew := (Below.refl _ _).drew
   have hlt' : ((t + 1 : Nat) : Int) < (n : Int) := by omega
   have hs1 : ((t + 1 : Nat) : Int) - 1 = (t : Int) := by omega
   have hlt2 : (t : Int) < (n : Int) := by omega
   have hwr : IntKind.i64.wrap (t : Int) = (t : Int) := by rw [IntKind.wrap_i64]; omega
   have hng : ¬ ((t : Int) + 1 < 0) := by omega
   go_wp2
   refine wp_region_held_drew (S := fun w' => w'.rangeAt b (o + t * 32) CA ∧ w'.rangeAt b (o + (t + 1) * 32) CB) (by kernel_rfl) (HS.out _ hD0) (fun hHeld => ?_)
   refine TkG (i := 0) (oi := ⟨some 10, Op.move (Operand.tmp 0), 24, _, _, none⟩) (v := Value.slice (some ⟨b, o, none⟩) n c) rfl hHeld ?_
   refine TkG (i := 1) (oi := ⟨some 11, Op.move (Operand.tmp 3), 3, _, _, none⟩) (v := .int .i64 ((t + 1 : Nat) : Int)) rfl hHeld ?_
   refine TkG (i := 2) (oi := ⟨some 12, Op.binOp BinOp.sub 3 (Operand.tmp 11) (Operand.const (Value.int IntKind.i64 1)) 3, 3, _, _, none⟩) (v := .int .i64 (t : Int)) rfl hHeld ?_
   refine TkG (i := 3) (oi := ⟨some 13, Op.indexAddr 24 (Operand.tmp 10) (Operand.tmp 12), 0, _, _, none⟩) (v := .pointer (some ⟨b, o + t * 32, none⟩)) rfl hHeld ?_
   refine tkS (i := 4) (oi := ⟨some 14, Op.load 36 (Operand.tmp 13), 36, _, _, none⟩) (v := .agg (CA).toArray) rfl (yieldsIf_load_mid (by rfl) 36 (Operand.tmp 13) rfl b (o + t * 32) rfl CA _ (fun w hS => hS.1) hu rfl hi1) hHeld ?_
   refine TkG (i := 5) (oi := ⟨some 15, Op.move (Operand.tmp 0), 24, _, _, none⟩) (v := Value.slice (some ⟨b, o, none⟩) n c) rfl hHeld ?_
   refine TkG (i := 6) (oi := ⟨some 16, Op.move (Operand.tmp 3), 3, _, _, none⟩) (v := .int .i64 ((t + 1 : Nat) : Int)) rfl hHeld ?_
   refine TkG (i := 7) (oi := ⟨some 17, Op.indexAddr 24 (Operand.tmp 15) (Operand.tmp 16), 0, _, _, none⟩) (v := .pointer (some ⟨b, o + (t + 1) * 32, none⟩)) rfl hHeld ?_
   refine tkS (i := 8) (oi := ⟨some 18, Op.load 36 (Operand.tmp 17), 36, _, _, none⟩) (v := .agg (CB).toArray) rfl (yieldsIf_load_mid (by rfl) 36 (Operand.tmp 17) rfl b (o + (t + 1) * 32) rfl CB _ (fun w hS => hS.2) hu rfl hi2) hHeld ?_
   refine wpAnyH_ready (rs := [9]) (by kernel_rfl) (by simp) ?_
   refine AllReadyH.cons (o := ⟨some 19, Op.call { callee := Callee.value (Operand.func 86), args := #[Operand.tmp 14, Operand.tmp 18], argTypes := #[36, 36] }, 3, _, _, none⟩) rfl (fun K hK => ?_) AllReadyH.nil
   rw [if_pos (by rfl)]
   refine wp_callF 86 #[.tmp 14, .tmp 18] #[36, 36] rfl Tryz.enter86 #[.agg CA.toArray, .agg CB.toArray] (by simp [Act.eval]) (fun v w' => v = .int .i64 r ∧ Below wn.drew.heap.size wn.drew w') ((HC.out wn.drew).mono fun e w' h => ⟨_, h.1, rfl, h.2⟩) ?_
   rintro v w5 ⟨rfl, hb5⟩
   have hB5 : Below wn.heap.size wn w5 := hD0.trans (hb5.mono hD0.size)
   refine hK.out _ _ (HS.out _ hB5) fun hHeld5 => ?_
   clear hK
   simp only [Act.put, pqA, pqB, pqC]
   refine TkG (i := 10) (oi := ⟨some 20, Op.binOp BinOp.geq 3 (Operand.tmp 19) (Operand.const (Value.int IntKind.i64 0)) 3, 4, _, _, none⟩) (v := .bool (decide (0 ≤ r))) rfl hHeld5 ?_
   refine wpAnyH_done (by kernel_rfl) ?_ _
   have hBn : Below w.heap.size w w5 := hB.trans (hB5.mono hB.size)
   by_cases hr0 : 0 ≤ r
   ·have HF : Keep (R = false) := ⟨by
     rw [hR.out, Bool.eq_false_iff]; intro h
     have := (risesB_iff L).1 h t (by rw [HL.out]; exact hlt)
     rw [← HE.out] at this; omega⟩
    go_wp2
    go_ret
    exact ⟨by rw [HF.out]; rfl, hBn⟩
   ·have HE2 : Keep (cf (L.getD t default) (L.getD (t + 1) default) < 0) := ⟨by rw [← HE.out]; omega⟩
    go_wp2
    go_roundw
    case rel => exact ⟨t + 1, by omega, by go_num, fun k hk => by
      rcases Nat.lt_or_eq_of_le (Nat.le_of_lt_succ hk) with h | h
      ·exact HK.out k h
      ·subst h; exact HE2.out, hBn⟩
    case measure => simp [intOf]; omega
  ·obtain rfl : t + 1 = n := by omega
   go_wp2
   go_ret
   refine ⟨?_, hB⟩
   rw [hR.out, (risesB_iff L).2 fun i hi => HK.out i (by have := HL.out; omega)]
   rfl
set_option maxRecDepth 8000 in
set_option maxHeartbeats 400000 in
theorem rising_none (a1 : Option Addr) (c1 : Nat) (w : World) : Calls Tryz.prog 90 #[.slice a1 0 c1] w fun e w' => e = .returned (.bool true) ∧ w' = w := by
 go_enter Tryz.func90, Tryz.ntmps90
 go_wp2
 refine wp_loop_rounds 1 ?_; rw [rounds_succ]
 go_wp2
 go_ret
 exact ⟨rfl, rfl⟩
theorem rising_any (v : Value) (L : List Hs) (w : World) (h : HRow w v L) (hn : (L.length : Int) ≤ 9223372036854775806) :
  Calls Tryz.prog 90 #[v] w fun e w' => e = .returned (.bool (risesB L)) ∧ Below w.heap.size w w' := by
 obtain ⟨a1, c1, rfl⟩ := h.form
 by_cases h0 : 0 < L.length
 ·obtain ⟨b1, o1, rfl, _, _, r1⟩ := h.at h0
  exact rising_walk L.length b1 o1 c1 L w rfl r1 hn h0
 ·have e1 : L = [] := List.eq_nil_of_length_eq_zero (by omega)
  subst e1
  exact (rising_none a1 c1 w).mono fun e w' h => ⟨by rw [h.1, (risesB_iff []).2 fun i hi => by simp at hi], by rw [h.2]; exact Below.refl _ _⟩

end Go.Proofs.YthlohkgdmfkpeaaGreat.Nd.Sh
namespace Go.Proofs.YthlohkgdmfkpeaaGreat.Nd
open Go.RowKit
set_option linter.unusedSimpArgs false
set_option linter.unusedVariables false

abbrev Hs := Sh.Hs
def hB (h : Hs) : List Int := hl 32 h.f
def hs (c : List Int) : Hs := Vector.ofFn fun i : Fin 32 => UInt8.ofNat (c.getD i.val 0).toNat

def OwnH (w : World) (v : Value) (l : List Hs) : Prop := w.ownsRow 0 36 32 v l.length (Sh.flatH l)
theorem OwnH.form {w : World} {v : Value} {l : List Hs} (h : OwnH w v l) : (v = .slice none 0 0 ∧ l = []) ∨ ∃ g cap cur, v = .slice (some ⟨g, 0, none⟩) l.length cap ∧ Blk w g 36 cur ∧ l.length ≤ cap ∧ cur.toList.take (l.length * 32) = Sh.flatH l := by
 rcases h.2 with ⟨rfl, h0⟩ | ⟨g, cap, cur, rfl, _, h3, h4, h5, h6, h7⟩
 ·exact .inl ⟨rfl, List.eq_nil_of_length_eq_zero h0⟩
 ·exact .inr ⟨g, cap, cur, rfl, h3, h4, h7⟩
theorem OwnH.row {w : World} {v : Value} {l : List Hs} (h : OwnH w v l) : Sh.HRow w v l := Sh.HRow.of_owns h
theorem OwnH.lt {w : World} {v : Value} {l : List Hs} (h : OwnH w v l) : ∀ k, v.ownBlock = some k → k < w.heap.size := fun k hk => (World.ownsRow.lt h k hk).2
theorem OwnH.grown {w w' : World} {v : Value} {l : List Hs} {S : Nat → Prop} (h : OwnH w v l) (hg : Grown w w' S) (hs : ∀ k, v.ownBlock = some k → ¬ S k) : OwnH w' v l := by
 refine ⟨h.1, ?_⟩
 rcases h.2 with h1 | ⟨g, cap, cur, rfl, h2, h3, h4⟩
 ·exact .inl h1
 ·exact .inr ⟨g, cap, cur, rfl, h2, hg.blk h3 (hs g rfl), h4⟩
theorem OwnH.below {w w' : World} {v : Value} {l : List Hs} (h : OwnH w v l) (hb : Below w.heap.size w w') : OwnH w' v l := h.grown (Grown.below (S := fun _ => False) hb) fun _ _ h => h
end Go.Proofs.YthlohkgdmfkpeaaGreat.Nd
namespace Go.Proofs.YthlohkgdmfkpeaaGreat.Nd
open Go.RowKit
set_option linter.unusedSimpArgs false
set_option linter.unusedVariables false

end Go.Proofs.YthlohkgdmfkpeaaGreat.Nd
namespace Go.Proofs.YthlohkgdmfkpeaaGreat.Nd
open Go.RowKit
set_option linter.unusedSimpArgs false
set_option linter.unusedVariables false

end Go.Proofs.YthlohkgdmfkpeaaGreat.Nd
namespace Go.Proofs.YthlohkgdmfkpeaaGreat.Nd
open Go.RowKit
set_option linter.unusedSimpArgs false
set_option linter.unusedVariables false

structure NodeV where
 au : Int
 ck : Int
 ps : List Hs
 ops : List OpV
def ndA (au ck : Int) (vp vo : Value) : Array Value := #[.int .i64 au, .int .i64 ck, vp, vo]
theorem Tryz.size50 : (Tryz.prog.info? 50).map (·.size) = some 4 := by kernel_rfl
theorem Tryz.size50B (a c : Int) (x y : Value) : (Tryz.prog.info? 50).map (·.size) = some (ndA a c x y).size := Tryz.size50
theorem nd_0 (a c : Int) (x y : Value) : (ndA a c x y)[0]? = some (.int .i64 a) := rfl
theorem nd_1 (a c : Int) (x y : Value) : (ndA a c x y)[1]? = some (.int .i64 c) := rfl
theorem nd_2 (a c : Int) (x y : Value) : (ndA a c x y)[2]? = some x := rfl
theorem nd_3 (a c : Int) (x y : Value) : (ndA a c x y)[3]? = some y := rfl
end Go.Proofs.YthlohkgdmfkpeaaGreat.Nd
