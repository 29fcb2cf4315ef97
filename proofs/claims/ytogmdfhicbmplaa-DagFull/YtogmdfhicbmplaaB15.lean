import Derived.Test.YtogmdfhicbmplaaB14
namespace Go.Proofs.Ytogmdfhicbmplaa
open Go.RowKit
set_option linter.unusedSimpArgs false
set_option linter.unusedVariables false

theorem Try.in37 (w : World) (vs : Array Value) : (callFunc 37 vs).run Try.prog w = .ok (.enter 37 vs) w := by kernel_rfl
set_option maxRecDepth 8000 in
set_option maxHeartbeats 1000000 in
theorem rfit_any (d : Nat) (v : VX) (p : Value) (R : RG) (w : World) (hD : RRd w d R) (hI : RI R) (hr : HRow w p v.ps) (hL : (v.ps.length : Int) ≤ 9223372036854775806) : Calls Try.prog 37 #[ptr d, .agg (vtx v.id.f v.ck p)] w fun e w' => e = .returned (.tuple #[.int .i64 (fitV R.hs R.ws v).1, .int .i64 (fitV R.hs R.ws v).2]) ∧ Below w.heap.size w w' := by
 obtain ⟨pa, pc, rfl⟩ := hr.form
 obtain ⟨vv, hvv⟩ : ∃ a : Array Value, Keep (a = vtx v.id.f v.ck (.slice pa v.ps.length pc)) := ⟨_, ⟨rfl⟩⟩
 rw [← hvv.out]
 have HD := Keep.mk hD
 have HR := Keep.mk hr
 have HI := Keep.mk hI
 have HL := Keep.mk hL
 clear hD hr hI hL
 go_enter Try.func37, Try.ntmps37
 refine wp_seq_k fun K1 hK1 => rgn ?_
 refine WL.box (by kernel_rfl) 39 (.tmp 1) rfl (vv) rfl ?_
 obtain ⟨w1, hwn⟩ : ∃ wx, Keep (wx = w.alloc (.cells (vv) 39)) := ⟨_, ⟨rfl⟩⟩
 rw [← hwn.out]
 have HX1 : Keep (Blk w1 w.heap.size 39 (vv)) := ⟨by rw [hwn.out]; exact Blk.new _ _ _⟩
 have LB1 : Keep (Below w.heap.size w w1) := ⟨by rw [hwn.out]; exact below_new _ _⟩
 clear hwn
 have HR1 := Keep.mk (HR.out.below LB1.out)
 have HD1 := Keep.mk (HD.out.below LB1.out)
 simp only [Act.put, pqA, pqB, pqC]
 refine VlS (.int .i64 0) ?_
 refine VlS (.int .i64 0) ?_
 refine WL.nil (hK1 _ _ ?_)
 refine wp_seq_k fun K2 hK2 => rgn ?_
 refine VlS (.pointer (some ⟨d, 0, none⟩)) ?_
 refine VlS (.pointer (some ⟨w.heap.size, 0, none⟩)) ?_
 refine WL.midA (by kernel_rfl) 36 (.tmp 12) rfl w.heap.size 0 rfl (bytesA 32 v.id.f) _ (vtx_rng (hvv.out ▸ HX1.out)) Try.underlying36 rfl (Try.size36B _) ?_
 simp only [Act.put, pqA, pqB, pqC]
 refine WL.callF (by kernel_rfl) 46 _ _ rfl Try.in46 #[ptr d, .agg (bytesA 32 v.id.f)] (by simp [Act.eval]) ?_
 refine (rhas_any d v.id R w1 HD1.out HI.out).mono ?_
 rintro e w2 ⟨rfl, hz⟩
 refine ⟨_, rfl, ?_⟩
 have HX2 := Keep.mk (HX1.out.below hz HX1.out.lt)
 have LB2 := Keep.mk (belowT LB1.out hz)
 have HD2 := Keep.mk (HD1.out.below hz)
 have HR2 := Keep.mk (HR1.out.below hz)
 clear hz HX1 LB1 HD1 HR1
 obtain ⟨b1, Hb1⟩ : ∃ b, Keep (hasB R.hs v.id = b) := ⟨_, ⟨rfl⟩⟩
 rw [Hb1.out]
 simp only [Act.put, pqA, pqB, pqC]
 refine VlS (.bool b1) ?_
 refine WL.nil (hK2 _ _ ?_)
 refine wp_seq_k fun K3 hK3 => rgn ?_
 refine VlS (.pointer (some ⟨d, 0, none⟩)) ?_
 refine VlS (.pointer (some ⟨w.heap.size, 0, none⟩)) ?_
 refine WL.midA (by kernel_rfl) 36 (.tmp 16) rfl w.heap.size 0 rfl (bytesA 32 v.id.f) _ (vtx_rng (hvv.out ▸ HX2.out)) Try.underlying36 rfl (Try.size36B _) ?_
 simp only [Act.put, pqA, pqB, pqC]
 refine WL.callF (by kernel_rfl) 48 _ _ rfl Try.in48 #[ptr d, .agg (bytesA 32 v.id.f)] (by simp [Act.eval]) ?_
 refine (rwaits_any d v.id R w2 HD2.out HI.out).mono ?_
 rintro e w3 ⟨rfl, hz⟩
 refine ⟨_, rfl, ?_⟩
 have HX3 := Keep.mk (HX2.out.below hz HX2.out.lt)
 have LB3 := Keep.mk (belowT LB2.out hz)
 have HD3 := Keep.mk (HD2.out.below hz)
 have HR3 := Keep.mk (HR2.out.below hz)
 clear hz HX2 LB2 HD2 HR2
 obtain ⟨b2, Hb2⟩ : ∃ b, Keep (hasB R.ws v.id = b) := ⟨_, ⟨rfl⟩⟩
 rw [Hb2.out]
 simp only [Act.put, pqA, pqB, pqC]
 refine VlS (.bool b2) ?_
 refine WL.nil (hK3 _ _ ?_)
 refine wp_seq_k fun K4 hK4 => ?_
 refine wp_seq_k fun K5 hK5 => rgn ?_
 refine VlS (.bool b1) ?_
 by_cases h3_1 : b1 = true
 ·skip
  refine VlS (.bool true) ?_
  refine SkS ?_
  refine VlS (.bool true) ?_
  refine WL.nil (hK5 _ _ ?_)
  refine wp_cond_true rfl ?_
  refine wp_seq_k fun K6 hK6 => rgn ?_
  refine VlS (.int .i64 1) ?_
  refine VlS (.int .i64 0) ?_
  refine WL.nil (hK6 _ _ ?_)
  refine wp_ret ?_
  go_ret2
  refine ⟨?_, LB3.out⟩
  unfold fitV
  rw [if_pos (.inl (by rw [Hb1.out]; assumption))]; rfl
 ·skip
  refine VlS (.bool false) ?_
  refine VlS (.bool b2) ?_
  refine VlS (.bool b2) ?_
  refine WL.nil (hK5 _ _ ?_)
  rcases Bool.eq_false_or_eq_true b2 with hb2 | hb2
  ·subst hb2
   refine wp_cond_true rfl ?_
   refine wp_seq_k fun K7 hK7 => rgn ?_
   refine VlS (.int .i64 1) ?_
   refine VlS (.int .i64 0) ?_
   refine WL.nil (hK7 _ _ ?_)
   refine wp_ret ?_
   go_ret2
   refine ⟨?_, LB3.out⟩
   unfold fitV
   rw [if_pos (.inr Hb2.out)]; rfl
  ·subst hb2
   refine wp_cond_false rfl ?_
   refine wp_skip ?_
   refine hK4 _ _ ?_
   refine wp_seq_k fun K8 hK8 => rgn ?_
   refine VlS (.pointer (some ⟨w.heap.size, 33, none⟩)) ?_
   have c33 : w3.cell? ⟨w.heap.size, 33, none⟩ = some (.slice pa v.ps.length pc) := HX3.out.c 33 (by rw [hvv.out]; exact vtx_ps _ _ _)
   refine WL.val (by kernel_rfl) (.slice pa v.ps.length pc) (by go_simp) ?_
   clear c33
   simp only [Act.put, pqA, pqB, pqC]
   have hrs := refRising_any _ v.ps w3 HR3.out HL.out
   refine WL.callF (by kernel_rfl) 65 _ _ rfl Try.in65 #[.slice pa v.ps.length pc] (by simp [Act.eval]) ?_
   refine (hrs).mono ?_
   rintro e w4 ⟨rfl, hz⟩
   refine ⟨_, rfl, ?_⟩
   clear hrs
   have HX4 := Keep.mk (HX3.out.below hz HX3.out.lt)
   have LB4 := Keep.mk (belowT LB3.out hz)
   have HD4 := Keep.mk (HD3.out.below hz)
   have HR4 := Keep.mk (HR3.out.below hz)
   clear hz HX3 LB3 HD3 HR3
   obtain ⟨rb, Hrb⟩ : ∃ b, Keep (risesB v.ps = b) := ⟨_, ⟨rfl⟩⟩
   rw [Hrb.out]
   simp only [Act.put, pqA, pqB, pqC]
   refine VlS (.bool rb) ?_
   refine WL.nil (hK8 _ _ ?_)
   refine wp_seq_k fun K9 hK9 => ?_
   refine wp_seq_k fun K10 hK10 => rgn ?_
   refine VlS (.pointer (some ⟨w.heap.size, 33, none⟩)) ?_
   have c33 : w4.cell? ⟨w.heap.size, 33, none⟩ = some (.slice pa v.ps.length pc) := HX4.out.c 33 (by rw [hvv.out]; exact vtx_ps _ _ _)
   refine WL.val (by kernel_rfl) (.slice pa v.ps.length pc) (by go_simp) ?_
   clear c33
   simp only [Act.put, pqA, pqB, pqC]
   refine VlS (.int .i64 (v.ps.length : Int)) ?_
   by_cases h6_3 : (64 : Int) < (v.ps.length : Int)
   ·skip
    refine VlS (.bool true) ?_
    refine VlS (.bool true) ?_
    refine SkS ?_
    refine SkS ?_
    refine VlS (.bool true) ?_
    refine WL.nil (hK10 _ _ ?_)
    refine wp_cond_true rfl ?_
    refine wp_seq_k fun K11 hK11 => rgn ?_
    refine VlS (.int .i64 0) ?_
    refine VlS (.int .i64 52) ?_
    refine WL.nil (hK11 _ _ ?_)
    refine wp_ret ?_
    go_ret2
    refine ⟨?_, LB4.out⟩
    unfold fitV
    rw [if_neg (by rw [Hb1.out, Hb2.out]; simp [h3_1])]
    have hc : chkV v = 52 := by rw [chkV, if_pos (.inl (by omega))]
    rw [hc, if_pos (by omega)]; rfl
   ·skip
    refine VlS (.bool false) ?_
    refine VlS (.bool false) ?_
    refine VlS (.bool rb) ?_
    by_cases h6_6 : rb = true
    ·skip
     refine VlS (.bool false) ?_
     refine VlS (.bool false) ?_
     refine WL.nil (hK10 _ _ ?_)
     refine wp_cond_false rfl ?_
     refine wp_skip ?_
     refine hK9 _ _ ?_
     refine wp_seq_k fun K12 hK12 => ?_
     refine wp_seq_k fun K13 hK13 => rgn ?_
     refine VlS (.pointer (some ⟨w.heap.size, 32, none⟩)) ?_
     have c32 : w4.cell? ⟨w.heap.size, 32, none⟩ = some (.int .i64 v.ck) := HX4.out.c 32 (by rw [hvv.out]; exact vtx_ck _ _ _)
     refine WL.val (by kernel_rfl) (.int .i64 v.ck) (by go_simp) ?_
     clear c32
     simp only [Act.put, pqA, pqB, pqC]
     by_cases h8_2 : v.ck < 1
     ·skip
      refine VlS (.bool true) ?_
      refine VlS (.bool true) ?_
      refine SkS ?_
      refine SkS ?_
      refine SkS ?_
      refine VlS (.bool true) ?_
      refine VlS (.bool true) ?_
      refine SkS ?_
      refine SkS ?_
      refine SkS ?_
      refine SkS ?_
      refine SkS ?_
      refine SkS ?_
      refine SkS ?_
      refine SkS ?_
      refine VlS (.bool true) ?_
      refine WL.nil (hK13 _ _ ?_)
      refine wp_cond_true rfl ?_
      refine wp_seq_k fun K14 hK14 => rgn ?_
      refine VlS (.int .i64 0) ?_
      refine VlS (.int .i64 51) ?_
      refine WL.nil (hK14 _ _ ?_)
      refine wp_ret ?_
      go_ret2
      refine ⟨?_, LB4.out⟩
      unfold fitV
      rw [if_neg (by rw [Hb1.out, Hb2.out]; simp [h3_1])]
      have hc : chkV v = 51 := by rw [chkV, if_neg (by rw [Hrb.out]; simp only [h6_6]; simp; omega), if_pos (by omega)]
      rw [hc, if_pos (by omega)]; rfl
     ·skip
      refine VlS (.bool false) ?_
      refine VlS (.bool false) ?_
      refine VlS (.pointer (some ⟨w.heap.size, 32, none⟩)) ?_
      have c32 : w4.cell? ⟨w.heap.size, 32, none⟩ = some (.int .i64 v.ck) := HX4.out.c 32 (by rw [hvv.out]; exact vtx_ck _ _ _)
      refine WL.val (by kernel_rfl) (.int .i64 v.ck) (by go_simp) ?_
      clear c32
      simp only [Act.put, pqA, pqB, pqC]
      by_cases h8_6 : 4096 < v.ck
      ·skip
       refine VlS (.bool true) ?_
       refine VlS (.bool true) ?_
       refine VlS (.bool true) ?_
       refine SkS ?_
       refine SkS ?_
       refine SkS ?_
       refine SkS ?_
       refine SkS ?_
       refine SkS ?_
       refine SkS ?_
       refine SkS ?_
       refine VlS (.bool true) ?_
       refine WL.nil (hK13 _ _ ?_)
       refine wp_cond_true rfl ?_
       refine wp_seq_k fun K15 hK15 => rgn ?_
       refine VlS (.int .i64 0) ?_
       refine VlS (.int .i64 51) ?_
       refine WL.nil (hK15 _ _ ?_)
       refine wp_ret ?_
       go_ret2
       refine ⟨?_, LB4.out⟩
       unfold fitV
       rw [if_neg (by rw [Hb1.out, Hb2.out]; simp [h3_1])]
       have hc : chkV v = 51 := by rw [chkV, if_neg (by rw [Hrb.out]; simp only [h6_6]; simp; omega), if_pos (by omega)]
       rw [hc, if_pos (by omega)]; rfl
      ·skip
       refine VlS (.bool false) ?_
       refine VlS (.bool false) ?_
       refine VlS (.bool false) ?_
       refine VlS (.pointer (some ⟨w.heap.size, 32, none⟩)) ?_
       have c32 : w4.cell? ⟨w.heap.size, 32, none⟩ = some (.int .i64 v.ck) := HX4.out.c 32 (by rw [hvv.out]; exact vtx_ck _ _ _)
       refine WL.val (by kernel_rfl) (.int .i64 v.ck) (by go_simp) ?_
       clear c32
       simp only [Act.put, pqA, pqB, pqC]
       by_cases h8_11 : v.ck = 1
       ·skip
        refine VlS (.bool true) ?_
        refine VlS (.pointer (some ⟨w.heap.size, 33, none⟩)) ?_
        have c33 : w4.cell? ⟨w.heap.size, 33, none⟩ = some (.slice pa v.ps.length pc) := HX4.out.c 33 (by rw [hvv.out]; exact vtx_ps _ _ _)
        refine WL.val (by kernel_rfl) (.slice pa v.ps.length pc) (by go_simp) ?_
        clear c33
        simp only [Act.put, pqA, pqB, pqC]
        refine VlS (.int .i64 (v.ps.length : Int)) ?_
        by_cases h8_15 : (v.ps.length : Int) = 0
        ·have hps : v.ps = [] := List.eq_nil_of_length_eq_zero (by omega)
         refine VlS (.bool true) ?_
         refine VlS (.bool false) ?_
         refine VlS (.bool false) ?_
         refine WL.nil (hK13 _ _ ?_)
         refine wp_cond_false rfl ?_
         refine wp_skip ?_
         refine hK12 _ _ ?_
         refine wp_seq_k fun K16 hK16 => rgn ?_
         refine VlS (.pointer (some ⟨d, 0, none⟩)) ?_
         refine WL.row (by kernel_rfl) 39 (.tmp 3) rfl w.heap.size rfl 39 vv _ HX4.out Try.underlying39 rfl (by rw [hvv.out]; exact Try.info39s _ _ _) ?_
         simp only [Act.put, pqA, pqB, pqC]
         have hcl := rclosed_any d v _ R w4 HD4.out HI.out HR4.out HL.out
         rw [← hvv.out] at hcl
         refine WL.callF (by kernel_rfl) 70 _ _ rfl Try.in70 #[ptr d, .agg vv] (by simp [Act.eval]) ?_
         refine (hcl).mono ?_
         rintro e w5 ⟨rfl, hz⟩
         refine ⟨_, rfl, ?_⟩
         clear hcl
         have HX5 := Keep.mk (HX4.out.below hz HX4.out.lt)
         have LB5 := Keep.mk (belowT LB4.out hz)
         have HD5 := Keep.mk (HD4.out.below hz)
         have HR5 := Keep.mk (HR4.out.below hz)
         clear hz HX4 LB4 HD4 HR4
         obtain ⟨ba, Hba⟩ : ∃ b, Keep (v.ps.all (hasB R.hs) = b) := ⟨_, ⟨rfl⟩⟩
         rw [Hba.out]
         simp only [Act.put, pqA, pqB, pqC]
         refine VlS (.bool ba) ?_
         refine WL.nil (hK16 _ _ ?_)
         refine wp_seq_k fun K17 hK17 => ?_
         refine wp_seq_k fun K18 hK18 => rgn ?_
         refine VlS (.bool ba) ?_
         by_cases h11_1 : ba = true
         ·skip
          refine VlS (.bool false) ?_
          refine WL.nil (hK18 _ _ ?_)
          refine wp_cond_false rfl ?_
          refine wp_skip ?_
          refine hK17 _ _ ?_
          refine wp_seq_k fun K19 hK19 => rgn ?_
          refine VlS (.pointer (some ⟨d, 0, none⟩)) ?_
          refine WL.row (by kernel_rfl) 39 (.tmp 3) rfl w.heap.size rfl 39 vv _ HX5.out Try.underlying39 rfl (by rw [hvv.out]; exact Try.info39s _ _ _) ?_
          simp only [Act.put, pqA, pqB, pqC]
          have hmy := rmay_any d v _ R w5 HD5.out HI.out HR5.out HL.out
          rw [← hvv.out] at hmy
          refine WL.callF (by kernel_rfl) 71 _ _ rfl Try.in71 #[ptr d, .agg vv] (by simp [Act.eval]) ?_
          refine (hmy).mono ?_
          rintro e w6 ⟨rfl, hz⟩
          refine ⟨_, rfl, ?_⟩
          clear hmy
          have HX6 := Keep.mk (HX5.out.below hz HX5.out.lt)
          have LB6 := Keep.mk (belowT LB5.out hz)
          have HD6 := Keep.mk (HD5.out.below hz)
          have HR6 := Keep.mk (HR5.out.below hz)
          clear hz HX5 LB5 HD5 HR5
          obtain ⟨ne, Hne⟩ : ∃ b, Keep (nextE R.hs v = b) := ⟨_, ⟨rfl⟩⟩
          rw [Hne.out]
          simp only [Act.put, pqA, pqB, pqC]
          refine VlS (.int .i64 ne) ?_
          refine WL.nil (hK19 _ _ ?_)
          refine wp_seq_k fun K20 hK20 => ?_
          refine wp_seq_k fun K21 hK21 => rgn ?_
          refine VlS (.int .i64 ne) ?_
          by_cases h14_1 : ne = 0
          ·skip
           refine VlS (.bool false) ?_
           refine WL.nil (hK21 _ _ ?_)
           refine wp_cond_false rfl ?_
           refine wp_skip ?_
           refine hK20 _ _ ?_
           refine wp_seq_k fun K22 hK22 => rgn ?_
           refine VlS (.int .i64 2) ?_
           refine VlS (.int .i64 0) ?_
           refine WL.nil (hK22 _ _ ?_)
           refine wp_ret ?_
           go_ret2
           refine ⟨?_, LB6.out⟩
           unfold fitV
           rw [if_neg (by rw [Hb1.out, Hb2.out]; simp [h3_1])]
           have hc : chkV v = 0 := by rw [chkV, if_neg (by rw [Hrb.out]; simp only [h6_6]; simp; omega), if_neg (by omega)]
           rw [hc, if_neg (by omega), Hba.out]
           rw [if_neg (by simp [h11_1]), Hne.out]
           rw [if_neg (by simpa using h14_1)]; rfl
          ·skip
           refine VlS (.bool true) ?_
           refine WL.nil (hK21 _ _ ?_)
           refine wp_cond_true rfl ?_
           refine wp_seq_k fun K23 hK23 => rgn ?_
           refine VlS (.int .i64 ne) ?_
           refine VlS (.int .i64 0) ?_
           refine VlS (.int .i64 ne) ?_
           refine WL.nil (hK23 _ _ ?_)
           refine wp_ret ?_
           go_ret2
           refine ⟨?_, LB6.out⟩
           unfold fitV
           rw [if_neg (by rw [Hb1.out, Hb2.out]; simp [h3_1])]
           have hc : chkV v = 0 := by rw [chkV, if_neg (by rw [Hrb.out]; simp only [h6_6]; simp; omega), if_neg (by omega)]
           rw [hc, if_neg (by omega), Hba.out]
           rw [if_neg (by simp [h11_1]), Hne.out]
           rw [if_pos h14_1]; rfl
         ·skip
          refine VlS (.bool true) ?_
          refine WL.nil (hK18 _ _ ?_)
          refine wp_cond_true rfl ?_
          refine wp_seq_k fun K24 hK24 => rgn ?_
          refine VlS (.int .i64 3) ?_
          refine VlS (.int .i64 0) ?_
          refine WL.nil (hK24 _ _ ?_)
          refine wp_ret ?_
          go_ret2
          refine ⟨?_, LB5.out⟩
          unfold fitV
          rw [if_neg (by rw [Hb1.out, Hb2.out]; simp [h3_1])]
          have hc : chkV v = 0 := by rw [chkV, if_neg (by rw [Hrb.out]; simp only [h6_6]; simp; omega), if_neg (by omega)]
          rw [hc, if_neg (by omega), Hba.out]
          rw [if_pos (by simpa using h11_1)]; rfl
        ·have hps : ¬ v.ps = [] := fun h => by rw [h] at h8_15; simp at h8_15
         refine VlS (.bool false) ?_
         refine VlS (.bool true) ?_
         refine VlS (.bool true) ?_
         refine WL.nil (hK13 _ _ ?_)
         refine wp_cond_true rfl ?_
         refine wp_seq_k fun K25 hK25 => rgn ?_
         refine VlS (.int .i64 0) ?_
         refine VlS (.int .i64 51) ?_
         refine WL.nil (hK25 _ _ ?_)
         refine wp_ret ?_
         go_ret2
         refine ⟨?_, LB4.out⟩
         unfold fitV
         rw [if_neg (by rw [Hb1.out, Hb2.out]; simp [h3_1])]
         have hc : chkV v = 51 := by rw [chkV, if_neg (by rw [Hrb.out]; simp only [h6_6]; simp; omega), if_pos (by omega)]
         rw [hc, if_pos (by omega)]; rfl
       ·skip
        refine VlS (.bool false) ?_
        refine VlS (.pointer (some ⟨w.heap.size, 33, none⟩)) ?_
        have c33 : w4.cell? ⟨w.heap.size, 33, none⟩ = some (.slice pa v.ps.length pc) := HX4.out.c 33 (by rw [hvv.out]; exact vtx_ps _ _ _)
        refine WL.val (by kernel_rfl) (.slice pa v.ps.length pc) (by go_simp) ?_
        clear c33
        simp only [Act.put, pqA, pqB, pqC]
        refine VlS (.int .i64 (v.ps.length : Int)) ?_
        by_cases h8_15 : (v.ps.length : Int) = 0
        ·have hps : v.ps = [] := List.eq_nil_of_length_eq_zero (by omega)
         refine VlS (.bool true) ?_
         refine VlS (.bool true) ?_
         refine VlS (.bool true) ?_
         refine WL.nil (hK13 _ _ ?_)
         refine wp_cond_true rfl ?_
         refine wp_seq_k fun K26 hK26 => rgn ?_
         refine VlS (.int .i64 0) ?_
         refine VlS (.int .i64 51) ?_
         refine WL.nil (hK26 _ _ ?_)
         refine wp_ret ?_
         go_ret2
         refine ⟨?_, LB4.out⟩
         unfold fitV
         rw [if_neg (by rw [Hb1.out, Hb2.out]; simp [h3_1])]
         have hc : chkV v = 51 := by rw [chkV, if_neg (by rw [Hrb.out]; simp only [h6_6]; simp; omega), if_pos (by omega)]
         rw [hc, if_pos (by omega)]; rfl
        ·have hps : ¬ v.ps = [] := fun h => by rw [h] at h8_15; simp at h8_15
         refine VlS (.bool false) ?_
         refine VlS (.bool false) ?_
         refine VlS (.bool false) ?_
         refine WL.nil (hK13 _ _ ?_)
         refine wp_cond_false rfl ?_
         refine wp_skip ?_
         refine hK12 _ _ ?_
         refine wp_seq_k fun K27 hK27 => rgn ?_
         refine VlS (.pointer (some ⟨d, 0, none⟩)) ?_
         refine WL.row (by kernel_rfl) 39 (.tmp 3) rfl w.heap.size rfl 39 vv _ HX4.out Try.underlying39 rfl (by rw [hvv.out]; exact Try.info39s _ _ _) ?_
         simp only [Act.put, pqA, pqB, pqC]
         have hcl := rclosed_any d v _ R w4 HD4.out HI.out HR4.out HL.out
         rw [← hvv.out] at hcl
         refine WL.callF (by kernel_rfl) 70 _ _ rfl Try.in70 #[ptr d, .agg vv] (by simp [Act.eval]) ?_
         refine (hcl).mono ?_
         rintro e w5 ⟨rfl, hz⟩
         refine ⟨_, rfl, ?_⟩
         clear hcl
         have HX5 := Keep.mk (HX4.out.below hz HX4.out.lt)
         have LB5 := Keep.mk (belowT LB4.out hz)
         have HD5 := Keep.mk (HD4.out.below hz)
         have HR5 := Keep.mk (HR4.out.below hz)
         clear hz HX4 LB4 HD4 HR4
         obtain ⟨ba, Hba⟩ : ∃ b, Keep (v.ps.all (hasB R.hs) = b) := ⟨_, ⟨rfl⟩⟩
         rw [Hba.out]
         simp only [Act.put, pqA, pqB, pqC]
         refine VlS (.bool ba) ?_
         refine WL.nil (hK27 _ _ ?_)
         refine wp_seq_k fun K28 hK28 => ?_
         refine wp_seq_k fun K29 hK29 => rgn ?_
         refine VlS (.bool ba) ?_
         by_cases h11_1 : ba = true
         ·skip
          refine VlS (.bool false) ?_
          refine WL.nil (hK29 _ _ ?_)
          refine wp_cond_false rfl ?_
          refine wp_skip ?_
          refine hK28 _ _ ?_
          refine wp_seq_k fun K30 hK30 => rgn ?_
          refine VlS (.pointer (some ⟨d, 0, none⟩)) ?_
          refine WL.row (by kernel_rfl) 39 (.tmp 3) rfl w.heap.size rfl 39 vv _ HX5.out Try.underlying39 rfl (by rw [hvv.out]; exact Try.info39s _ _ _) ?_
          simp only [Act.put, pqA, pqB, pqC]
          have hmy := rmay_any d v _ R w5 HD5.out HI.out HR5.out HL.out
          rw [← hvv.out] at hmy
          refine WL.callF (by kernel_rfl) 71 _ _ rfl Try.in71 #[ptr d, .agg vv] (by simp [Act.eval]) ?_
          refine (hmy).mono ?_
          rintro e w6 ⟨rfl, hz⟩
          refine ⟨_, rfl, ?_⟩
          clear hmy
          have HX6 := Keep.mk (HX5.out.below hz HX5.out.lt)
          have LB6 := Keep.mk (belowT LB5.out hz)
          have HD6 := Keep.mk (HD5.out.below hz)
          have HR6 := Keep.mk (HR5.out.below hz)
          clear hz HX5 LB5 HD5 HR5
          obtain ⟨ne, Hne⟩ : ∃ b, Keep (nextE R.hs v = b) := ⟨_, ⟨rfl⟩⟩
          rw [Hne.out]
          simp only [Act.put, pqA, pqB, pqC]
          refine VlS (.int .i64 ne) ?_
          refine WL.nil (hK30 _ _ ?_)
          refine wp_seq_k fun K31 hK31 => ?_
          refine wp_seq_k fun K32 hK32 => rgn ?_
          refine VlS (.int .i64 ne) ?_
          by_cases h14_1 : ne = 0
          ·skip
           refine VlS (.bool false) ?_
           refine WL.nil (hK32 _ _ ?_)
           refine wp_cond_false rfl ?_
           refine wp_skip ?_
           refine hK31 _ _ ?_
           refine wp_seq_k fun K33 hK33 => rgn ?_
           refine VlS (.int .i64 2) ?_
           refine VlS (.int .i64 0) ?_
           refine WL.nil (hK33 _ _ ?_)
           refine wp_ret ?_
           go_ret2
           refine ⟨?_, LB6.out⟩
           unfold fitV
           rw [if_neg (by rw [Hb1.out, Hb2.out]; simp [h3_1])]
           have hc : chkV v = 0 := by rw [chkV, if_neg (by rw [Hrb.out]; simp only [h6_6]; simp; omega), if_neg (by omega)]
           rw [hc, if_neg (by omega), Hba.out]
           rw [if_neg (by simp [h11_1]), Hne.out]
           rw [if_neg (by simpa using h14_1)]; rfl
          ·skip
           refine VlS (.bool true) ?_
           refine WL.nil (hK32 _ _ ?_)
           refine wp_cond_true rfl ?_
           refine wp_seq_k fun K34 hK34 => rgn ?_
           refine VlS (.int .i64 ne) ?_
           refine VlS (.int .i64 0) ?_
           refine VlS (.int .i64 ne) ?_
           refine WL.nil (hK34 _ _ ?_)
           refine wp_ret ?_
           go_ret2
           refine ⟨?_, LB6.out⟩
           unfold fitV
           rw [if_neg (by rw [Hb1.out, Hb2.out]; simp [h3_1])]
           have hc : chkV v = 0 := by rw [chkV, if_neg (by rw [Hrb.out]; simp only [h6_6]; simp; omega), if_neg (by omega)]
           rw [hc, if_neg (by omega), Hba.out]
           rw [if_neg (by simp [h11_1]), Hne.out]
           rw [if_pos h14_1]; rfl
         ·skip
          refine VlS (.bool true) ?_
          refine WL.nil (hK29 _ _ ?_)
          refine wp_cond_true rfl ?_
          refine wp_seq_k fun K35 hK35 => rgn ?_
          refine VlS (.int .i64 3) ?_
          refine VlS (.int .i64 0) ?_
          refine WL.nil (hK35 _ _ ?_)
          refine wp_ret ?_
          go_ret2
          refine ⟨?_, LB5.out⟩
          unfold fitV
          rw [if_neg (by rw [Hb1.out, Hb2.out]; simp [h3_1])]
          have hc : chkV v = 0 := by rw [chkV, if_neg (by rw [Hrb.out]; simp only [h6_6]; simp; omega), if_neg (by omega)]
          rw [hc, if_neg (by omega), Hba.out]
          rw [if_pos (by simpa using h11_1)]; rfl
    ·skip
     refine VlS (.bool true) ?_
     refine VlS (.bool true) ?_
     refine WL.nil (hK10 _ _ ?_)
     refine wp_cond_true rfl ?_
     refine wp_seq_k fun K36 hK36 => rgn ?_
     refine VlS (.int .i64 0) ?_
     refine VlS (.int .i64 52) ?_
     refine WL.nil (hK36 _ _ ?_)
     refine wp_ret ?_
     go_ret2
     refine ⟨?_, LB4.out⟩
     unfold fitV
     rw [if_neg (by rw [Hb1.out, Hb2.out]; simp [h3_1])]
     have hc : chkV v = 52 := by rw [chkV, if_pos (.inr (by rw [Hrb.out]; simpa using h6_6))]
     rw [hc, if_pos (by omega)]; rfl
end Go.Proofs.Ytogmdfhicbmplaa
namespace Go.Proofs.Ytogmdfhicbmplaa
open Go.RowKit
set_option linter.unusedSimpArgs false
set_option linter.unusedVariables false

end Go.Proofs.Ytogmdfhicbmplaa
namespace Go.Proofs.Ytogmdfhicbmplaa
open Go.RowKit
set_option linter.unusedSimpArgs false
set_option linter.unusedVariables false

theorem Try.in78 (w : World) (vs : Array Value) : (callFunc 78 vs).run Try.prog w = .ok (.enter 78 vs) w := by kernel_rfl
theorem Try.in53 (w : World) (vs : Array Value) : (callFunc 53 vs).run Try.prog w = .ok (.enter 53 vs) w := by kernel_rfl
set_option maxRecDepth 8000 in
set_option maxHeartbeats 1000000 in
theorem ids_any (v : Value) (L : List VP) (w : World) (hr : VRow w v L) (hL : L.length ≤ 4096) : Calls Try.prog 78 #[v] w fun e w' => ∃ v', e = .returned v' ∧ Fresh w w' v' (L.map fun q => q.1.id) := by
 obtain ⟨pa, pc, rfl⟩ := hr.form
 have HR := Keep.mk hr
 have HL := Keep.mk hL
 clear hr hL
 go_enter Try.func78, Try.ntmps78
 refine wp_seq_k fun K1 hK1 => rgn ?_
 refine VlS (.slice none 0 0) ?_
 refine WL.nil (hK1 _ _ ?_)
 refine wp_seq_k fun K2 hK2 => rgn ?_
 refine WL.bs (by kernel_rfl) 37 0 _ rfl #[] (by simp) _ _ (bsHE w) ?_
 have O1 := Keep.mk (ownH_empty w)
 have B1 := Keep.mk (below_new w (.cells #[] 36))
 generalize w.alloc (.cells #[] 36) = w1 at *
 obtain ⟨v0, hv0⟩ : ∃ v, Keep (v = Value.slice (some ⟨w.heap.size, 0, none⟩) 0 0) := ⟨_, ⟨rfl⟩⟩
 rw [← hv0.out] at O1 ⊢
 have N1 : Keep (∀ k, v0.ownBlock = some k → w.heap.size ≤ k) := ⟨fun k hk => by rw [hv0.out] at hk; have := Option.some.inj hk; subst this; exact Nat.le_refl _⟩
 simp only [Act.put, pqA, pqB, pqC]
 refine VlS (v0) ?_
 refine WL.nil (hK2 _ _ ?_)
 refine wp_seq_k fun K3 hK3 => ?_
 refine wp_seq_k fun K4 hK4 => rgn ?_
 refine VlS (.int .i64 0) ?_
 refine WL.nil (hK4 _ _ ?_)
 refine wp_block ?_
 refine wp_loop (fun ac wr => ∃ (t : Nat) (u6 u7 u8 u9 u10 u11 u12 u13 u14 u15 u16 u17 u18 u19 : Value) (vr : Value), ac = { tmps := #[.slice pa L.length pc, undef, .slice none 0 0, vr, .int .i64 (t : Int), v0, u6, u7, u8, u9, u10, u11, u12, u13, u14, u15, u16, u17, u18, u19, undef], defers := [] } ∧ t ≤ L.length ∧ OwnH wr vr ((L.take t).map fun q => q.1.id) ∧ (∀ k, vr.ownBlock = some k → w.heap.size ≤ k) ∧ Below w.heap.size w wr) (fun a _ => L.length - (intOf (a.tmps.getD 4 undef)).toNat) ⟨0, undef, undef, undef, undef, undef, undef, undef, undef, undef, undef, undef, undef, undef, undef, v0, rfl, by omega, O1.out, N1.out, B1.out⟩ ?_
 rintro ac wr ⟨t, u6, u7, u8, u9, u10, u11, u12, u13, u14, u15, u16, u17, u18, u19, vr, rfl, ht, hO, hN, hB⟩
 have JO := Keep.mk hO
 have JN := Keep.mk hN
 have JB := Keep.mk hB
 clear hO hN hB
 have HRr := Keep.mk (HR.out.below JB.out)
 by_cases htl : t < L.length
 ·have htl' : (t : Int) < (L.length : Int) := by omega
  have hwr1 : IntKind.i64.wrap ((t : Int) + 1) = (t : Int) + 1 := by rw [IntKind.wrap_i64]; have := HL.out; omega
  obtain ⟨gp, op, hpa, -, hrg⟩ := (HRr.out).at (by omega)
  have hel : wr.rangeAt gp (op + t * 34) (bytesA 32 L[t].1.id.f).toList := vtx_id (flat_elem encV_len hrg t htl)
  obtain ⟨hh, hhh⟩ : ∃ hh, Keep (hh = L[t].1.id) := ⟨_, ⟨rfl⟩⟩
  rw [← hhh.out] at hel
  have Hel := Keep.mk hel
  subst hpa
  clear hrg hel
  refine wp_seq_k fun K5 hK5 => ?_
  refine wp_seq_k fun K6 hK6 => rgn ?_
  refine VlS (.int .i64 (t : Int)) ?_
  refine VlS (.slice (some ⟨gp, op, none⟩) L.length pc) ?_
  refine VlS (.int .i64 (L.length : Int)) ?_
  refine VlS (.bool true) ?_
  refine WL.nil (hK6 _ _ ?_)
  refine wp_cond_true rfl ?_
  refine wp_skip ?_
  refine hK5 _ _ ?_
  refine wp_seq_k fun K7 hK7 => ?_
  refine wp_block ?_
  refine rgn ?_
  refine VlS (vr) ?_
  refine VlS (.slice (some ⟨gp, op, none⟩) L.length pc) ?_
  refine VlS (.int .i64 (t : Int)) ?_
  refine VlS (.pointer (some ⟨gp, op + t * 34, none⟩)) ?_
  refine VlS (.pointer (some ⟨gp, op + t * 34, none⟩)) ?_
  refine WL.midA (by kernel_rfl) 36 (.tmp 16) rfl gp (op + t * 34) rfl (bytesA 32 hh.f) _ Hel.out Try.underlying36 rfl (Try.size36B _) ?_
  simp only [Act.put, pqA, pqB, pqC]
  refine WL.bs (by kernel_rfl) 37 1 _ rfl #[(0, .agg (bytesA 32 hh.f))] (by simp [Act.eval]) _ _ (bsH hh wr) ?_
  have HGy := Keep.mk (Blk.new wr 36 (bytesA 32 hh.f))
  have B5 := Keep.mk (below_new wr (.cells (bytesA 32 hh.f) 36))
  generalize wr.alloc (.cells (bytesA 32 hh.f) 36) = w5 at *
  have JO5 := Keep.mk (JO.out.below B5.out)
  have JB5 := Keep.mk (belowT JB.out B5.out)
  generalize hgy : wr.heap.size = gy at *
  simp only [Act.put, pqA, pqB, pqC]
  refine WL.appH (by kernel_rfl) (.tmp 12) (.tmp 18) rfl vr ((L.take t).map fun q => q.1.id) gy hh rfl rfl JO5.out HGy.out (by rw [List.length_map, List.length_take]; have := HL.out; omega) fun v6 w6 h1 h2 h3 => ?_
  have LO := Keep.mk h1
  have LN : Keep (∀ k, v6.ownBlock = some k → w.heap.size ≤ k) := ⟨fun k hk => h3.elim (fun e => JN.out k (by rw [← e]; exact hk)) fun ⟨q, e, hq⟩ => by rw [hk] at e; have := Option.some.inj e; subst this; exact Nat.le_trans JB5.out.size hq⟩
  have LB : Keep (Below w.heap.size w w6) := ⟨JB5.out.trans (h2.to_below (fun k hk e => by have := JN.out k e; omega) JB5.out.size)⟩
  clear h1 h2 h3
  simp only [Act.put, pqA, pqB, pqC]
  refine VlS (v6) ?_
  refine WL.nil (hK7 _ _ ?_)
  refine rgn ?_
  refine VlS (.int .i64 (t : Int)) ?_
  refine VlS (.int .i64 ((t : Int) + 1)) ?_
  refine VlS (.int .i64 ((t : Int) + 1)) ?_
  refine WL.nil ?_
  refine ⟨⟨t + 1, .int .i64 (t : Int), .slice (some ⟨gp, op, none⟩) L.length pc, .int .i64 (L.length : Int), .bool true, .int .i64 (t : Int), .int .i64 ((t : Int) + 1), vr, .slice (some ⟨gp, op, none⟩) L.length pc, .int .i64 (t : Int), .pointer (some ⟨gp, op + t * 34, none⟩), .pointer (some ⟨gp, op + t * 34, none⟩), .agg (bytesA 32 hh.f), .slice (some ⟨gy, 0, none⟩) 1 1, v6, v6, rfl, by omega, ?_, LN.out, LB.out⟩, ?_⟩
  ·rw [List.take_succ_eq_append_getElem htl, List.map_append, List.map_cons, List.map_nil, ← hhh.out]; exact LO.out
  ·simp only [intOf]; show L.length - ((t : Int) + 1).toNat < L.length - ((t : Int)).toNat; omega
 ·have hte : Keep (t = L.length) := ⟨by omega⟩
  have htl' : ¬ (t : Int) < (L.length : Int) := by omega
  refine wp_seq_k fun K8 hK8 => ?_
  refine wp_seq_k fun K9 hK9 => rgn ?_
  refine VlS (.int .i64 (t : Int)) ?_
  refine VlS (.slice pa L.length pc) ?_
  refine VlS (.int .i64 (L.length : Int)) ?_
  refine VlS (.bool false) ?_
  refine WL.nil (hK9 _ _ ?_)
  refine wp_cond_false rfl ?_
  refine wp_exit ?_
  refine hK3 _ _ ?_
  refine wp_seq_k fun K10 hK10 => rgn ?_
  refine VlS (vr) ?_
  refine VlS (vr) ?_
  refine WL.nil (hK10 _ _ ?_)
  refine wp_ret ?_
  go_ret
  refine ⟨_, rfl, ⟨?_, JN.out, JB.out⟩⟩
  have h := JO.out
  rw [hte.out, List.take_length] at h
  exact h
end Go.Proofs.Ytogmdfhicbmplaa
namespace Go.Proofs.Ytogmdfhicbmplaa
open Go.RowKit
set_option linter.unusedSimpArgs false
set_option linter.unusedVariables false

set_option maxRecDepth 8000 in
set_option maxHeartbeats 1000000 in
theorem rwaiting_any (d : Nat) (R : RG) (w : World) (hD : RRd w d R) (hI : RI R) : Calls Try.prog 53 #[ptr d] w fun e w' => ∃ v', e = .returned v' ∧ Fresh w w' v' (R.ws.map (·.id)) := by
 obtain ⟨hv, wv, sv, g1, -, g2, -⟩ := hD
 obtain ⟨wa, wc, rfl⟩ := g2.form
 have G1 := Keep.mk g1
 have G2 := Keep.mk g2
 have HI := Keep.mk hI
 clear g1 g2 hI
 go_enter Try.func53, Try.ntmps53
 refine wp_seq_k fun K1 hK1 => rgn ?_
 refine VlS (.slice none 0 0) ?_
 refine WL.nil (hK1 _ _ ?_)
 refine wp_seq_k fun K2 hK2 => rgn ?_
 refine VlS (.pointer (some ⟨d, 0, none⟩)) ?_
 refine VlS (.pointer (some ⟨d, 0, none⟩)) ?_
 refine VlS (.pointer (some ⟨d, 2, none⟩)) ?_
 have c2 : w.cell? ⟨d, 2, none⟩ = some (.slice wa R.wait.length wc) := G1.out.c 2 rfl
 refine WL.val (by kernel_rfl) (.slice wa R.wait.length wc) (by go_simp) ?_
 clear c2
 simp only [Act.put, pqA, pqB, pqC]
 refine WL.callF (by kernel_rfl) 78 _ _ rfl Try.in78 #[.slice wa R.wait.length wc] (by simp [Act.eval]) ?_
 refine (ids_any _ R.wait w G2.out HI.out.wl).mono ?_
 rintro e w1 ⟨v7, rfl, hf⟩
 refine ⟨_, rfl, ?_⟩
 have F1 := Keep.mk hf
 clear hf
 simp only [Act.put, pqA, pqB, pqC]
 refine VlS (v7) ?_
 refine WL.nil (hK2 _ _ ?_)
 refine wp_ret ?_
 go_ret
 exact ⟨_, rfl, by rw [RG.ws, List.map_map]; exact F1.out⟩
end Go.Proofs.Ytogmdfhicbmplaa
namespace Go.Proofs.Ytogmdfhicbmplaa
open Go.RowKit
set_option linter.unusedSimpArgs false
set_option linter.unusedVariables false

theorem Try.in76 (w : World) (vs : Array Value) : (callFunc 76 vs).run Try.prog w = .ok (.enter 76 vs) w := by kernel_rfl
theorem Try.in49 (w : World) (vs : Array Value) : (callFunc 49 vs).run Try.prog w = .ok (.enter 49 vs) w := by kernel_rfl
def namP (l : List VP) : List Hs := l.flatMap (·.1.ps)
def hdQ (l : List VP) (x : Hs) : Bool := decide (x ∉ namP l)
theorem namP_app (l : List VP) (v : VP) : namP (l ++ [v]) = namP l ++ v.1.ps := by unfold namP; rw [List.flatMap_append]; simp
theorem inc_pw {l : List Hs} (h : l.Pairwise Lt) : Inc l := fun i j hij hj => by
 rw [getD_atl hj, getD_atl (Nat.lt_trans hij hj)]
 exact List.pairwise_iff_getElem.1 h i j (Nat.lt_trans hij hj) hj hij
set_option maxRecDepth 8000 in
set_option maxHeartbeats 1000000 in
theorem rHeads_any (v : Value) (L : List VP) (w : World) (hr : VRow w v L) (hL : L.length ≤ 4096) (hP : ∀ q ∈ L, q.1.ps.length ≤ 64) : Calls Try.prog 76 #[v] w fun e w' => ∃ v' L', e = .returned v' ∧ Fresh w w' v' L' ∧ L'.Pairwise Lt ∧ (∀ x, x ∈ L' ↔ x ∈ (L.map fun q => q.1.id).filter (hdQ L)) ∧ L'.length ≤ 4096 := by
 obtain ⟨pa, pc, rfl⟩ := hr.form
 have HR := Keep.mk hr
 have HL := Keep.mk hL
 have HP := Keep.mk hP
 clear hr hL hP
 go_enter Try.func76, Try.ntmps76
 refine wp_seq_k fun K1 hK1 => rgn ?_
 refine VlS (.slice none 0 0) ?_
 refine WL.nil (hK1 _ _ ?_)
 refine wp_seq_k fun K2 hK2 => rgn ?_
 refine WL.bs (by kernel_rfl) 37 0 _ rfl #[] (by simp) _ _ (bsHE w) ?_
 have O1 := Keep.mk (ownH_empty w)
 have hz := below_new w (.cells #[] 36)
 have B1 : Keep (Below w.heap.size w (w.alloc (.cells #[] 36))) := ⟨belowT (Below.refl _ _) hz⟩
 clear hz
 generalize w.alloc (.cells #[] 36) = w1 at *
 obtain ⟨v0, hv0⟩ : ∃ v, Keep (v = Value.slice (some ⟨w.heap.size, 0, none⟩) 0 0) := ⟨_, ⟨rfl⟩⟩
 rw [← hv0.out] at O1 ⊢
 have N1 : Keep (∀ k, v0.ownBlock = some k → w.heap.size ≤ k) := ⟨fun k hk => by rw [hv0.out] at hk; have := Option.some.inj hk; subst this; exact Nat.le_refl _⟩
 simp only [Act.put, pqA, pqB, pqC]
 refine VlS (v0) ?_
 refine WL.nil (hK2 _ _ ?_)
 refine wp_seq_k fun K3 hK3 => ?_
 refine wp_seq_k fun K4 hK4 => rgn ?_
 refine VlS (.int .i64 0) ?_
 refine WL.nil (hK4 _ _ ?_)
 refine wp_block ?_
 refine wp_loop (fun ac wr => ∃ (t : Nat) (u9 u10 u11 u12 u13 u14 u15 u16 u17 u18 u19 u20 u21 : Value) (vr : Value), ac = { tmps := #[.slice pa L.length pc, undef, .slice none 0 0, vr, .int .i64 (t : Int), undef, undef, undef, v0, u9, u10, u11, u12, u13, u14, u15, u16, u17, u18, u19, u20, u21, undef, undef, undef, undef, undef, undef, undef, undef, undef, undef, undef, undef, undef, undef, undef, undef, undef, undef, undef, undef, undef, undef, undef, undef, undef, undef, undef, undef], defers := [] } ∧ t ≤ L.length ∧ OwnH wr vr (namP (L.take t)) ∧ (∀ k, vr.ownBlock = some k → w.heap.size ≤ k) ∧ Below w.heap.size w wr ∧ (namP (L.take t)).length ≤ 64 * t) (fun a _ => L.length - (intOf (a.tmps.getD 4 undef)).toNat) ⟨0, undef, undef, undef, undef, undef, undef, undef, undef, undef, undef, undef, undef, undef, v0, rfl, by omega, O1.out, N1.out, B1.out, Nat.le_refl _⟩ ?_
 rintro ac wr ⟨t, u9, u10, u11, u12, u13, u14, u15, u16, u17, u18, u19, u20, u21, vr, rfl, ht, hO, hN, hB, hC⟩
 have JO := Keep.mk hO
 have JN := Keep.mk hN
 have JB := Keep.mk hB
 have JC := Keep.mk hC
 clear hO hN hB hC
 by_cases htl : t < L.length
 ·have htl' : (t : Int) < (L.length : Int) := by omega
  have hwt : IntKind.i64.wrap ((t : Int) + 1) = ((t + 1 : Nat) : Int) := by rw [IntKind.wrap_i64]; have := HL.out; omega
  obtain ⟨v, hv⟩ : ∃ v, Keep (v = L[t]) := ⟨_, ⟨rfl⟩⟩
  have hvm : v ∈ L := by rw [hv.out]; exact List.getElem_mem htl
  obtain ⟨gp, op, hpa, -, hrg⟩ := HR.out.at (by omega)
  have HG := Keep.mk (flatV_lt hrg (by omega))
  have Hcl := Keep.mk (flat_elem encV_len hrg t htl)
  have HC : Keep (HRow w v.2 v.1.ps) := ⟨(HR.out.2 v hvm).1⟩
  have HVl : Keep (v.1.ps.length ≤ 64) := ⟨HP.out v hvm⟩
  obtain ⟨qa, qc, hpf⟩ := HC.out.form
  have HPV : Keep (∀ wx, Below w.heap.size w wx → wx.cell? ⟨gp, op + t * 34 + 33, none⟩ = some (.slice qa v.1.ps.length qc)) := ⟨fun wx hb => rangeAt_below Hcl.out hb HG.out 33 _ (by rw [encV, Array.getElem?_toList, vtx_ps, ← hv.out, hpf])⟩
  have HC : Keep (HRow w (.slice qa v.1.ps.length qc) v.1.ps) := ⟨by rw [← hpf]; exact HC.out⟩
  subst hpa
  clear hrg hpf Hcl hvm
  refine wp_seq_k fun K5 hK5 => ?_
  refine wp_seq_k fun K6 hK6 => rgn ?_
  refine VlS (.int .i64 (t : Int)) ?_
  refine VlS (.slice (some ⟨gp, op, none⟩) L.length pc) ?_
  refine VlS (.int .i64 (L.length : Int)) ?_
  refine VlS (.bool true) ?_
  refine WL.nil (hK6 _ _ ?_)
  refine wp_cond_true rfl ?_
  refine wp_skip ?_
  refine hK5 _ _ ?_
  refine wp_seq_k fun K7 hK7 => ?_
  refine wp_block ?_
  refine rgn ?_
  refine VlS (vr) ?_
  refine VlS (.slice (some ⟨gp, op, none⟩) L.length pc) ?_
  refine VlS (.int .i64 (t : Int)) ?_
  refine VlS (.pointer (some ⟨gp, op + t * 34, none⟩)) ?_
  refine VlS (.pointer (some ⟨gp, op + t * 34 + 33, none⟩)) ?_
  have c3 := HPV.out _ JB.out
  refine WL.val (by kernel_rfl) (.slice qa v.1.ps.length qc) (by go_simp) ?_
  clear c3
  simp only [Act.put, pqA, pqB, pqC]
  refine WL.appM (by kernel_rfl) (.tmp 15) (.tmp 20) rfl vr _ (namP (L.take t)) v.1.ps rfl rfl JO.out (HC.out.below JB.out) (by have := JC.out; have := HVl.out; have := HL.out; omega) fun v6 w6 h1 h2 h3 => ?_
  have LO := Keep.mk h1
  have LN : Keep (∀ k, v6.ownBlock = some k → w.heap.size ≤ k) := ⟨fun k hk => h3.elim (fun e => JN.out k (by rw [← e]; exact hk)) fun ⟨q, e, hq⟩ => by rw [hk] at e; have := Option.some.inj e; subst this; exact Nat.le_trans JB.out.size hq⟩
  have LB : Keep (Below w.heap.size w w6) := ⟨JB.out.trans (h2.to_below (fun k hk e => by have := JN.out k e; omega) JB.out.size)⟩
  clear h1 h2 h3
  simp only [Act.put, pqA, pqB, pqC]
  refine VlS (v6) ?_
  refine WL.nil (hK7 _ _ ?_)
  refine rgn ?_
  refine VlS (.int .i64 (t : Int)) ?_
  refine VlS (.int .i64 ((t + 1 : Nat) : Int)) ?_
  refine VlS (.int .i64 ((t + 1 : Nat) : Int)) ?_
  refine WL.nil ?_
  have hfl : namP (L.take (t + 1)) = namP (L.take t) ++ v.1.ps := by rw [List.take_succ_eq_append_getElem htl, namP_app, ← hv.out]
  refine ⟨⟨t + 1, .int .i64 (t : Int), .slice (some ⟨gp, op, none⟩) L.length pc, .int .i64 (L.length : Int), .bool true, .int .i64 (t : Int), .int .i64 ((t + 1 : Nat) : Int), vr, .slice (some ⟨gp, op, none⟩) L.length pc, .int .i64 (t : Int), .pointer (some ⟨gp, op + t * 34, none⟩), .pointer (some ⟨gp, op + t * 34 + 33, none⟩), .slice qa v.1.ps.length qc, v6, v6, rfl, by omega, by rw [hfl]; exact LO.out, LN.out, LB.out, by rw [hfl, List.length_append]; have := JC.out; have := HVl.out; omega⟩, ?_⟩
  simp only [intOf]; show L.length - (((t + 1 : Nat) : Int)).toNat < L.length - ((t : Int)).toNat; omega
 ·have hte : t = L.length := by omega
  have htl' : ¬ (t : Int) < (L.length : Int) := by omega
  refine wp_seq_k fun K8 hK8 => ?_
  refine wp_seq_k fun K9 hK9 => rgn ?_
  refine VlS (.int .i64 (t : Int)) ?_
  refine VlS (.slice pa L.length pc) ?_
  refine VlS (.int .i64 (L.length : Int)) ?_
  refine VlS (.bool false) ?_
  refine WL.nil (hK9 _ _ ?_)
  refine wp_cond_false rfl ?_
  refine wp_exit ?_
  refine hK3 _ _ ?_
  refine wp_seq_k fun K10 hK10 => rgn ?_
  refine VlS (vr) ?_
  have hso := refSort_any _ vr _ wr rfl JO.out.row (by have := JC.out; have := HL.out; omega)
  refine WL.callF (by kernel_rfl) 16 _ _ rfl Try.in16 #[vr] (by simp [Act.eval]) ?_
  refine (hso.mono (R' := fun e w' => ∃ v' L', e = .returned v' ∧ OwnH w' v' L' ∧ L'.Pairwise Lt ∧ (∀ x, x ∈ L' ↔ x ∈ namP L) ∧ L'.length ≤ 262144 ∧ Below wr.heap.size wr w') (fun e w' ⟨v', L', h1, h2, h3, h4, h5, h6⟩ => ⟨v', L', h1, OwnH.of h2, h3, by rw [hte, List.take_length] at h4; exact h4, by have := JC.out; have := HL.out; omega, h6⟩)).mono ?_
  rintro e w9 ⟨v9, L9, rfl, h1, h3, h4, h5, h6⟩
  refine ⟨_, rfl, ?_⟩
  clear hso
  have R1 := Keep.mk h1
  have R3 := Keep.mk h3
  have R4 := Keep.mk h4
  have R5 := Keep.mk h5
  have R6 := Keep.mk (belowT JB.out h6)
  clear h1 h3 h4 h5 h6
  simp only [Act.put, pqA, pqB, pqC]
  refine VlS (v9) ?_
  refine WL.nil (hK10 _ _ ?_)
  refine wp_seq_k fun K11 hK11 => rgn ?_
  refine WL.bs (by kernel_rfl) 37 0 _ rfl #[] (by simp) _ _ (bsHE w9) ?_
  have O2 := Keep.mk (ownH_empty w9)
  have B2 := Keep.mk (below_new w9 (.cells #[] 36))
  generalize w9.alloc (.cells #[] 36) = wa at *
  obtain ⟨v5, hv5⟩ : ∃ v, Keep (v = Value.slice (some ⟨w9.heap.size, 0, none⟩) 0 0) := ⟨_, ⟨rfl⟩⟩
  rw [← hv5.out] at O2 ⊢
  have N2 : Keep (∀ k, v5.ownBlock = some k → w9.heap.size ≤ k) := ⟨fun k hk => by rw [hv5.out] at hk; have := Option.some.inj hk; subst this; exact Nat.le_refl _⟩
  simp only [Act.put, pqA, pqB, pqC]
  refine VlS (v5) ?_
  refine WL.nil (hK11 _ _ ?_)
  refine wp_seq_k fun K12 hK12 => ?_
  refine wp_seq_k fun K13 hK13 => rgn ?_
  refine VlS (.int .i64 0) ?_
  refine WL.nil (hK13 _ _ ?_)
  refine wp_block ?_
  refine wp_loop (fun ac wi => ∃ (k : Nat) (z7 z25 z26 z27 z28 z29 z30 z31 z32 z33 z34 z35 z36 z37 z38 z39 z40 z41 z42 z43 z44 z45 z46 z47 : Value) (vo : Value), ac = { tmps := #[.slice pa L.length pc, undef, .slice none 0 0, v9, .int .i64 (t : Int), vo, .int .i64 (k : Int), z7, v0, .int .i64 (t : Int), .slice pa L.length pc, .int .i64 (L.length : Int), .bool false, u13, u14, u15, u16, u17, u18, u19, u20, u21, vr, v9, v5, z25, z26, z27, z28, z29, z30, z31, z32, z33, z34, z35, z36, z37, z38, z39, z40, z41, z42, z43, z44, z45, z46, z47, undef, undef], defers := [] } ∧ k ≤ L.length ∧ OwnH wi vo (((L.take k).map fun q => q.1.id).filter (hdQ L)) ∧ (∀ i, vo.ownBlock = some i → w9.heap.size ≤ i) ∧ Below w9.heap.size w9 wi ∧ (((L.take k).map fun q => q.1.id).filter (hdQ L)).length ≤ k) (fun a _ => L.length - (intOf (a.tmps.getD 6 undef)).toNat) ⟨0, undef, undef, undef, undef, undef, undef, undef, undef, undef, undef, undef, undef, undef, undef, undef, undef, undef, undef, undef, undef, undef, undef, undef, undef, v5, rfl, by omega, O2.out, N2.out, B2.out, Nat.le_refl _⟩ ?_
  rintro ac wi ⟨k, z7, z25, z26, z27, z28, z29, z30, z31, z32, z33, z34, z35, z36, z37, z38, z39, z40, z41, z42, z43, z44, z45, z46, z47, vo, rfl, hk, hO, hN, hA, hC⟩
  have KO := Keep.mk hO
  have KN := Keep.mk hN
  have KA := Keep.mk hA
  have KC := Keep.mk hC
  clear hO hN hA hC
  by_cases hkl : k < L.length
  ·have hkl' : (k : Int) < (L.length : Int) := by omega
   have hwk : IntKind.i64.wrap ((k : Int) + 1) = ((k + 1 : Nat) : Int) := by rw [IntKind.wrap_i64]; have := HL.out; omega
   obtain ⟨gp, op, hpa, -, hrg⟩ := (HR.out.below (belowT R6.out KA.out)).at (by omega)
   have hel : wi.rangeAt gp (op + k * 34) (bytesA 32 L[k].1.id.f).toList := vtx_id (flat_elem encV_len hrg k hkl)
   have HG := Keep.mk (flatV_lt hrg (by omega))
   obtain ⟨hh, hhh⟩ : ∃ hh, Keep (hh = L[k].1.id) := ⟨_, ⟨rfl⟩⟩
   rw [← hhh.out] at hel
   have Hel := Keep.mk hel
   obtain ⟨ix, hix⟩ : ∃ i, Keep (ixF hh L9 0 = i) := ⟨_, ⟨rfl⟩⟩
   subst hpa
   clear hrg hel
   refine wp_seq_k fun K14 hK14 => ?_
   refine wp_seq_k fun K15 hK15 => rgn ?_
   refine VlS (.int .i64 (k : Int)) ?_
   refine VlS (.slice (some ⟨gp, op, none⟩) L.length pc) ?_
   refine VlS (.int .i64 (L.length : Int)) ?_
   refine VlS (.bool true) ?_
   refine WL.nil (hK15 _ _ ?_)
   refine wp_cond_true rfl ?_
   refine wp_skip ?_
   refine hK14 _ _ ?_
   refine wp_seq_k fun K16 hK16 => ?_
   refine wp_block ?_
   refine wp_seq_k fun K17 hK17 => rgn ?_
   refine VlS (v9) ?_
   refine VlS (.slice (some ⟨gp, op, none⟩) L.length pc) ?_
   refine VlS (.int .i64 (k : Int)) ?_
   refine VlS (.pointer (some ⟨gp, op + k * 34, none⟩)) ?_
   refine VlS (.pointer (some ⟨gp, op + k * 34, none⟩)) ?_
   refine WL.midA (by kernel_rfl) 36 (.tmp 35) rfl gp (op + k * 34) rfl (bytesA 32 hh.f) _ Hel.out Try.underlying36 rfl (Try.size36B _) ?_
   simp only [Act.put, pqA, pqB, pqC]
   have hsk := seek_any v9 L9 hh wi (R1.out.row.below KA.out) (inc_pw R3.out) (Nat.le_trans R5.out (by omega))
   rw [hix.out] at hsk
   refine WL.callF (by kernel_rfl) 75 _ _ rfl Try.in75 #[v9, .agg (bytesA 32 hh.f)] (by simp [Act.eval]) ?_
   refine (hsk).mono ?_
   rintro e wj ⟨rfl, hz⟩
   refine ⟨_, rfl, ?_⟩
   clear hsk
   have MA := Keep.mk (belowT KA.out hz)
   have MO := Keep.mk (KO.out.below hz)
   have Mel := Keep.mk (rangeAt_below Hel.out hz HG.out)
   clear hz
   simp only [Act.put, pqA, pqB, pqC]
   refine VlS (.int .i64 ix) ?_
   refine WL.nil (hK17 _ _ ?_)
   refine wp_seq_k fun K18 hK18 => rgn ?_
   refine VlS (.int .i64 ix) ?_
   by_cases h12_1 : ix < 0
   ·skip
    refine VlS (.bool true) ?_
    refine WL.nil (hK18 _ _ ?_)
    refine wp_cond_true rfl ?_
    refine rgn ?_
    refine VlS (vo) ?_
    refine VlS (.slice (some ⟨gp, op, none⟩) L.length pc) ?_
    refine VlS (.int .i64 (k : Int)) ?_
    refine VlS (.pointer (some ⟨gp, op + k * 34, none⟩)) ?_
    refine VlS (.pointer (some ⟨gp, op + k * 34, none⟩)) ?_
    refine WL.midA (by kernel_rfl) 36 (.tmp 44) rfl gp (op + k * 34) rfl (bytesA 32 hh.f) _ Mel.out Try.underlying36 rfl (Try.size36B _) ?_
    simp only [Act.put, pqA, pqB, pqC]
    refine WL.bs (by kernel_rfl) 37 1 _ rfl #[(0, .agg (bytesA 32 hh.f))] (by simp [Act.eval]) _ _ (bsH hh wj) ?_
    have HGy := Keep.mk (Blk.new wj 36 (bytesA 32 hh.f))
    have BY := Keep.mk (below_new wj (.cells (bytesA 32 hh.f) 36))
    generalize wj.alloc (.cells (bytesA 32 hh.f) 36) = wk at *
    have PA := Keep.mk (belowT MA.out BY.out)
    have PO := Keep.mk (MO.out.below BY.out)
    clear BY
    generalize wj.heap.size = gy at *
    simp only [Act.put, pqA, pqB, pqC]
    refine WL.appH (by kernel_rfl) (.tmp 40) (.tmp 46) rfl vo _ gy hh rfl rfl PO.out HGy.out (by have := KC.out; have := HL.out; omega) fun v8 wl h1 h2 h3 => ?_
    have QO := Keep.mk h1
    have QN : Keep (∀ i, v8.ownBlock = some i → w9.heap.size ≤ i) := ⟨fun i hi => h3.elim (fun e => KN.out i (by rw [← e]; exact hi)) fun ⟨q, e, hq⟩ => by rw [hi] at e; have := Option.some.inj e; subst this; exact Nat.le_trans PA.out.size hq⟩
    have QA : Keep (Below w9.heap.size w9 wl) := ⟨PA.out.trans (h2.to_below (fun i hi e => by have := KN.out i e; omega) PA.out.size)⟩
    clear h1 h2 h3
    simp only [Act.put, pqA, pqB, pqC]
    refine VlS (v8) ?_
    refine WL.nil (hK16 _ _ ?_)
    refine rgn ?_
    refine VlS (.int .i64 (k : Int)) ?_
    refine VlS (.int .i64 ((k + 1 : Nat) : Int)) ?_
    refine VlS (.int .i64 ((k + 1 : Nat) : Int)) ?_
    refine WL.nil ?_
    have hf : ((L.take (k + 1)).map fun q => q.1.id).filter (hdQ L) = ((L.take k).map fun q => q.1.id).filter (hdQ L) ++ (if hdQ L hh = true then [hh] else []) := by rw [List.take_succ_eq_append_getElem hkl, List.map_append, List.filter_append, List.map_cons, List.map_nil, ← hhh.out]; congr 1; by_cases h : hdQ L hh = true <;> simp [h]
    have hq : hdQ L hh = true ↔ ix < 0 := by rw [hdQ, decide_eq_true_iff, ← R4.out hh, ← ixF_ge (t := 0), hix.out]; omega
    rw [if_pos (hq.2 h12_1)] at hf
    refine ⟨⟨k + 1, .int .i64 ix, .int .i64 (k : Int), .slice (some ⟨gp, op, none⟩) L.length pc, .int .i64 (L.length : Int), .bool true, .int .i64 (k : Int), .int .i64 ((k + 1 : Nat) : Int), v9, .slice (some ⟨gp, op, none⟩) L.length pc, .int .i64 (k : Int), .pointer (some ⟨gp, op + k * 34, none⟩), .pointer (some ⟨gp, op + k * 34, none⟩), .agg (bytesA 32 hh.f), .int .i64 ix, .int .i64 ix, .bool true, vo, .slice (some ⟨gp, op, none⟩) L.length pc, .int .i64 (k : Int), .pointer (some ⟨gp, op + k * 34, none⟩), .pointer (some ⟨gp, op + k * 34, none⟩), .agg (bytesA 32 hh.f), .slice (some ⟨gy, 0, none⟩) 1 1, v8, v8, rfl, by omega, by rw [hf]; exact QO.out, QN.out, QA.out, by rw [hf, List.length_append, List.length_singleton]; have := KC.out; omega⟩, ?_⟩
    simp only [intOf]; show L.length - (((k + 1 : Nat) : Int)).toNat < L.length - ((k : Int)).toNat; omega
   ·skip
    refine VlS (.bool false) ?_
    refine WL.nil (hK18 _ _ ?_)
    refine wp_cond_false rfl ?_
    refine wp_skip ?_
    refine hK16 _ _ ?_
    refine rgn ?_
    refine VlS (.int .i64 (k : Int)) ?_
    refine VlS (.int .i64 ((k + 1 : Nat) : Int)) ?_
    refine VlS (.int .i64 ((k + 1 : Nat) : Int)) ?_
    refine WL.nil ?_
    have hf : ((L.take (k + 1)).map fun q => q.1.id).filter (hdQ L) = ((L.take k).map fun q => q.1.id).filter (hdQ L) ++ (if hdQ L hh = true then [hh] else []) := by rw [List.take_succ_eq_append_getElem hkl, List.map_append, List.filter_append, List.map_cons, List.map_nil, ← hhh.out]; congr 1; by_cases h : hdQ L hh = true <;> simp [h]
    have hq : hdQ L hh = true ↔ ix < 0 := by rw [hdQ, decide_eq_true_iff, ← R4.out hh, ← ixF_ge (t := 0), hix.out]; omega
    rw [if_neg (fun h => h12_1 (hq.1 h)), List.append_nil] at hf
    refine ⟨⟨k + 1, .int .i64 ix, .int .i64 (k : Int), .slice (some ⟨gp, op, none⟩) L.length pc, .int .i64 (L.length : Int), .bool true, .int .i64 (k : Int), .int .i64 ((k + 1 : Nat) : Int), v9, .slice (some ⟨gp, op, none⟩) L.length pc, .int .i64 (k : Int), .pointer (some ⟨gp, op + k * 34, none⟩), .pointer (some ⟨gp, op + k * 34, none⟩), .agg (bytesA 32 hh.f), .int .i64 ix, .int .i64 ix, .bool false, z40, z41, z42, z43, z44, z45, z46, z47, vo, rfl, by omega, by rw [hf]; exact MO.out, KN.out, MA.out, by rw [hf]; have := KC.out; omega⟩, ?_⟩
    simp only [intOf]; show L.length - (((k + 1 : Nat) : Int)).toNat < L.length - ((k : Int)).toNat; omega
  ·have hke : k = L.length := by omega
   have hkl' : ¬ (k : Int) < (L.length : Int) := by omega
   refine wp_seq_k fun K19 hK19 => ?_
   refine wp_seq_k fun K20 hK20 => rgn ?_
   refine VlS (.int .i64 (k : Int)) ?_
   refine VlS (.slice pa L.length pc) ?_
   refine VlS (.int .i64 (L.length : Int)) ?_
   refine VlS (.bool false) ?_
   refine WL.nil (hK20 _ _ ?_)
   refine wp_cond_false rfl ?_
   refine wp_exit ?_
   refine hK12 _ _ ?_
   refine wp_seq_k fun K21 hK21 => rgn ?_
   refine VlS (vo) ?_
   have hso := refSort_any _ vo _ wi rfl KO.out.row (by have := KC.out; have := HL.out; omega)
   refine WL.callF (by kernel_rfl) 16 _ _ rfl Try.in16 #[vo] (by simp [Act.eval]) ?_
   refine (hso.mono (R' := fun e w' => ∃ v' L', e = .returned v' ∧ OwnH w' v' L' ∧ (∀ k, v'.ownBlock = some k → wi.heap.size ≤ k) ∧ L'.Pairwise Lt ∧ (∀ x, x ∈ L' ↔ x ∈ (L.map fun q => q.1.id).filter (hdQ L)) ∧ L'.length ≤ 4096 ∧ Below wi.heap.size wi w') (fun e w' ⟨v', L', h1, h2, h3, h4, h5, h6⟩ => ⟨v', L', h1, OwnH.of h2, ownsH_block h2, h3, by rw [hke, List.take_length] at h4; exact h4, by have := KC.out; have := HL.out; omega, h6⟩)).mono ?_
   rintro e wz ⟨vz, Lz, rfl, h1, h2, h3, h4, h5, h6⟩
   refine ⟨_, rfl, ?_⟩
   clear hso
   have Z1 := Keep.mk h1
   have Z2 := Keep.mk h2
   have Z3 := Keep.mk h3
   have Z4 := Keep.mk h4
   have Z5 := Keep.mk h5
   have Z6 := Keep.mk (belowT (belowT R6.out KA.out) h6)
   have Z7 : Keep (w.heap.size ≤ wi.heap.size) := ⟨(belowT R6.out KA.out).size⟩
   clear h1 h2 h3 h4 h5 h6
   simp only [Act.put, pqA, pqB, pqC]
   refine VlS (vz) ?_
   refine WL.nil (hK21 _ _ ?_)
   refine wp_ret ?_
   go_ret
   exact ⟨vz, Lz, rfl, ⟨Z1.out, fun k hk => Nat.le_trans Z7.out (Z2.out k hk), Z6.out⟩, Z3.out, Z4.out, Z5.out⟩
end Go.Proofs.Ytogmdfhicbmplaa
namespace Go.Proofs.Ytogmdfhicbmplaa
open Go.RowKit
set_option linter.unusedSimpArgs false
set_option linter.unusedVariables false

theorem Try.in11 (w : World) (vs : Array Value) : (callFunc 11 vs).run Try.prog w = .ok (.enter 11 vs) w := by kernel_rfl
set_option maxRecDepth 8000 in
set_option maxHeartbeats 400000 in
theorem rnew_any (r : Int) (w : World) : Calls Try.prog 11 #[.int .i64 r] w fun e w' => ((r < 0 ∨ 64 < r) ∧ e = .returned (.tuple #[.pointer none, .int .i64 1]) ∧ w' = w) ∨ (0 ≤ r ∧ r ≤ 64 ∧ e = .returned (.tuple #[ptr w.heap.size, .int .i64 0]) ∧ Blk w' w.heap.size 79 (rdA r (.slice none 0 0) (.slice none 0 0) (.slice none 0 0)) ∧ Below w.heap.size w w') := by
 go_enter Try.func11, Try.ntmps11
 refine wp_seq_k fun K1 hK1 => rgn ?_
 refine VlS (.pointer none) ?_
 refine VlS (.int .i64 0) ?_
 refine WL.nil (hK1 _ _ ?_)
 refine wp_seq_k fun K2 hK2 => ?_
 refine wp_seq_k fun K3 hK3 => rgn ?_
 refine VlS (.int .i64 r) ?_
 by_cases h1_1 : r < 0
 ·skip
  refine VlS (.bool true) ?_
  refine VlS (.bool true) ?_
  refine SkS ?_
  refine SkS ?_
  refine VlS (.bool true) ?_
  refine WL.nil (hK3 _ _ ?_)
  refine wp_cond_true rfl ?_
  refine wp_seq_k fun K4 hK4 => rgn ?_
  refine VlS (.pointer none) ?_
  refine VlS (.int .i64 1) ?_
  refine WL.nil (hK4 _ _ ?_)
  refine wp_ret ?_
  go_ret2
  exact .inl ⟨by omega, rfl, rfl⟩
 ·skip
  refine VlS (.bool false) ?_
  refine VlS (.bool false) ?_
  refine VlS (.int .i64 r) ?_
  by_cases h1_4 : 64 < r
  ·skip
   refine VlS (.bool true) ?_
   refine VlS (.bool true) ?_
   refine WL.nil (hK3 _ _ ?_)
   refine wp_cond_true rfl ?_
   refine wp_seq_k fun K5 hK5 => rgn ?_
   refine VlS (.pointer none) ?_
   refine VlS (.int .i64 1) ?_
   refine WL.nil (hK5 _ _ ?_)
   refine wp_ret ?_
   go_ret2
   exact .inl ⟨by omega, rfl, rfl⟩
  ·skip
   refine VlS (.bool false) ?_
   refine VlS (.bool false) ?_
   refine WL.nil (hK3 _ _ ?_)
   refine wp_cond_false rfl ?_
   refine wp_skip ?_
   refine hK2 _ _ ?_
   refine wp_seq_k fun K6 hK6 => rgn ?_
   refine VlS (.int .i64 r) ?_
   refine WL.bld (by kernel_rfl) 79 _ rfl [(0, .int .i64 r)] (by simp [Act.eval]) (rdA r (.slice none 0 0) (.slice none 0 0) (.slice none 0 0)) (by kernel_rfl) ?_
   simp only [Act.put, pqA, pqB, pqC]
   refine WL.box (by kernel_rfl) 79 (.tmp 11) rfl (rdA r (.slice none 0 0) (.slice none 0 0) (.slice none 0 0)) rfl ?_
   simp only [Act.put, pqA, pqB, pqC]
   refine VlS (.pointer (some ⟨w.heap.size, 0, none⟩)) ?_
   refine VlS (.int .i64 0) ?_
   refine WL.nil (hK6 _ _ ?_)
   refine wp_ret ?_
   go_ret2
   exact .inr ⟨by omega, by omega, rfl, Blk.new _ _ _, below_new _ _⟩
set_option maxRecDepth 8000 in
set_option maxHeartbeats 1000000 in
theorem rheads_any (d : Nat) (R : RG) (w : World) (hD : RRd w d R) (hI : RI R) : Calls Try.prog 49 #[ptr d] w fun e w' => ∃ v' L', e = .returned v' ∧ Fresh w w' v' L' ∧ L'.Pairwise Lt ∧ (∀ x, x ∈ L' ↔ x ∈ (R.held.map fun q => q.1.id).filter (hdQ R.held)) ∧ L'.length ≤ 4096 := by
 obtain ⟨hv, wv, sv, g1, g2, -, -⟩ := hD
 obtain ⟨wa, wc, rfl⟩ := g2.form
 have G1 := Keep.mk g1
 have G2 := Keep.mk g2
 have HI := Keep.mk hI
 clear g1 g2 hI
 go_enter Try.func49, Try.ntmps49
 refine wp_seq_k fun K1 hK1 => rgn ?_
 refine VlS (.slice none 0 0) ?_
 refine WL.nil (hK1 _ _ ?_)
 refine wp_seq_k fun K2 hK2 => rgn ?_
 refine VlS (.pointer (some ⟨d, 0, none⟩)) ?_
 refine VlS (.pointer (some ⟨d, 0, none⟩)) ?_
 refine VlS (.pointer (some ⟨d, 1, none⟩)) ?_
 have c2 : w.cell? ⟨d, 1, none⟩ = some (.slice wa R.held.length wc) := G1.out.c 1 rfl
 refine WL.val (by kernel_rfl) (.slice wa R.held.length wc) (by go_simp) ?_
 clear c2
 simp only [Act.put, pqA, pqB, pqC]
 refine WL.callF (by kernel_rfl) 76 _ _ rfl Try.in76 #[.slice wa R.held.length wc] (by simp [Act.eval]) ?_
 refine (rHeads_any _ R.held w G2.out HI.out.hl (fun q hq => HI.out.hp q.1 (List.mem_map.2 ⟨q, hq, rfl⟩))).mono ?_
 rintro e w1 ⟨v7, L7, rfl, hf⟩
 refine ⟨_, rfl, ?_⟩
 have F1 := Keep.mk hf
 clear hf
 simp only [Act.put, pqA, pqB, pqC]
 refine VlS (v7) ?_
 refine WL.nil (hK2 _ _ ?_)
 refine wp_ret ?_
 go_ret
 exact ⟨_, _, rfl, F1.out⟩
end Go.Proofs.Ytogmdfhicbmplaa
namespace Go.Proofs.Ytogmdfhicbmplaa
open Go.RowKit
set_option linter.unusedSimpArgs false
set_option linter.unusedVariables false

end Go.Proofs.Ytogmdfhicbmplaa
