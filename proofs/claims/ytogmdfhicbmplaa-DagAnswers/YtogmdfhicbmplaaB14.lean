import Derived.Test.YtogmdfhicbmplaaB13
namespace Go.Proofs.Ytogmdfhicbmplaa
open Go.RowKit
set_option linter.unusedSimpArgs false
set_option linter.unusedVariables false

theorem Try.in37 (w : World) (vs : Array Value) : (callFunc 37 vs).run Try.prog w = .ok (.enter 37 vs) w := by kernel_rfl
set_option maxRecDepth 8000 in
set_option maxHeartbeats 1000000 in
theorem rfit_any (d : Nat) (v : VX) (p : Value) (R : RG) (w : World) (hD : RRd w d R) (hI : RI R) (hr : HRow w p v.ps) (hL : (v.ps.length : Int) ≤ 9223372036854775806) : Calls Try.prog 37 #[ptr d, .agg (vtx v.id.f v.ck p)] w fun e w' => e = .returned (.tuple #[.int .i64 (fitV R.hs R.ws v).1, .int .i64 (fitV R.hs R.ws v).2]) ∧ Below w.heap.size w w' := by
 obtain ⟨pa, pc, rfl⟩ := hr.form
 obtain ⟨vv, hvv⟩ : ∃ a : Array Value, Keep (a = vtx v.id.f v.ck (.slice pa v.ps.length pc)) := ⟨_, ⟨rfl⟩⟩
 rw [← hvv.out]
 have HD := Keep.mk hD
 have HR := Keep.mk hr
 have HI := Keep.mk hI
 have HL := Keep.mk hL
 clear hD hr hI hL
 go_enter Try.func37, Try.ntmps37
 refine wp_seq_k fun K1 hK1 => rgn ?_
 refine WL.box (by kernel_rfl) 39 (.tmp 1) rfl (vv) rfl ?_
 obtain ⟨w1, hwn⟩ : ∃ wx, Keep (wx = w.alloc (.cells (vv) 39)) := ⟨_, ⟨rfl⟩⟩
 rw [← hwn.out]
 have HX1 : Keep (Blk w1 w.heap.size 39 (vv)) := ⟨by rw [hwn.out]; exact Blk.new _ _ _⟩
 have LB1 : Keep (Below w.heap.size w w1) := ⟨by rw [hwn.out]; exact below_new _ _⟩
 clear hwn
 have HR1 := Keep.mk (HR.out.below LB1.out)
 have HD1 := Keep.mk (HD.out.below LB1.out)
 simp only [Act.put, pqA, pqB, pqC]
 refine VlS (.int .i64 0) ?_
 refine VlS (.int .i64 0) ?_
 refine WL.nil (hK1 _ _ ?_)
 refine wp_seq_k fun K2 hK2 => rgn ?_
 refine VlS (.pointer (some ⟨d, 0, none⟩)) ?_
 refine VlS (.pointer (some ⟨w.heap.size, 0, none⟩)) ?_
 refine WL.midA (by kernel_rfl) 36 (.tmp 12) rfl w.heap.size 0 rfl (bytesA 32 v.id.f) _ (vtx_rng (hvv.out ▸ HX1.out)) Try.underlying36 rfl (Try.size36B _) ?_
 simp only [Act.put, pqA, pqB, pqC]
 refine WL.callF (by kernel_rfl) 46 _ _ rfl Try.in46 #[ptr d, .agg (bytesA 32 v.id.f)] (by simp [Act.eval]) ?_
 refine (rhas_any d v.id R w1 HD1.out HI.out).mono ?_
 rintro e w2 ⟨rfl, hz⟩
 refine ⟨_, rfl, ?_⟩
 have HX2 := Keep.mk (HX1.out.below hz HX1.out.lt)
 have LB2 := Keep.mk (belowT LB1.out hz)
 have HD2 := Keep.mk (HD1.out.below hz)
 have HR2 := Keep.mk (HR1.out.below hz)
 clear hz HX1 LB1 HD1 HR1
 obtain ⟨b1, Hb1⟩ : ∃ b, Keep (hasB R.hs v.id = b) := ⟨_, ⟨rfl⟩⟩
 rw [Hb1.out]
 simp only [Act.put, pqA, pqB, pqC]
 refine VlS (.bool b1) ?_
 refine WL.nil (hK2 _ _ ?_)
 refine wp_seq_k fun K3 hK3 => rgn ?_
 refine VlS (.pointer (some ⟨d, 0, none⟩)) ?_
 refine VlS (.pointer (some ⟨w.heap.size, 0, none⟩)) ?_
 refine WL.midA (by kernel_rfl) 36 (.tmp 16) rfl w.heap.size 0 rfl (bytesA 32 v.id.f) _ (vtx_rng (hvv.out ▸ HX2.out)) Try.underlying36 rfl (Try.size36B _) ?_
 simp only [Act.put, pqA, pqB, pqC]
 refine WL.callF (by kernel_rfl) 48 _ _ rfl Try.in48 #[ptr d, .agg (bytesA 32 v.id.f)] (by simp [Act.eval]) ?_
 refine (rwaits_any d v.id R w2 HD2.out HI.out).mono ?_
 rintro e w3 ⟨rfl, hz⟩
 refine ⟨_, rfl, ?_⟩
 have HX3 := Keep.mk (HX2.out.below hz HX2.out.lt)
 have LB3 := Keep.mk (belowT LB2.out hz)
 have HD3 := Keep.mk (HD2.out.below hz)
 have HR3 := Keep.mk (HR2.out.below hz)
 clear hz HX2 LB2 HD2 HR2
 obtain ⟨b2, Hb2⟩ : ∃ b, Keep (hasB R.ws v.id = b) := ⟨_, ⟨rfl⟩⟩
 rw [Hb2.out]
 simp only [Act.put, pqA, pqB, pqC]
 refine VlS (.bool b2) ?_
 refine WL.nil (hK3 _ _ ?_)
 refine wp_seq_k fun K4 hK4 => ?_
 refine wp_seq_k fun K5 hK5 => rgn ?_
 refine VlS (.bool b1) ?_
 by_cases h3_1 : b1 = true
 ·skip
  refine VlS (.bool true) ?_
  refine SkS ?_
  refine VlS (.bool true) ?_
  refine WL.nil (hK5 _ _ ?_)
  refine wp_cond_true rfl ?_
  refine wp_seq_k fun K6 hK6 => rgn ?_
  refine VlS (.int .i64 1) ?_
  refine VlS (.int .i64 0) ?_
  refine WL.nil (hK6 _ _ ?_)
  refine wp_ret ?_
  go_ret2
  refine ⟨?_, LB3.out⟩
  unfold fitV
  rw [if_pos (.inl (by rw [Hb1.out]; assumption))]; rfl
 ·skip
  refine VlS (.bool false) ?_
  refine VlS (.bool b2) ?_
  refine VlS (.bool b2) ?_
  refine WL.nil (hK5 _ _ ?_)
  rcases Bool.eq_false_or_eq_true b2 with hb2 | hb2
  ·subst hb2
   refine wp_cond_true rfl ?_
   refine wp_seq_k fun K7 hK7 => rgn ?_
   refine VlS (.int .i64 1) ?_
   refine VlS (.int .i64 0) ?_
   refine WL.nil (hK7 _ _ ?_)
   refine wp_ret ?_
   go_ret2
   refine ⟨?_, LB3.out⟩
   unfold fitV
   rw [if_pos (.inr Hb2.out)]; rfl
  ·subst hb2
   refine wp_cond_false rfl ?_
   refine wp_skip ?_
   refine hK4 _ _ ?_
   refine wp_seq_k fun K8 hK8 => rgn ?_
   refine VlS (.pointer (some ⟨w.heap.size, 33, none⟩)) ?_
   have c33 : w3.cell? ⟨w.heap.size, 33, none⟩ = some (.slice pa v.ps.length pc) := HX3.out.c 33 (by rw [hvv.out]; exact vtx_ps _ _ _)
   refine WL.val (by kernel_rfl) (.slice pa v.ps.length pc) (by go_simp) ?_
   clear c33
   simp only [Act.put, pqA, pqB, pqC]
   have hrs := refRising_any _ v.ps w3 HR3.out HL.out
   refine WL.callF (by kernel_rfl) 65 _ _ rfl Try.in65 #[.slice pa v.ps.length pc] (by simp [Act.eval]) ?_
   refine (hrs).mono ?_
   rintro e w4 ⟨rfl, hz⟩
   refine ⟨_, rfl, ?_⟩
   clear hrs
   have HX4 := Keep.mk (HX3.out.below hz HX3.out.lt)
   have LB4 := Keep.mk (belowT LB3.out hz)
   have HD4 := Keep.mk (HD3.out.below hz)
   have HR4 := Keep.mk (HR3.out.below hz)
   clear hz HX3 LB3 HD3 HR3
   obtain ⟨rb, Hrb⟩ : ∃ b, Keep (risesB v.ps = b) := ⟨_, ⟨rfl⟩⟩
   rw [Hrb.out]
   simp only [Act.put, pqA, pqB, pqC]
   refine VlS (.bool rb) ?_
   refine WL.nil (hK8 _ _ ?_)
   refine wp_seq_k fun K9 hK9 => ?_
   refine wp_seq_k fun K10 hK10 => rgn ?_
   refine VlS (.pointer (some ⟨w.heap.size, 33, none⟩)) ?_
   have c33 : w4.cell? ⟨w.heap.size, 33, none⟩ = some (.slice pa v.ps.length pc) := HX4.out.c 33 (by rw [hvv.out]; exact vtx_ps _ _ _)
   refine WL.val (by kernel_rfl) (.slice pa v.ps.length pc) (by go_simp) ?_
   clear c33
   simp only [Act.put, pqA, pqB, pqC]
   refine VlS (.int .i64 (v.ps.length : Int)) ?_
   by_cases h6_3 : (64 : Int) < (v.ps.length : Int)
   ·skip
    refine VlS (.bool true) ?_
    refine VlS (.bool true) ?_
    refine SkS ?_
    refine SkS ?_
    refine VlS (.bool true) ?_
    refine WL.nil (hK10 _ _ ?_)
    refine wp_cond_true rfl ?_
    refine wp_seq_k fun K11 hK11 => rgn ?_
    refine VlS (.int .i64 0) ?_
    refine VlS (.int .i64 52) ?_
    refine WL.nil (hK11 _ _ ?_)
    refine wp_ret ?_
    go_ret2
    refine ⟨?_, LB4.out⟩
    unfold fitV
    rw [if_neg (by rw [Hb1.out, Hb2.out]; simp [h3_1])]
    have hc : chkV v = 52 := by rw [chkV, if_pos (.inl (by omega))]
    rw [hc, if_pos (by omega)]; rfl
   ·skip
    refine VlS (.bool false) ?_
    refine VlS (.bool false) ?_
    refine VlS (.bool rb) ?_
    by_cases h6_6 : rb = true
    ·skip
     refine VlS (.bool false) ?_
     refine VlS (.bool false) ?_
     refine WL.nil (hK10 _ _ ?_)
     refine wp_cond_false rfl ?_
     refine wp_skip ?_
     refine hK9 _ _ ?_
     refine wp_seq_k fun K12 hK12 => ?_
     refine wp_seq_k fun K13 hK13 => rgn ?_
     refine VlS (.pointer (some ⟨w.heap.size, 32, none⟩)) ?_
     have c32 : w4.cell? ⟨w.heap.size, 32, none⟩ = some (.int .i64 v.ck) := HX4.out.c 32 (by rw [hvv.out]; exact vtx_ck _ _ _)
     refine WL.val (by kernel_rfl) (.int .i64 v.ck) (by go_simp) ?_
     clear c32
     simp only [Act.put, pqA, pqB, pqC]
     by_cases h8_2 : v.ck < 1
     ·skip
      refine VlS (.bool true) ?_
      refine VlS (.bool true) ?_
      refine SkS ?_
      refine SkS ?_
      refine SkS ?_
      refine VlS (.bool true) ?_
      refine VlS (.bool true) ?_
      refine SkS ?_
      refine SkS ?_
      refine SkS ?_
      refine SkS ?_
      refine SkS ?_
      refine SkS ?_
      refine SkS ?_
      refine SkS ?_
      refine VlS (.bool true) ?_
      refine WL.nil (hK13 _ _ ?_)
      refine wp_cond_true rfl ?_
      refine wp_seq_k fun K14 hK14 => rgn ?_
      refine VlS (.int .i64 0) ?_
      refine VlS (.int .i64 51) ?_
      refine WL.nil (hK14 _ _ ?_)
      refine wp_ret ?_
      go_ret2
      refine ⟨?_, LB4.out⟩
      unfold fitV
      rw [if_neg (by rw [Hb1.out, Hb2.out]; simp [h3_1])]
      have hc : chkV v = 51 := by rw [chkV, if_neg (by rw [Hrb.out]; simp only [h6_6]; simp; omega), if_pos (by omega)]
      rw [hc, if_pos (by omega)]; rfl
     ·skip
      refine VlS (.bool false) ?_
      refine VlS (.bool false) ?_
      refine VlS (.pointer (some ⟨w.heap.size, 32, none⟩)) ?_
      have c32 : w4.cell? ⟨w.heap.size, 32, none⟩ = some (.int .i64 v.ck) := HX4.out.c 32 (by rw [hvv.out]; exact vtx_ck _ _ _)
      refine WL.val (by kernel_rfl) (.int .i64 v.ck) (by go_simp) ?_
      clear c32
      simp only [Act.put, pqA, pqB, pqC]
      by_cases h8_6 : 4096 < v.ck
      ·skip
       refine VlS (.bool true) ?_
       refine VlS (.bool true) ?_
       refine VlS (.bool true) ?_
       refine SkS ?_
       refine SkS ?_
       refine SkS ?_
       refine SkS ?_
       refine SkS ?_
       refine SkS ?_
       refine SkS ?_
       refine SkS ?_
       refine VlS (.bool true) ?_
       refine WL.nil (hK13 _ _ ?_)
       refine wp_cond_true rfl ?_
       refine wp_seq_k fun K15 hK15 => rgn ?_
       refine VlS (.int .i64 0) ?_
       refine VlS (.int .i64 51) ?_
       refine WL.nil (hK15 _ _ ?_)
       refine wp_ret ?_
       go_ret2
       refine ⟨?_, LB4.out⟩
       unfold fitV
       rw [if_neg (by rw [Hb1.out, Hb2.out]; simp [h3_1])]
       have hc : chkV v = 51 := by rw [chkV, if_neg (by rw [Hrb.out]; simp only [h6_6]; simp; omega), if_pos (by omega)]
       rw [hc, if_pos (by omega)]; rfl
      ·skip
       refine VlS (.bool false) ?_
       refine VlS (.bool false) ?_
       refine VlS (.bool false) ?_
       refine VlS (.pointer (some ⟨w.heap.size, 32, none⟩)) ?_
       have c32 : w4.cell? ⟨w.heap.size, 32, none⟩ = some (.int .i64 v.ck) := HX4.out.c 32 (by rw [hvv.out]; exact vtx_ck _ _ _)
       refine WL.val (by kernel_rfl) (.int .i64 v.ck) (by go_simp) ?_
       clear c32
       simp only [Act.put, pqA, pqB, pqC]
       by_cases h8_11 : v.ck = 1
       ·skip
        refine VlS (.bool true) ?_
        refine VlS (.pointer (some ⟨w.heap.size, 33, none⟩)) ?_
        have c33 : w4.cell? ⟨w.heap.size, 33, none⟩ = some (.slice pa v.ps.length pc) := HX4.out.c 33 (by rw [hvv.out]; exact vtx_ps _ _ _)
        refine WL.val (by kernel_rfl) (.slice pa v.ps.length pc) (by go_simp) ?_
        clear c33
        simp only [Act.put, pqA, pqB, pqC]
        refine VlS (.int .i64 (v.ps.length : Int)) ?_
        by_cases h8_15 : (v.ps.length : Int) = 0
        ·have hps : v.ps = [] := List.eq_nil_of_length_eq_zero (by omega)
         refine VlS (.bool true) ?_
         refine VlS (.bool false) ?_
         refine VlS (.bool false) ?_
         refine WL.nil (hK13 _ _ ?_)
         refine wp_cond_false rfl ?_
         refine wp_skip ?_
         refine hK12 _ _ ?_
         refine wp_seq_k fun K16 hK16 => rgn ?_
         refine VlS (.pointer (some ⟨d, 0, none⟩)) ?_
         refine WL.row (by kernel_rfl) 39 (.tmp 3) rfl w.heap.size rfl 39 vv _ HX4.out Try.underlying39 rfl (by rw [hvv.out]; exact Try.info39s _ _ _) ?_
         simp only [Act.put, pqA, pqB, pqC]
         have hcl := rclosed_any d v _ R w4 HD4.out HI.out HR4.out HL.out
         rw [← hvv.out] at hcl
         refine WL.callF (by kernel_rfl) 70 _ _ rfl Try.in70 #[ptr d, .agg vv] (by simp [Act.eval]) ?_
         refine (hcl).mono ?_
         rintro e w5 ⟨rfl, hz⟩
         refine ⟨_, rfl, ?_⟩
         clear hcl
         have HX5 := Keep.mk (HX4.out.below hz HX4.out.lt)
         have LB5 := Keep.mk (belowT LB4.out hz)
         have HD5 := Keep.mk (HD4.out.below hz)
         have HR5 := Keep.mk (HR4.out.below hz)
         clear hz HX4 LB4 HD4 HR4
         obtain ⟨ba, Hba⟩ : ∃ b, Keep (v.ps.all (hasB R.hs) = b) := ⟨_, ⟨rfl⟩⟩
         rw [Hba.out]
         simp only [Act.put, pqA, pqB, pqC]
         refine VlS (.bool ba) ?_
         refine WL.nil (hK16 _ _ ?_)
         refine wp_seq_k fun K17 hK17 => ?_
         refine wp_seq_k fun K18 hK18 => rgn ?_
         refine VlS (.bool ba) ?_
         by_cases h11_1 : ba = true
         ·skip
          refine VlS (.bool false) ?_
          refine WL.nil (hK18 _ _ ?_)
          refine wp_cond_false rfl ?_
          refine wp_skip ?_
          refine hK17 _ _ ?_
          refine wp_seq_k fun K19 hK19 => rgn ?_
          refine VlS (.pointer (some ⟨d, 0, none⟩)) ?_
          refine WL.row (by kernel_rfl) 39 (.tmp 3) rfl w.heap.size rfl 39 vv _ HX5.out Try.underlying39 rfl (by rw [hvv.out]; exact Try.info39s _ _ _) ?_
          simp only [Act.put, pqA, pqB, pqC]
          have hmy := rmay_any d v _ R w5 HD5.out HI.out HR5.out HL.out
          rw [← hvv.out] at hmy
          refine WL.callF (by kernel_rfl) 71 _ _ rfl Try.in71 #[ptr d, .agg vv] (by simp [Act.eval]) ?_
          refine (hmy).mono ?_
          rintro e w6 ⟨rfl, hz⟩
          refine ⟨_, rfl, ?_⟩
          clear hmy
          have HX6 := Keep.mk (HX5.out.below hz HX5.out.lt)
          have LB6 := Keep.mk (belowT LB5.out hz)
          have HD6 := Keep.mk (HD5.out.below hz)
          have HR6 := Keep.mk (HR5.out.below hz)
          clear hz HX5 LB5 HD5 HR5
          obtain ⟨ne, Hne⟩ : ∃ b, Keep (nextE R.hs v = b) := ⟨_, ⟨rfl⟩⟩
          rw [Hne.out]
          simp only [Act.put, pqA, pqB, pqC]
          refine VlS (.int .i64 ne) ?_
          refine WL.nil (hK19 _ _ ?_)
          refine wp_seq_k fun K20 hK20 => ?_
          refine wp_seq_k fun K21 hK21 => rgn ?_
          refine VlS (.int .i64 ne) ?_
          by_cases h14_1 : ne = 0
          ·skip
           refine VlS (.bool false) ?_
           refine WL.nil (hK21 _ _ ?_)
           refine wp_cond_false rfl ?_
           refine wp_skip ?_
           refine hK20 _ _ ?_
           refine wp_seq_k fun K22 hK22 => rgn ?_
           refine VlS (.int .i64 2) ?_
           refine VlS (.int .i64 0) ?_
           refine WL.nil (hK22 _ _ ?_)
           refine wp_ret ?_
           go_ret2
           refine ⟨?_, LB6.out⟩
           unfold fitV
           rw [if_neg (by rw [Hb1.out, Hb2.out]; simp [h3_1])]
           have hc : chkV v = 0 := by rw [chkV, if_neg (by rw [Hrb.out]; simp only [h6_6]; simp; omega), if_neg (by omega)]
           rw [hc, if_neg (by omega), Hba.out]
           rw [if_neg (by simp [h11_1]), Hne.out]
           rw [if_neg (by simpa using h14_1)]; rfl
          ·skip
           refine VlS (.bool true) ?_
           refine WL.nil (hK21 _ _ ?_)
           refine wp_cond_true rfl ?_
           refine wp_seq_k fun K23 hK23 => rgn ?_
           refine VlS (.int .i64 ne) ?_
           refine VlS (.int .i64 0) ?_
           refine VlS (.int .i64 ne) ?_
           refine WL.nil (hK23 _ _ ?_)
           refine wp_ret ?_
           go_ret2
           refine ⟨?_, LB6.out⟩
           unfold fitV
           rw [if_neg (by rw [Hb1.out, Hb2.out]; simp [h3_1])]
           have hc : chkV v = 0 := by rw [chkV, if_neg (by rw [Hrb.out]; simp only [h6_6]; simp; omega), if_neg (by omega)]
           rw [hc, if_neg (by omega), Hba.out]
           rw [if_neg (by simp [h11_1]), Hne.out]
           rw [if_pos h14_1]; rfl
         ·skip
          refine VlS (.bool true) ?_
          refine WL.nil (hK18 _ _ ?_)
          refine wp_cond_true rfl ?_
          refine wp_seq_k fun K24 hK24 => rgn ?_
          refine VlS (.int .i64 3) ?_
          refine VlS (.int .i64 0) ?_
          refine WL.nil (hK24 _ _ ?_)
          refine wp_ret ?_
          go_ret2
          refine ⟨?_, LB5.out⟩
          unfold fitV
          rw [if_neg (by rw [Hb1.out, Hb2.out]; simp [h3_1])]
          have hc : chkV v = 0 := by rw [chkV, if_neg (by rw [Hrb.out]; simp only [h6_6]; simp; omega), if_neg (by omega)]
          rw [hc, if_neg (by omega), Hba.out]
          rw [if_pos (by simpa using h11_1)]; rfl
        ·have hps : ¬ v.ps = [] := fun h => by rw [h] at h8_15; simp at h8_15
         refine VlS (.bool false) ?_
         refine VlS (.bool true) ?_
         refine VlS (.bool true) ?_
         refine WL.nil (hK13 _ _ ?_)
         refine wp_cond_true rfl ?_
         refine wp_seq_k fun K25 hK25 => rgn ?_
         refine VlS (.int .i64 0) ?_
         refine VlS (.int .i64 51) ?_
         refine WL.nil (hK25 _ _ ?_)
         refine wp_ret ?_
         go_ret2
         refine ⟨?_, LB4.out⟩
         unfold fitV
         rw [if_neg (by rw [Hb1.out, Hb2.out]; simp [h3_1])]
         have hc : chkV v = 51 := by rw [chkV, if_neg (by rw [Hrb.out]; simp only [h6_6]; simp; omega), if_pos (by omega)]
         rw [hc, if_pos (by omega)]; rfl
       ·skip
        refine VlS (.bool false) ?_
        refine VlS (.pointer (some ⟨w.heap.size, 33, none⟩)) ?_
        have c33 : w4.cell? ⟨w.heap.size, 33, none⟩ = some (.slice pa v.ps.length pc) := HX4.out.c 33 (by rw [hvv.out]; exact vtx_ps _ _ _)
        refine WL.val (by kernel_rfl) (.slice pa v.ps.length pc) (by go_simp) ?_
        clear c33
        simp only [Act.put, pqA, pqB, pqC]
        refine VlS (.int .i64 (v.ps.length : Int)) ?_
        by_cases h8_15 : (v.ps.length : Int) = 0
        ·have hps : v.ps = [] := List.eq_nil_of_length_eq_zero (by omega)
         refine VlS (.bool true) ?_
         refine VlS (.bool true) ?_
         refine VlS (.bool true) ?_
         refine WL.nil (hK13 _ _ ?_)
         refine wp_cond_true rfl ?_
         refine wp_seq_k fun K26 hK26 => rgn ?_
         refine VlS (.int .i64 0) ?_
         refine VlS (.int .i64 51) ?_
         refine WL.nil (hK26 _ _ ?_)
         refine wp_ret ?_
         go_ret2
         refine ⟨?_, LB4.out⟩
         unfold fitV
         rw [if_neg (by rw [Hb1.out, Hb2.out]; simp [h3_1])]
         have hc : chkV v = 51 := by rw [chkV, if_neg (by rw [Hrb.out]; simp only [h6_6]; simp; omega), if_pos (by omega)]
         rw [hc, if_pos (by omega)]; rfl
        ·have hps : ¬ v.ps = [] := fun h => by rw [h] at h8_15; simp at h8_15
         refine VlS (.bool false) ?_
         refine VlS (.bool false) ?_
         refine VlS (.bool false) ?_
         refine WL.nil (hK13 _ _ ?_)
         refine wp_cond_false rfl ?_
         refine wp_skip ?_
         refine hK12 _ _ ?_
         refine wp_seq_k fun K27 hK27 => rgn ?_
         refine VlS (.pointer (some ⟨d, 0, none⟩)) ?_
         refine WL.row (by kernel_rfl) 39 (.tmp 3) rfl w.heap.size rfl 39 vv _ HX4.out Try.underlying39 rfl (by rw [hvv.out]; exact Try.info39s _ _ _) ?_
         simp only [Act.put, pqA, pqB, pqC]
         have hcl := rclosed_any d v _ R w4 HD4.out HI.out HR4.out HL.out
         rw [← hvv.out] at hcl
         refine WL.callF (by kernel_rfl) 70 _ _ rfl Try.in70 #[ptr d, .agg vv] (by simp [Act.eval]) ?_
         refine (hcl).mono ?_
         rintro e w5 ⟨rfl, hz⟩
         refine ⟨_, rfl, ?_⟩
         clear hcl
         have HX5 := Keep.mk (HX4.out.below hz HX4.out.lt)
         have LB5 := Keep.mk (belowT LB4.out hz)
         have HD5 := Keep.mk (HD4.out.below hz)
         have HR5 := Keep.mk (HR4.out.below hz)
         clear hz HX4 LB4 HD4 HR4
         obtain ⟨ba, Hba⟩ : ∃ b, Keep (v.ps.all (hasB R.hs) = b) := ⟨_, ⟨rfl⟩⟩
         rw [Hba.out]
         simp only [Act.put, pqA, pqB, pqC]
         refine VlS (.bool ba) ?_
         refine WL.nil (hK27 _ _ ?_)
         refine wp_seq_k fun K28 hK28 => ?_
         refine wp_seq_k fun K29 hK29 => rgn ?_
         refine VlS (.bool ba) ?_
         by_cases h11_1 : ba = true
         ·skip
          refine VlS (.bool false) ?_
          refine WL.nil (hK29 _ _ ?_)
          refine wp_cond_false rfl ?_
          refine wp_skip ?_
          refine hK28 _ _ ?_
          refine wp_seq_k fun K30 hK30 => rgn ?_
          refine VlS (.pointer (some ⟨d, 0, none⟩)) ?_
          refine WL.row (by kernel_rfl) 39 (.tmp 3) rfl w.heap.size rfl 39 vv _ HX5.out Try.underlying39 rfl (by rw [hvv.out]; exact Try.info39s _ _ _) ?_
          simp only [Act.put, pqA, pqB, pqC]
          have hmy := rmay_any d v _ R w5 HD5.out HI.out HR5.out HL.out
          rw [← hvv.out] at hmy
          refine WL.callF (by kernel_rfl) 71 _ _ rfl Try.in71 #[ptr d, .agg vv] (by simp [Act.eval]) ?_
          refine (hmy).mono ?_
          rintro e w6 ⟨rfl, hz⟩
          refine ⟨_, rfl, ?_⟩
          clear hmy
          have HX6 := Keep.mk (HX5.out.below hz HX5.out.lt)
          have LB6 := Keep.mk (belowT LB5.out hz)
          have HD6 := Keep.mk (HD5.out.below hz)
          have HR6 := Keep.mk (HR5.out.below hz)
          clear hz HX5 LB5 HD5 HR5
          obtain ⟨ne, Hne⟩ : ∃ b, Keep (nextE R.hs v = b) := ⟨_, ⟨rfl⟩⟩
          rw [Hne.out]
          simp only [Act.put, pqA, pqB, pqC]
          refine VlS (.int .i64 ne) ?_
          refine WL.nil (hK30 _ _ ?_)
          refine wp_seq_k fun K31 hK31 => ?_
          refine wp_seq_k fun K32 hK32 => rgn ?_
          refine VlS (.int .i64 ne) ?_
          by_cases h14_1 : ne = 0
          ·skip
           refine VlS (.bool false) ?_
           refine WL.nil (hK32 _ _ ?_)
           refine wp_cond_false rfl ?_
           refine wp_skip ?_
           refine hK31 _ _ ?_
           refine wp_seq_k fun K33 hK33 => rgn ?_
           refine VlS (.int .i64 2) ?_
           refine VlS (.int .i64 0) ?_
           refine WL.nil (hK33 _ _ ?_)
           refine wp_ret ?_
           go_ret2
           refine ⟨?_, LB6.out⟩
           unfold fitV
           rw [if_neg (by rw [Hb1.out, Hb2.out]; simp [h3_1])]
           have hc : chkV v = 0 := by rw [chkV, if_neg (by rw [Hrb.out]; simp only [h6_6]; simp; omega), if_neg (by omega)]
           rw [hc, if_neg (by omega), Hba.out]
           rw [if_neg (by simp [h11_1]), Hne.out]
           rw [if_neg (by simpa using h14_1)]; rfl
          ·skip
           refine VlS (.bool true) ?_
           refine WL.nil (hK32 _ _ ?_)
           refine wp_cond_true rfl ?_
           refine wp_seq_k fun K34 hK34 => rgn ?_
           refine VlS (.int .i64 ne) ?_
           refine VlS (.int .i64 0) ?_
           refine VlS (.int .i64 ne) ?_
           refine WL.nil (hK34 _ _ ?_)
           refine wp_ret ?_
           go_ret2
           refine ⟨?_, LB6.out⟩
           unfold fitV
           rw [if_neg (by rw [Hb1.out, Hb2.out]; simp [h3_1])]
           have hc : chkV v = 0 := by rw [chkV, if_neg (by rw [Hrb.out]; simp only [h6_6]; simp; omega), if_neg (by omega)]
           rw [hc, if_neg (by omega), Hba.out]
           rw [if_neg (by simp [h11_1]), Hne.out]
           rw [if_pos h14_1]; rfl
         ·skip
          refine VlS (.bool true) ?_
          refine WL.nil (hK29 _ _ ?_)
          refine wp_cond_true rfl ?_
          refine wp_seq_k fun K35 hK35 => rgn ?_
          refine VlS (.int .i64 3) ?_
          refine VlS (.int .i64 0) ?_
          refine WL.nil (hK35 _ _ ?_)
          refine wp_ret ?_
          go_ret2
          refine ⟨?_, LB5.out⟩
          unfold fitV
          rw [if_neg (by rw [Hb1.out, Hb2.out]; simp [h3_1])]
          have hc : chkV v = 0 := by rw [chkV, if_neg (by rw [Hrb.out]; simp only [h6_6]; simp; omega), if_neg (by omega)]
          rw [hc, if_neg (by omega), Hba.out]
          rw [if_pos (by simpa using h11_1)]; rfl
    ·skip
     refine VlS (.bool true) ?_
     refine VlS (.bool true) ?_
     refine WL.nil (hK10 _ _ ?_)
     refine wp_cond_true rfl ?_
     refine wp_seq_k fun K36 hK36 => rgn ?_
     refine VlS (.int .i64 0) ?_
     refine VlS (.int .i64 52) ?_
     refine WL.nil (hK36 _ _ ?_)
     refine wp_ret ?_
     go_ret2
     refine ⟨?_, LB4.out⟩
     unfold fitV
     rw [if_neg (by rw [Hb1.out, Hb2.out]; simp [h3_1])]
     have hc : chkV v = 52 := by rw [chkV, if_pos (.inr (by rw [Hrb.out]; simpa using h6_6))]
     rw [hc, if_pos (by omega)]; rfl
end Go.Proofs.Ytogmdfhicbmplaa
namespace Go.Proofs.Ytogmdfhicbmplaa
open Go.RowKit
set_option linter.unusedSimpArgs false
set_option linter.unusedVariables false

theorem Try.in41 (w : World) (vs : Array Value) : (callFunc 41 vs).run Try.prog w = .ok (.enter 41 vs) w := by kernel_rfl
set_option maxRecDepth 8000 in
set_option maxHeartbeats 1000000 in
theorem rready_any (d : Nat) (x : Hs) (R : RG) (w : World) (hD : RRd w d R) (hI : RI R) : Calls Try.prog 41 #[ptr d, .agg (bytesA 32 x.f)] w fun e w' => e = .returned (.int .i64 (rdyE R.hs R.ws x)) ∧ Below w.heap.size w w' := by
 have HD := Keep.mk hD
 have HI := Keep.mk hI
 clear hD hI
 go_enter Try.func41, Try.ntmps41
 refine wp_seq_k fun K1 hK1 => rgn ?_
 refine WL.box (by kernel_rfl) 36 (.tmp 1) rfl (bytesA 32 x.f) rfl ?_
 obtain ⟨w1, hwn⟩ : ∃ wx, Keep (wx = w.alloc (.cells (bytesA 32 x.f) 36)) := ⟨_, ⟨rfl⟩⟩
 rw [← hwn.out]
 have HX1 : Keep (Blk w1 w.heap.size 36 (bytesA 32 x.f)) := ⟨by rw [hwn.out]; exact Blk.new _ _ _⟩
 have LB1 : Keep (Below w.heap.size w w1) := ⟨by rw [hwn.out]; exact below_new _ _⟩
 clear hwn
 have HD1 := Keep.mk (HD.out.below LB1.out)
 simp only [Act.put, pqA, pqB, pqC]
 refine VlS (.int .i64 0) ?_
 refine WL.nil (hK1 _ _ ?_)
 refine wp_seq_k fun K2 hK2 => ?_
 obtain ⟨hv, wv, sv, g1, -, g2, -⟩ := HD1.out
 have G1 := Keep.mk g1
 have G2 := Keep.mk g2
 clear g1 g2
 by_cases hb : hasB R.ws x = true
 ·have HB := Keep.mk hb
  clear hb
  obtain ⟨m, hm, hmi, hmf⟩ := ixF_find (t := 0) (show hasB (R.wait.map (·.1)) x = true from HB.out)
  rw [Nat.zero_add] at hmi
  obtain ⟨wa, wc, rfl⟩ := G2.out.form
  obtain ⟨gp, op, rfl, -, hrg⟩ := G2.out.at (by omega)
  have HG := Keep.mk (flatV_lt hrg (by omega))
  have Hcl := Keep.mk (flat_elem encV_len hrg m hm)
  have HMI := Keep.mk hmi
  obtain ⟨qq, hqq⟩ : ∃ q, Keep (q = R.wait[m]) := ⟨_, ⟨rfl⟩⟩
  have HMF : Keep (R.ws.find? (isV x) = some qq.1) := ⟨by rw [hqq.out]; exact hmf⟩
  have HQ : Keep (HRow w1 qq.2 qq.1.ps ∧ qq.1.ps.length ≤ 4398046511104) := ⟨G2.out.2 qq (by rw [hqq.out]; exact List.getElem_mem hm)⟩
  have hml : (m : Int) < (R.wait.length : Int) := by omega
  have hm0 : ¬ (m : Int) < 0 := by omega
  obtain ⟨vv, hvv⟩ : ∃ a : Array Value, Keep (a = vtx qq.1.id.f qq.1.ck qq.2) := ⟨_, ⟨rfl⟩⟩
  have HV : Keep (∀ wx, Below w1.heap.size w1 wx → wx.rangeAt gp (op + m * 34) vv.toList) := ⟨fun wx hb => by have h := rangeAt_below Hcl.out hb HG.out; rw [← hqq.out] at h; rw [hvv.out]; exact h⟩
  clear hrg hmi hmf Hcl
  have hS0 : Keep (∀ wx, Below w1.heap.size w1 wx → (fun wx => wx.cell? ⟨d, 2, none⟩ = some (.slice (some ⟨gp, op, none⟩) R.wait.length wc) ∧ wx.rangeAt w.heap.size 0 (bytesA 32 x.f).toList) wx) := ⟨fun wx hb => ⟨(G1.out.below hb G1.out.lt).c 2 rfl, blk_rng (HX1.out.below hb HX1.out.lt)⟩⟩
  have BD : Keep (Below w1.heap.size w1 w1.drew) := ⟨(Below.refl _ _).drew⟩
  refine wp_region_held_drew (S := fun wx => wx.cell? ⟨d, 2, none⟩ = some (.slice (some ⟨gp, op, none⟩) R.wait.length wc) ∧ wx.rangeAt w.heap.size 0 (bytesA 32 x.f).toList) (by kernel_rfl) (hS0.out _ BD.out) (fun hHeld => ?_)
  refine tkS (i := 0) (oi := ⟨some 7, Op.move (Operand.tmp 0), 31, _, _, none⟩) (v := .pointer (some ⟨d, 0, none⟩)) rfl (Or.inl ⟨by rfl, fun w hS => by clear hS; go_simp⟩) hHeld ?_
  refine tkS (i := 1) (oi := ⟨some 8, Op.nilCheck (Operand.tmp 7), 0, _, _, none⟩) (v := .pointer (some ⟨d, 0, none⟩)) rfl (Or.inl ⟨by rfl, fun w hS => by clear hS; go_simp⟩) hHeld ?_
  refine tkS (i := 2) (oi := ⟨some 9, Op.fieldAddr 79 (Operand.tmp 8) 2, 0, _, _, none⟩) (v := .pointer (some ⟨d, 2, none⟩)) rfl (Or.inl ⟨by rfl, fun w hS => by clear hS; go_simp⟩) hHeld ?_
  refine tkS (i := 3) (oi := ⟨some 10, Op.load 55 (Operand.tmp 9), 55, _, _, none⟩) (v := .slice (some ⟨gp, op, none⟩) R.wait.length wc) rfl (Or.inl ⟨by rfl, fun w hS => by obtain ⟨hS1, hS2⟩ := hS; clear hS2; go_simp⟩) hHeld ?_
  refine tkS (i := 4) (oi := ⟨some 11, Op.load 36 (Operand.tmp 3), 36, _, _, none⟩) (v := .agg (bytesA 32 x.f)) rfl (yieldsIf_ld (by rfl) (Operand.tmp 3) 36 rfl w.heap.size 0 rfl (bytesA 32 x.f) _ Try.underlying36 rfl (size36A _) fun w hS => hS.2) hHeld ?_
  refine wpAnyH_ready (rs := [5]) (by kernel_rfl) (by simp) ?_
  refine AllReadyH.cons (o := ⟨some 12, Op.call { callee := Callee.value (Operand.func 72), args := #[Operand.tmp 10, Operand.tmp 11], argTypes := #[55, 36] }, 3, _, _, none⟩) rfl (fun K hK => ?_) AllReadyH.nil
  rw [if_pos (by rfl)]
  have hcp := rplace_any (.slice (some ⟨gp, op, none⟩) R.wait.length wc) R.wait x w1.drew (G2.out.below BD.out) (Nat.le_trans HI.out.wl (by omega))
  rw [HMI.out] at hcp
  refine wp_callF 72 _ _ rfl Try.in72 #[.slice (some ⟨gp, op, none⟩) R.wait.length wc, .agg (bytesA 32 x.f)] (by simp [Act.eval]) (fun u wx => u = .int .i64 ((m : Int)) ∧ Below w1.drew.heap.size w1.drew wx) (hcp.mono fun e w' ⟨h1, h2⟩ => ⟨_, h1, rfl, h2⟩) ?_
  clear hcp
  rintro _ w5 ⟨rfl, hb⟩
  have U5 : Keep (Below w1.heap.size w1 w5) := ⟨belowT BD.out hb⟩
  refine hK _ _ (hS0.out _ U5.out) fun hH1 => ?_
  clear hK hb
  simp only [Act.put, pqA, pqB, pqC]
  refine tkS (i := 6) (oi := ⟨some 5, Op.assign (Operand.tmp 12), 3, _, _, none⟩) (v := .int .i64 ((m : Int))) rfl (Or.inl ⟨by rfl, fun w hS => by clear hS; go_simp⟩) hH1 ?_
  refine wpAnyH_done (by kernel_rfl) ?_ _
  refine hK2 _ _ ?_
  refine wp_seq_k fun K3 hK3 => ?_
  refine wp_seq_k fun K4 hK4 => rgn ?_
  refine VlS (.int .i64 ((m : Int))) ?_
  refine VlS (.bool false) ?_
  refine WL.nil (hK4 _ _ ?_)
  refine wp_cond_false rfl ?_
  refine wp_skip ?_
  refine hK3 _ _ ?_
  refine wp_seq_k fun K5 hK5 => rgn ?_
  refine VlS (.pointer (some ⟨d, 0, none⟩)) ?_
  refine VlS (.pointer (some ⟨d, 0, none⟩)) ?_
  refine VlS (.pointer (some ⟨d, 0, none⟩)) ?_
  refine VlS (.pointer (some ⟨d, 2, none⟩)) ?_
  have c1 := (hS0.out _ U5.out).1
  refine WL.val (by kernel_rfl) (.slice (some ⟨gp, op, none⟩) R.wait.length wc) (by go_simp) ?_
  clear c1
  simp only [Act.put, pqA, pqB, pqC]
  refine VlS (.int .i64 ((m : Int))) ?_
  refine VlS (.pointer (some ⟨gp, op + m * 34, none⟩)) ?_
  refine WL.midA (by kernel_rfl) 39 (.tmp 21) rfl gp (op + m * 34) rfl vv _ (HV.out _ U5.out) Try.underlying39 rfl (by rw [hvv.out]; exact Try.info39s _ _ _) ?_
  simp only [Act.put, pqA, pqB, pqC]
  have hcl := rclosed_any d qq.1 qq.2 R w5 (HD1.out.below U5.out) HI.out (HQ.out.1.below U5.out) (by have := HQ.out.2; omega)
  rw [← hvv.out] at hcl
  refine WL.callF (by kernel_rfl) 70 _ _ rfl Try.in70 #[ptr d, .agg vv] (by simp [Act.eval]) ?_
  refine (hcl).mono ?_
  rintro e w6 ⟨rfl, hz⟩
  refine ⟨_, rfl, ?_⟩
  clear hcl
  have U6 := Keep.mk (belowT U5.out hz)
  clear hz
  obtain ⟨ba, hba⟩ : ∃ b, Keep (qq.1.ps.all (hasB R.hs) = b) := ⟨_, ⟨rfl⟩⟩
  rw [hba.out]
  simp only [Act.put, pqA, pqB, pqC]
  refine VlS (.bool ba) ?_
  refine WL.nil (hK5 _ _ ?_)
  refine wp_seq_k fun K6 hK6 => ?_
  refine wp_seq_k fun K7 hK7 => rgn ?_
  refine VlS (.bool ba) ?_
  by_cases h5_1 : ba = true
  ·skip
   refine VlS (.bool false) ?_
   refine WL.nil (hK7 _ _ ?_)
   refine wp_cond_false rfl ?_
   refine wp_skip ?_
   refine hK6 _ _ ?_
   refine wp_seq_k fun K8 hK8 => rgn ?_
   refine VlS (.pointer (some ⟨d, 0, none⟩)) ?_
   refine VlS (.pointer (some ⟨d, 0, none⟩)) ?_
   refine VlS (.pointer (some ⟨d, 0, none⟩)) ?_
   refine VlS (.pointer (some ⟨d, 2, none⟩)) ?_
   have c1 := (hS0.out _ U6.out).1
   refine WL.val (by kernel_rfl) (.slice (some ⟨gp, op, none⟩) R.wait.length wc) (by go_simp) ?_
   clear c1
   simp only [Act.put, pqA, pqB, pqC]
   refine VlS (.int .i64 ((m : Int))) ?_
   refine VlS (.pointer (some ⟨gp, op + m * 34, none⟩)) ?_
   refine WL.midA (by kernel_rfl) 39 (.tmp 32) rfl gp (op + m * 34) rfl vv _ (HV.out _ U6.out) Try.underlying39 rfl (by rw [hvv.out]; exact Try.info39s _ _ _) ?_
   simp only [Act.put, pqA, pqB, pqC]
   have hmy := rmay_any d qq.1 qq.2 R w6 (HD1.out.below U6.out) HI.out (HQ.out.1.below U6.out) (by have := HQ.out.2; omega)
   rw [← hvv.out] at hmy
   refine WL.callF (by kernel_rfl) 71 _ _ rfl Try.in71 #[ptr d, .agg vv] (by simp [Act.eval]) ?_
   refine (hmy).mono ?_
   rintro e w7 ⟨rfl, hz⟩
   refine ⟨_, rfl, ?_⟩
   clear hmy
   have U7 := Keep.mk (belowT U6.out hz)
   clear hz
   simp only [Act.put, pqA, pqB, pqC]
   refine VlS (.int .i64 (nextE R.hs qq.1)) ?_
   refine WL.nil (hK8 _ _ ?_)
   refine wp_ret ?_
   go_ret
   refine ⟨?_, belowT LB1.out U7.out⟩
   rw [rdyE, HMF.out]
   simp only [hba.out]
   rw [if_pos h5_1]; rfl
  ·skip
   refine VlS (.bool true) ?_
   refine WL.nil (hK7 _ _ ?_)
   refine wp_cond_true rfl ?_
   refine wp_seq_k fun K9 hK9 => rgn ?_
   refine VlS (.int .i64 9) ?_
   refine WL.nil (hK9 _ _ ?_)
   refine wp_ret ?_
   go_ret
   refine ⟨?_, belowT LB1.out U6.out⟩
   rw [rdyE, HMF.out]
   simp only [hba.out]
   rw [if_neg h5_1]; rfl
 ·have hbf : hasB R.ws x = false := Bool.eq_false_iff.2 hb
  have HMF : Keep (R.ws.find? (isV x) = none) := ⟨by unfold hasB at hbf; cases hf : R.ws.find? (isV x) with
   | none => rfl
   | some v => rw [hf] at hbf; cases hbf⟩
  have HMI : Keep (ixF x (R.wait.map fun q => q.1.id) 0 = -1) := ⟨ixF_no fun h => hb (hasB_mem.2 (by rw [RG.ws, List.map_map]; exact h))⟩
  clear hb hbf
  have hS0 : Keep (∀ wx, Below w1.heap.size w1 wx → (fun wx => wx.cell? ⟨d, 2, none⟩ = some (wv) ∧ wx.rangeAt w.heap.size 0 (bytesA 32 x.f).toList) wx) := ⟨fun wx hb => ⟨(G1.out.below hb G1.out.lt).c 2 rfl, blk_rng (HX1.out.below hb HX1.out.lt)⟩⟩
  have BD : Keep (Below w1.heap.size w1 w1.drew) := ⟨(Below.refl _ _).drew⟩
  refine wp_region_held_drew (S := fun wx => wx.cell? ⟨d, 2, none⟩ = some (wv) ∧ wx.rangeAt w.heap.size 0 (bytesA 32 x.f).toList) (by kernel_rfl) (hS0.out _ BD.out) (fun hHeld => ?_)
  refine tkS (i := 0) (oi := ⟨some 7, Op.move (Operand.tmp 0), 31, _, _, none⟩) (v := .pointer (some ⟨d, 0, none⟩)) rfl (Or.inl ⟨by rfl, fun w hS => by clear hS; go_simp⟩) hHeld ?_
  refine tkS (i := 1) (oi := ⟨some 8, Op.nilCheck (Operand.tmp 7), 0, _, _, none⟩) (v := .pointer (some ⟨d, 0, none⟩)) rfl (Or.inl ⟨by rfl, fun w hS => by clear hS; go_simp⟩) hHeld ?_
  refine tkS (i := 2) (oi := ⟨some 9, Op.fieldAddr 79 (Operand.tmp 8) 2, 0, _, _, none⟩) (v := .pointer (some ⟨d, 2, none⟩)) rfl (Or.inl ⟨by rfl, fun w hS => by clear hS; go_simp⟩) hHeld ?_
  refine tkS (i := 3) (oi := ⟨some 10, Op.load 55 (Operand.tmp 9), 55, _, _, none⟩) (v := wv) rfl (Or.inl ⟨by rfl, fun w hS => by obtain ⟨hS1, hS2⟩ := hS; clear hS2; go_simp⟩) hHeld ?_
  refine tkS (i := 4) (oi := ⟨some 11, Op.load 36 (Operand.tmp 3), 36, _, _, none⟩) (v := .agg (bytesA 32 x.f)) rfl (yieldsIf_ld (by rfl) (Operand.tmp 3) 36 rfl w.heap.size 0 rfl (bytesA 32 x.f) _ Try.underlying36 rfl (size36A _) fun w hS => hS.2) hHeld ?_
  refine wpAnyH_ready (rs := [5]) (by kernel_rfl) (by simp) ?_
  refine AllReadyH.cons (o := ⟨some 12, Op.call { callee := Callee.value (Operand.func 72), args := #[Operand.tmp 10, Operand.tmp 11], argTypes := #[55, 36] }, 3, _, _, none⟩) rfl (fun K hK => ?_) AllReadyH.nil
  rw [if_pos (by rfl)]
  have hcp := rplace_any (wv) R.wait x w1.drew (G2.out.below BD.out) (Nat.le_trans HI.out.wl (by omega))
  rw [HMI.out] at hcp
  refine wp_callF 72 _ _ rfl Try.in72 #[wv, .agg (bytesA 32 x.f)] (by simp [Act.eval]) (fun u wx => u = .int .i64 (-1) ∧ Below w1.drew.heap.size w1.drew wx) (hcp.mono fun e w' ⟨h1, h2⟩ => ⟨_, h1, rfl, h2⟩) ?_
  clear hcp
  rintro _ w5 ⟨rfl, hb⟩
  have U5 : Keep (Below w1.heap.size w1 w5) := ⟨belowT BD.out hb⟩
  refine hK _ _ (hS0.out _ U5.out) fun hH1 => ?_
  clear hK hb
  simp only [Act.put, pqA, pqB, pqC]
  refine tkS (i := 6) (oi := ⟨some 5, Op.assign (Operand.tmp 12), 3, _, _, none⟩) (v := .int .i64 (-1)) rfl (Or.inl ⟨by rfl, fun w hS => by clear hS; go_simp⟩) hH1 ?_
  refine wpAnyH_done (by kernel_rfl) ?_ _
  refine hK2 _ _ ?_
  refine wp_seq_k fun K10 hK10 => ?_
  refine wp_seq_k fun K11 hK11 => rgn ?_
  refine VlS (.int .i64 (-1)) ?_
  refine VlS (.bool true) ?_
  refine WL.nil (hK11 _ _ ?_)
  refine wp_cond_true rfl ?_
  refine wp_seq_k fun K12 hK12 => rgn ?_
  refine VlS (.int .i64 6) ?_
  refine WL.nil (hK12 _ _ ?_)
  refine wp_ret ?_
  go_ret
  refine ⟨?_, belowT LB1.out U5.out⟩
  rw [rdyE, HMF.out]; rfl
end Go.Proofs.Ytogmdfhicbmplaa
namespace Go.Proofs.Ytogmdfhicbmplaa
open Go.RowKit
set_option linter.unusedSimpArgs false
set_option linter.unusedVariables false

theorem Try.in78 (w : World) (vs : Array Value) : (callFunc 78 vs).run Try.prog w = .ok (.enter 78 vs) w := by kernel_rfl
theorem Try.in53 (w : World) (vs : Array Value) : (callFunc 53 vs).run Try.prog w = .ok (.enter 53 vs) w := by kernel_rfl
set_option maxRecDepth 8000 in
set_option maxHeartbeats 1000000 in
theorem ids_any (v : Value) (L : List VP) (w : World) (hr : VRow w v L) (hL : L.length ≤ 4096) : Calls Try.prog 78 #[v] w fun e w' => ∃ v', e = .returned v' ∧ Fresh w w' v' (L.map fun q => q.1.id) := by
 obtain ⟨pa, pc, rfl⟩ := hr.form
 have HR := Keep.mk hr
 have HL := Keep.mk hL
 clear hr hL
 go_enter Try.func78, Try.ntmps78
 refine wp_seq_k fun K1 hK1 => rgn ?_
 refine VlS (.slice none 0 0) ?_
 refine WL.nil (hK1 _ _ ?_)
 refine wp_seq_k fun K2 hK2 => rgn ?_
 refine WL.bs (by kernel_rfl) 37 0 _ rfl #[] (by simp) _ _ (bsHE w) ?_
 have O1 := Keep.mk (ownH_empty w)
 have B1 := Keep.mk (below_new w (.cells #[] 36))
 generalize w.alloc (.cells #[] 36) = w1 at *
 obtain ⟨v0, hv0⟩ : ∃ v, Keep (v = Value.slice (some ⟨w.heap.size, 0, none⟩) 0 0) := ⟨_, ⟨rfl⟩⟩
 rw [← hv0.out] at O1 ⊢
 have N1 : Keep (∀ k, v0.ownBlock = some k → w.heap.size ≤ k) := ⟨fun k hk => by rw [hv0.out] at hk; have := Option.some.inj hk; subst this; exact Nat.le_refl _⟩
 simp only [Act.put, pqA, pqB, pqC]
 refine VlS (v0) ?_
 refine WL.nil (hK2 _ _ ?_)
 refine wp_seq_k fun K3 hK3 => ?_
 refine wp_seq_k fun K4 hK4 => rgn ?_
 refine VlS (.int .i64 0) ?_
 refine WL.nil (hK4 _ _ ?_)
 refine wp_block ?_
 refine wp_loop (fun ac wr => ∃ (t : Nat) (u6 u7 u8 u9 u10 u11 u12 u13 u14 u15 u16 u17 u18 u19 : Value) (vr : Value), ac = { tmps := #[.slice pa L.length pc, undef, .slice none 0 0, vr, .int .i64 (t : Int), v0, u6, u7, u8, u9, u10, u11, u12, u13, u14, u15, u16, u17, u18, u19, undef], defers := [] } ∧ t ≤ L.length ∧ OwnH wr vr ((L.take t).map fun q => q.1.id) ∧ (∀ k, vr.ownBlock = some k → w.heap.size ≤ k) ∧ Below w.heap.size w wr) (fun a _ => L.length - (intOf (a.tmps.getD 4 undef)).toNat) ⟨0, undef, undef, undef, undef, undef, undef, undef, undef, undef, undef, undef, undef, undef, undef, v0, rfl, by omega, O1.out, N1.out, B1.out⟩ ?_
 rintro ac wr ⟨t, u6, u7, u8, u9, u10, u11, u12, u13, u14, u15, u16, u17, u18, u19, vr, rfl, ht, hO, hN, hB⟩
 have JO := Keep.mk hO
 have JN := Keep.mk hN
 have JB := Keep.mk hB
 clear hO hN hB
 have HRr := Keep.mk (HR.out.below JB.out)
 by_cases htl : t < L.length
 ·have htl' : (t : Int) < (L.length : Int) := by omega
  have hwr1 : IntKind.i64.wrap ((t : Int) + 1) = (t : Int) + 1 := by rw [IntKind.wrap_i64]; have := HL.out; omega
  obtain ⟨gp, op, hpa, -, hrg⟩ := (HRr.out).at (by omega)
  have hel : wr.rangeAt gp (op + t * 34) (bytesA 32 L[t].1.id.f).toList := vtx_id (flat_elem encV_len hrg t htl)
  obtain ⟨hh, hhh⟩ : ∃ hh, Keep (hh = L[t].1.id) := ⟨_, ⟨rfl⟩⟩
  rw [← hhh.out] at hel
  have Hel := Keep.mk hel
  subst hpa
  clear hrg hel
  refine wp_seq_k fun K5 hK5 => ?_
  refine wp_seq_k fun K6 hK6 => rgn ?_
  refine VlS (.int .i64 (t : Int)) ?_
  refine VlS (.slice (some ⟨gp, op, none⟩) L.length pc) ?_
  refine VlS (.int .i64 (L.length : Int)) ?_
  refine VlS (.bool true) ?_
  refine WL.nil (hK6 _ _ ?_)
  refine wp_cond_true rfl ?_
  refine wp_skip ?_
  refine hK5 _ _ ?_
  refine wp_seq_k fun K7 hK7 => ?_
  refine wp_block ?_
  refine rgn ?_
  refine VlS (vr) ?_
  refine VlS (.slice (some ⟨gp, op, none⟩) L.length pc) ?_
  refine VlS (.int .i64 (t : Int)) ?_
  refine VlS (.pointer (some ⟨gp, op + t * 34, none⟩)) ?_
  refine VlS (.pointer (some ⟨gp, op + t * 34, none⟩)) ?_
  refine WL.midA (by kernel_rfl) 36 (.tmp 16) rfl gp (op + t * 34) rfl (bytesA 32 hh.f) _ Hel.out Try.underlying36 rfl (Try.size36B _) ?_
  simp only [Act.put, pqA, pqB, pqC]
  refine WL.bs (by kernel_rfl) 37 1 _ rfl #[(0, .agg (bytesA 32 hh.f))] (by simp [Act.eval]) _ _ (bsH hh wr) ?_
  have HGy := Keep.mk (Blk.new wr 36 (bytesA 32 hh.f))
  have B5 := Keep.mk (below_new wr (.cells (bytesA 32 hh.f) 36))
  generalize wr.alloc (.cells (bytesA 32 hh.f) 36) = w5 at *
  have JO5 := Keep.mk (JO.out.below B5.out)
  have JB5 := Keep.mk (belowT JB.out B5.out)
  generalize hgy : wr.heap.size = gy at *
  simp only [Act.put, pqA, pqB, pqC]
  refine WL.appH (by kernel_rfl) (.tmp 12) (.tmp 18) rfl vr ((L.take t).map fun q => q.1.id) gy hh rfl rfl JO5.out HGy.out (by rw [List.length_map, List.length_take]; have := HL.out; omega) fun v6 w6 h1 h2 h3 => ?_
  have LO := Keep.mk h1
  have LN : Keep (∀ k, v6.ownBlock = some k → w.heap.size ≤ k) := ⟨fun k hk => h3.elim (fun e => JN.out k (by rw [← e]; exact hk)) fun ⟨q, e, hq⟩ => by rw [hk] at e; have := Option.some.inj e; subst this; exact Nat.le_trans JB5.out.size hq⟩
  have LB : Keep (Below w.heap.size w w6) := ⟨JB5.out.trans (h2.to_below (fun k hk e => by have := JN.out k e; omega) JB5.out.size)⟩
  clear h1 h2 h3
  simp only [Act.put, pqA, pqB, pqC]
  refine VlS (v6) ?_
  refine WL.nil (hK7 _ _ ?_)
  refine rgn ?_
  refine VlS (.int .i64 (t : Int)) ?_
  refine VlS (.int .i64 ((t : Int) + 1)) ?_
  refine VlS (.int .i64 ((t : Int) + 1)) ?_
  refine WL.nil ?_
  refine ⟨⟨t + 1, .int .i64 (t : Int), .slice (some ⟨gp, op, none⟩) L.length pc, .int .i64 (L.length : Int), .bool true, .int .i64 (t : Int), .int .i64 ((t : Int) + 1), vr, .slice (some ⟨gp, op, none⟩) L.length pc, .int .i64 (t : Int), .pointer (some ⟨gp, op + t * 34, none⟩), .pointer (some ⟨gp, op + t * 34, none⟩), .agg (bytesA 32 hh.f), .slice (some ⟨gy, 0, none⟩) 1 1, v6, v6, rfl, by omega, ?_, LN.out, LB.out⟩, ?_⟩
  ·rw [List.take_succ_eq_append_getElem htl, List.map_append, List.map_cons, List.map_nil, ← hhh.out]; exact LO.out
  ·simp only [intOf]; show L.length - ((t : Int) + 1).toNat < L.length - ((t : Int)).toNat; omega
 ·have hte : Keep (t = L.length) := ⟨by omega⟩
  have htl' : ¬ (t : Int) < (L.length : Int) := by omega
  refine wp_seq_k fun K8 hK8 => ?_
  refine wp_seq_k fun K9 hK9 => rgn ?_
  refine VlS (.int .i64 (t : Int)) ?_
  refine VlS (.slice pa L.length pc) ?_
  refine VlS (.int .i64 (L.length : Int)) ?_
  refine VlS (.bool false) ?_
  refine WL.nil (hK9 _ _ ?_)
  refine wp_cond_false rfl ?_
  refine wp_exit ?_
  refine hK3 _ _ ?_
  refine wp_seq_k fun K10 hK10 => rgn ?_
  refine VlS (vr) ?_
  refine VlS (vr) ?_
  refine WL.nil (hK10 _ _ ?_)
  refine wp_ret ?_
  go_ret
  refine ⟨_, rfl, ⟨?_, JN.out, JB.out⟩⟩
  have h := JO.out
  rw [hte.out, List.take_length] at h
  exact h
end Go.Proofs.Ytogmdfhicbmplaa
namespace Go.Proofs.Ytogmdfhicbmplaa
open Go.RowKit
set_option linter.unusedSimpArgs false
set_option linter.unusedVariables false

theorem Try.in55 (w : World) (vs : Array Value) : (callFunc 55 vs).run Try.prog w = .ok (.enter 55 vs) w := by kernel_rfl
set_option maxRecDepth 8000 in
set_option maxHeartbeats 1000000 in
theorem rwaiting_any (d : Nat) (R : RG) (w : World) (hD : RRd w d R) (hI : RI R) : Calls Try.prog 53 #[ptr d] w fun e w' => ∃ v', e = .returned v' ∧ Fresh w w' v' (R.ws.map (·.id)) := by
 obtain ⟨hv, wv, sv, g1, -, g2, -⟩ := hD
 obtain ⟨wa, wc, rfl⟩ := g2.form
 have G1 := Keep.mk g1
 have G2 := Keep.mk g2
 have HI := Keep.mk hI
 clear g1 g2 hI
 go_enter Try.func53, Try.ntmps53
 refine wp_seq_k fun K1 hK1 => rgn ?_
 refine VlS (.slice none 0 0) ?_
 refine WL.nil (hK1 _ _ ?_)
 refine wp_seq_k fun K2 hK2 => rgn ?_
 refine VlS (.pointer (some ⟨d, 0, none⟩)) ?_
 refine VlS (.pointer (some ⟨d, 0, none⟩)) ?_
 refine VlS (.pointer (some ⟨d, 2, none⟩)) ?_
 have c2 : w.cell? ⟨d, 2, none⟩ = some (.slice wa R.wait.length wc) := G1.out.c 2 rfl
 refine WL.val (by kernel_rfl) (.slice wa R.wait.length wc) (by go_simp) ?_
 clear c2
 simp only [Act.put, pqA, pqB, pqC]
 refine WL.callF (by kernel_rfl) 78 _ _ rfl Try.in78 #[.slice wa R.wait.length wc] (by simp [Act.eval]) ?_
 refine (ids_any _ R.wait w G2.out HI.out.wl).mono ?_
 rintro e w1 ⟨v7, rfl, hf⟩
 refine ⟨_, rfl, ?_⟩
 have F1 := Keep.mk hf
 clear hf
 simp only [Act.put, pqA, pqB, pqC]
 refine VlS (v7) ?_
 refine WL.nil (hK2 _ _ ?_)
 refine wp_ret ?_
 go_ret
 exact ⟨_, rfl, by rw [RG.ws, List.map_map]; exact F1.out⟩
set_option maxRecDepth 8000 in
set_option maxHeartbeats 1000000 in
theorem rparents_any (d : Nat) (x : Hs) (R : RG) (w : World) (hD : RRd w d R) (hI : RI R) : Calls Try.prog 55 #[ptr d, .agg (bytesA 32 x.f)] w fun e w' => (R.hs.find? (isV x) = none ∧ e = .returned (.tuple #[.slice none 0 0, .int .i64 6]) ∧ Below w.heap.size w w') ∨ ∃ v, R.hs.find? (isV x) = some v ∧ ∃ v', e = .returned (.tuple #[v', .int .i64 0]) ∧ Fresh w w' v' v.ps := by
 have HD := Keep.mk hD
 have HI := Keep.mk hI
 clear hD hI
 go_enter Try.func55, Try.ntmps55
 refine wp_seq_k fun K1 hK1 => rgn ?_
 refine WL.box (by kernel_rfl) 36 (.tmp 1) rfl (bytesA 32 x.f) rfl ?_
 obtain ⟨w1, hwn⟩ : ∃ wx, Keep (wx = w.alloc (.cells (bytesA 32 x.f) 36)) := ⟨_, ⟨rfl⟩⟩
 rw [← hwn.out]
 have HX1 : Keep (Blk w1 w.heap.size 36 (bytesA 32 x.f)) := ⟨by rw [hwn.out]; exact Blk.new _ _ _⟩
 have LB1 : Keep (Below w.heap.size w w1) := ⟨by rw [hwn.out]; exact below_new _ _⟩
 clear hwn
 have HD1 := Keep.mk (HD.out.below LB1.out)
 simp only [Act.put, pqA, pqB, pqC]
 refine VlS (.slice none 0 0) ?_
 refine VlS (.int .i64 0) ?_
 refine WL.nil (hK1 _ _ ?_)
 refine wp_seq_k fun K2 hK2 => rgn ?_
 refine VlS (.pointer (some ⟨d, 0, none⟩)) ?_
 refine WL.row (by kernel_rfl) 36 (.tmp 3) rfl w.heap.size rfl 36 (bytesA 32 x.f) _ HX1.out Try.underlying36 rfl (Try.size36B _) ?_
 simp only [Act.put, pqA, pqB, pqC]
 refine WL.callF (by kernel_rfl) 46 _ _ rfl Try.in46 #[ptr d, .agg (bytesA 32 x.f)] (by simp [Act.eval]) ?_
 refine (rhas_any d x R w1 HD1.out HI.out).mono ?_
 rintro e w2 ⟨rfl, hz⟩
 refine ⟨_, rfl, ?_⟩
 have B2 := Keep.mk hz
 have HX2 := Keep.mk (HX1.out.below hz HX1.out.lt)
 have HD2 := Keep.mk (HD1.out.below hz)
 clear hz
 obtain ⟨bq, hbq⟩ : ∃ b, Keep (hasB R.hs x = b) := ⟨_, ⟨rfl⟩⟩
 rw [hbq.out]
 simp only [Act.put, pqA, pqB, pqC]
 refine VlS (.bool bq) ?_
 refine WL.nil (hK2 _ _ ?_)
 refine wp_seq_k fun K3 hK3 => ?_
 refine wp_seq_k fun K4 hK4 => rgn ?_
 refine VlS (.bool bq) ?_
 by_cases h2_1 : bq = true
 ·skip
  refine VlS (.bool false) ?_
  refine WL.nil (hK4 _ _ ?_)
  refine wp_cond_false rfl ?_
  refine wp_skip ?_
  refine hK3 _ _ ?_
  refine wp_seq_k fun K5 hK5 => ?_
  obtain ⟨m, hm, hmi, hmf⟩ := ixF_find (t := 0) (show hasB (R.held.map (·.1)) x = true by rw [← h2_1]; exact hbq.out)
  rw [Nat.zero_add] at hmi
  obtain ⟨hv, wv, sv, g1, g2, -, -⟩ := HD2.out
  obtain ⟨ha, hc, rfl⟩ := g2.form
  obtain ⟨gp, op, rfl, -, hrg⟩ := g2.at (by omega)
  have hgl := flatV_lt hrg (by omega)
  have Hcl := Keep.mk (flat_elem encV_len hrg m hm)
  have hS0 : Keep (∀ wx, Below w2.heap.size w2 wx → (fun wx => wx.cell? ⟨d, 1, none⟩ = some (.slice (some ⟨gp, op, none⟩) R.held.length hc) ∧ wx.rangeAt w.heap.size 0 (bytesA 32 x.f).toList) wx) := ⟨fun wx hb => ⟨(g1.below hb g1.lt).c 1 rfl, blk_rng (HX2.out.below hb HX2.out.lt)⟩⟩
  have BD : Keep (Below w2.heap.size w2 w2.drew) := ⟨(Below.refl _ _).drew⟩
  have HR2 := Keep.mk g2
  have HG := Keep.mk hgl
  have HMI := Keep.mk hmi
  obtain ⟨qq, hqq⟩ : ∃ q, Keep (q = R.held[m]) := ⟨_, ⟨rfl⟩⟩
  have HMF : Keep (R.hs.find? (isV x) = some qq.1) := ⟨by rw [hqq.out]; exact hmf⟩
  have HQ : Keep (HRow w2 qq.2 qq.1.ps ∧ qq.1.ps.length ≤ 64) := ⟨⟨(g2.2 qq (by rw [hqq.out]; exact List.getElem_mem hm)).1, HI.out.hp qq.1 (List.mem_map.2 ⟨qq, by rw [hqq.out]; exact List.getElem_mem hm, rfl⟩)⟩⟩
  obtain ⟨pa, pc, hpf⟩ := HQ.out.1.form
  have HPF := Keep.mk hpf
  have hml : (m : Int) < (R.held.length : Int) := by omega
  clear g1 g2 hrg hgl hmi hmf hpf
  refine wp_region_held_drew (S := fun wx => wx.cell? ⟨d, 1, none⟩ = some (.slice (some ⟨gp, op, none⟩) R.held.length hc) ∧ wx.rangeAt w.heap.size 0 (bytesA 32 x.f).toList) (by kernel_rfl) (hS0.out _ BD.out) (fun hHeld => ?_)
  refine tkS (i := 0) (oi := ⟨some 13, Op.move (Operand.tmp 0), 31, _, _, none⟩) (v := .pointer (some ⟨d, 0, none⟩)) rfl (Or.inl ⟨by rfl, fun w hS => by clear hS; go_simp⟩) hHeld ?_
  refine tkS (i := 1) (oi := ⟨some 14, Op.nilCheck (Operand.tmp 13), 0, _, _, none⟩) (v := .pointer (some ⟨d, 0, none⟩)) rfl (Or.inl ⟨by rfl, fun w hS => by clear hS; go_simp⟩) hHeld ?_
  refine tkS (i := 2) (oi := ⟨some 15, Op.fieldAddr 79 (Operand.tmp 14) 1, 0, _, _, none⟩) (v := .pointer (some ⟨d, 1, none⟩)) rfl (Or.inl ⟨by rfl, fun w hS => by clear hS; go_simp⟩) hHeld ?_
  refine tkS (i := 3) (oi := ⟨some 16, Op.load 55 (Operand.tmp 15), 55, _, _, none⟩) (v := .slice (some ⟨gp, op, none⟩) R.held.length hc) rfl (Or.inl ⟨by rfl, fun w hS => by obtain ⟨hS1, hS2⟩ := hS; clear hS2; go_simp⟩) hHeld ?_
  refine tkS (i := 4) (oi := ⟨some 17, Op.load 36 (Operand.tmp 3), 36, _, _, none⟩) (v := .agg (bytesA 32 x.f)) rfl (yieldsIf_ld (by rfl) (Operand.tmp 3) 36 rfl w.heap.size 0 rfl (bytesA 32 x.f) _ Try.underlying36 rfl (size36A _) fun w hS => hS.2) hHeld ?_
  refine wpAnyH_ready (rs := [5]) (by kernel_rfl) (by simp) ?_
  refine AllReadyH.cons (o := ⟨some 18, Op.call { callee := Callee.value (Operand.func 72), args := #[Operand.tmp 16, Operand.tmp 17], argTypes := #[55, 36] }, 3, _, _, none⟩) rfl (fun K hK => ?_) AllReadyH.nil
  rw [if_pos (by rfl)]
  have hcp := rplace_any (.slice (some ⟨gp, op, none⟩) R.held.length hc) R.held x w2.drew (HR2.out.below BD.out) (Nat.le_trans HI.out.hl (by omega))
  rw [HMI.out] at hcp
  refine wp_callF 72 _ _ rfl Try.in72 #[.slice (some ⟨gp, op, none⟩) R.held.length hc, .agg (bytesA 32 x.f)] (by simp [Act.eval]) (fun u wx => u = .int .i64 (m : Int) ∧ Below w2.drew.heap.size w2.drew wx) (hcp.mono fun e w' ⟨h1, h2⟩ => ⟨_, h1, rfl, h2⟩) ?_
  clear hcp
  rintro _ w5 ⟨rfl, hb⟩
  have U5 : Keep (Below w2.heap.size w2 w5) := ⟨belowT BD.out hb⟩
  refine hK _ _ (hS0.out _ U5.out) fun hH1 => ?_
  clear hK hb
  simp only [Act.put, pqA, pqB, pqC]
  refine tkS (i := 6) (oi := ⟨some 7, Op.assign (Operand.tmp 18), 3, _, _, none⟩) (v := .int .i64 (m : Int)) rfl (Or.inl ⟨by rfl, fun w hS => by clear hS; go_simp⟩) hH1 ?_
  refine wpAnyH_done (by kernel_rfl) ?_ _
  refine hK5 _ _ ?_
  refine wp_seq_k fun K6 hK6 => rgn ?_
  refine VlS (.pointer (some ⟨d, 0, none⟩)) ?_
  refine VlS (.pointer (some ⟨d, 0, none⟩)) ?_
  refine VlS (.pointer (some ⟨d, 1, none⟩)) ?_
  have c1 := (hS0.out _ U5.out).1
  refine WL.val (by kernel_rfl) (.slice (some ⟨gp, op, none⟩) R.held.length hc) (by go_simp) ?_
  clear c1
  simp only [Act.put, pqA, pqB, pqC]
  refine VlS (.int .i64 (m : Int)) ?_
  refine VlS (.pointer (some ⟨gp, op + m * 34, none⟩)) ?_
  refine VlS (.pointer (some ⟨gp, op + m * 34 + 33, none⟩)) ?_
  have ck : w5.cell? ⟨gp, op + m * 34 + 33, none⟩ = some (.slice pa qq.1.ps.length pc) := rangeAt_below Hcl.out U5.out HG.out 33 _ (by rw [encV, Array.getElem?_toList, vtx_ps, ← hqq.out, HPF.out])
  refine WL.val (by kernel_rfl) (.slice pa qq.1.ps.length pc) (by go_simp) ?_
  clear ck
  simp only [Act.put, pqA, pqB, pqC]
  have HP5 : Keep (HRow w5 (.slice pa qq.1.ps.length pc) qq.1.ps) := ⟨by rw [← HPF.out]; exact HQ.out.1.below U5.out⟩
  refine WL.appM (by kernel_rfl) (.const (.slice none 0 0)) (.tmp 26) rfl (.slice none 0 0) _ [] qq.1.ps rfl rfl (ownH_nil _) HP5.out (by have := HQ.out.2; simp; omega) fun v6 w6 h1 h2 h3 => ?_
  rw [List.nil_append] at h1
  have L6 : Keep (Below w.heap.size w w5) := ⟨belowT LB1.out (belowT B2.out U5.out)⟩
  have F6 : Keep (Fresh w w6 v6 qq.1.ps) := ⟨⟨h1, fun k hk => h3.elim (fun e => by rw [hk] at e; cases e) fun ⟨q, e, hq⟩ => by rw [hk] at e; have := Option.some.inj e; subst this; exact Nat.le_trans L6.out.size hq, L6.out.trans (h2.to_below (fun k _ e => by cases e) L6.out.size)⟩⟩
  clear h1 h2 h3
  simp only [Act.put, pqA, pqB, pqC]
  refine VlS (v6) ?_
  refine VlS (.int .i64 0) ?_
  refine WL.nil (hK6 _ _ ?_)
  refine wp_ret ?_
  go_ret2
  exact .inr ⟨_, HMF.out, _, rfl, F6.out⟩
 ·skip
  refine VlS (.bool true) ?_
  refine WL.nil (hK4 _ _ ?_)
  refine wp_cond_true rfl ?_
  refine wp_seq_k fun K7 hK7 => rgn ?_
  refine VlS (.slice none 0 0) ?_
  refine VlS (.int .i64 6) ?_
  refine WL.nil (hK7 _ _ ?_)
  refine wp_ret ?_
  go_ret2
  have hbf : hasB R.hs x = false := hbq.out.trans (Bool.eq_false_iff.2 h2_1)
  have HMF : R.hs.find? (isV x) = none := by unfold hasB at hbf; cases hf : R.hs.find? (isV x) with
   | none => rfl
   | some v => rw [hf] at hbf; cases hbf
  exact .inl ⟨HMF, rfl, belowT LB1.out B2.out⟩
end Go.Proofs.Ytogmdfhicbmplaa
namespace Go.Proofs.Ytogmdfhicbmplaa
open Go.RowKit
set_option linter.unusedSimpArgs false
set_option linter.unusedVariables false

theorem Try.in76 (w : World) (vs : Array Value) : (callFunc 76 vs).run Try.prog w = .ok (.enter 76 vs) w := by kernel_rfl
theorem Try.in49 (w : World) (vs : Array Value) : (callFunc 49 vs).run Try.prog w = .ok (.enter 49 vs) w := by kernel_rfl
def namP (l : List VP) : List Hs := l.flatMap (·.1.ps)
def hdQ (l : List VP) (x : Hs) : Bool := decide (x ∉ namP l)
theorem namP_app (l : List VP) (v : VP) : namP (l ++ [v]) = namP l ++ v.1.ps := by unfold namP; rw [List.flatMap_append]; simp
theorem inc_pw {l : List Hs} (h : l.Pairwise Lt) : Inc l := fun i j hij hj => by
 rw [getD_atl hj, getD_atl (Nat.lt_trans hij hj)]
 exact List.pairwise_iff_getElem.1 h i j (Nat.lt_trans hij hj) hj hij
set_option maxRecDepth 8000 in
set_option maxHeartbeats 1000000 in
theorem rHeads_any (v : Value) (L : List VP) (w : World) (hr : VRow w v L) (hL : L.length ≤ 4096) (hP : ∀ q ∈ L, q.1.ps.length ≤ 64) : Calls Try.prog 76 #[v] w fun e w' => ∃ v' L', e = .returned v' ∧ Fresh w w' v' L' ∧ L'.Pairwise Lt ∧ (∀ x, x ∈ L' ↔ x ∈ (L.map fun q => q.1.id).filter (hdQ L)) ∧ L'.length ≤ 4096 := by
 obtain ⟨pa, pc, rfl⟩ := hr.form
 have HR := Keep.mk hr
 have HL := Keep.mk hL
 have HP := Keep.mk hP
 clear hr hL hP
 go_enter Try.func76, Try.ntmps76
 refine wp_seq_k fun K1 hK1 => rgn ?_
 refine VlS (.slice none 0 0) ?_
 refine WL.nil (hK1 _ _ ?_)
 refine wp_seq_k fun K2 hK2 => rgn ?_
 refine WL.bs (by kernel_rfl) 37 0 _ rfl #[] (by simp) _ _ (bsHE w) ?_
 have O1 := Keep.mk (ownH_empty w)
 have hz := below_new w (.cells #[] 36)
 have B1 : Keep (Below w.heap.size w (w.alloc (.cells #[] 36))) := ⟨belowT (Below.refl _ _) hz⟩
 clear hz
 generalize w.alloc (.cells #[] 36) = w1 at *
 obtain ⟨v0, hv0⟩ : ∃ v, Keep (v = Value.slice (some ⟨w.heap.size, 0, none⟩) 0 0) := ⟨_, ⟨rfl⟩⟩
 rw [← hv0.out] at O1 ⊢
 have N1 : Keep (∀ k, v0.ownBlock = some k → w.heap.size ≤ k) := ⟨fun k hk => by rw [hv0.out] at hk; have := Option.some.inj hk; subst this; exact Nat.le_refl _⟩
 simp only [Act.put, pqA, pqB, pqC]
 refine VlS (v0) ?_
 refine WL.nil (hK2 _ _ ?_)
 refine wp_seq_k fun K3 hK3 => ?_
 refine wp_seq_k fun K4 hK4 => rgn ?_
 refine VlS (.int .i64 0) ?_
 refine WL.nil (hK4 _ _ ?_)
 refine wp_block ?_
 refine wp_loop (fun ac wr => ∃ (t : Nat) (u9 u10 u11 u12 u13 u14 u15 u16 u17 u18 u19 u20 u21 : Value) (vr : Value), ac = { tmps := #[.slice pa L.length pc, undef, .slice none 0 0, vr, .int .i64 (t : Int), undef, undef, undef, v0, u9, u10, u11, u12, u13, u14, u15, u16, u17, u18, u19, u20, u21, undef, undef, undef, undef, undef, undef, undef, undef, undef, undef, undef, undef, undef, undef, undef, undef, undef, undef, undef, undef, undef, undef, undef, undef, undef, undef, undef, undef], defers := [] } ∧ t ≤ L.length ∧ OwnH wr vr (namP (L.take t)) ∧ (∀ k, vr.ownBlock = some k → w.heap.size ≤ k) ∧ Below w.heap.size w wr ∧ (namP (L.take t)).length ≤ 64 * t) (fun a _ => L.length - (intOf (a.tmps.getD 4 undef)).toNat) ⟨0, undef, undef, undef, undef, undef, undef, undef, undef, undef, undef, undef, undef, undef, v0, rfl, by omega, O1.out, N1.out, B1.out, Nat.le_refl _⟩ ?_
 rintro ac wr ⟨t, u9, u10, u11, u12, u13, u14, u15, u16, u17, u18, u19, u20, u21, vr, rfl, ht, hO, hN, hB, hC⟩
 have JO := Keep.mk hO
 have JN := Keep.mk hN
 have JB := Keep.mk hB
 have JC := Keep.mk hC
 clear hO hN hB hC
 by_cases htl : t < L.length
 ·have htl' : (t : Int) < (L.length : Int) := by omega
  have hwt : IntKind.i64.wrap ((t : Int) + 1) = ((t + 1 : Nat) : Int) := by rw [IntKind.wrap_i64]; have := HL.out; omega
  obtain ⟨v, hv⟩ : ∃ v, Keep (v = L[t]) := ⟨_, ⟨rfl⟩⟩
  have hvm : v ∈ L := by rw [hv.out]; exact List.getElem_mem htl
  obtain ⟨gp, op, hpa, -, hrg⟩ := HR.out.at (by omega)
  have HG := Keep.mk (flatV_lt hrg (by omega))
  have Hcl := Keep.mk (flat_elem encV_len hrg t htl)
  have HC : Keep (HRow w v.2 v.1.ps) := ⟨(HR.out.2 v hvm).1⟩
  have HVl : Keep (v.1.ps.length ≤ 64) := ⟨HP.out v hvm⟩
  obtain ⟨qa, qc, hpf⟩ := HC.out.form
  have HPV : Keep (∀ wx, Below w.heap.size w wx → wx.cell? ⟨gp, op + t * 34 + 33, none⟩ = some (.slice qa v.1.ps.length qc)) := ⟨fun wx hb => rangeAt_below Hcl.out hb HG.out 33 _ (by rw [encV, Array.getElem?_toList, vtx_ps, ← hv.out, hpf])⟩
  have HC : Keep (HRow w (.slice qa v.1.ps.length qc) v.1.ps) := ⟨by rw [← hpf]; exact HC.out⟩
  subst hpa
  clear hrg hpf Hcl hvm
  refine wp_seq_k fun K5 hK5 => ?_
  refine wp_seq_k fun K6 hK6 => rgn ?_
  refine VlS (.int .i64 (t : Int)) ?_
  refine VlS (.slice (some ⟨gp, op, none⟩) L.length pc) ?_
  refine VlS (.int .i64 (L.length : Int)) ?_
  refine VlS (.bool true) ?_
  refine WL.nil (hK6 _ _ ?_)
  refine wp_cond_true rfl ?_
  refine wp_skip ?_
  refine hK5 _ _ ?_
  refine wp_seq_k fun K7 hK7 => ?_
  refine wp_block ?_
  refine rgn ?_
  refine VlS (vr) ?_
  refine VlS (.slice (some ⟨gp, op, none⟩) L.length pc) ?_
  refine VlS (.int .i64 (t : Int)) ?_
  refine VlS (.pointer (some ⟨gp, op + t * 34, none⟩)) ?_
  refine VlS (.pointer (some ⟨gp, op + t * 34 + 33, none⟩)) ?_
  have c3 := HPV.out _ JB.out
  refine WL.val (by kernel_rfl) (.slice qa v.1.ps.length qc) (by go_simp) ?_
  clear c3
  simp only [Act.put, pqA, pqB, pqC]
  refine WL.appM (by kernel_rfl) (.tmp 15) (.tmp 20) rfl vr _ (namP (L.take t)) v.1.ps rfl rfl JO.out (HC.out.below JB.out) (by have := JC.out; have := HVl.out; have := HL.out; omega) fun v6 w6 h1 h2 h3 => ?_
  have LO := Keep.mk h1
  have LN : Keep (∀ k, v6.ownBlock = some k → w.heap.size ≤ k) := ⟨fun k hk => h3.elim (fun e => JN.out k (by rw [← e]; exact hk)) fun ⟨q, e, hq⟩ => by rw [hk] at e; have := Option.some.inj e; subst this; exact Nat.le_trans JB.out.size hq⟩
  have LB : Keep (Below w.heap.size w w6) := ⟨JB.out.trans (h2.to_below (fun k hk e => by have := JN.out k e; omega) JB.out.size)⟩
  clear h1 h2 h3
  simp only [Act.put, pqA, pqB, pqC]
  refine VlS (v6) ?_
  refine WL.nil (hK7 _ _ ?_)
  refine rgn ?_
  refine VlS (.int .i64 (t : Int)) ?_
  refine VlS (.int .i64 ((t + 1 : Nat) : Int)) ?_
  refine VlS (.int .i64 ((t + 1 : Nat) : Int)) ?_
  refine WL.nil ?_
  have hfl : namP (L.take (t + 1)) = namP (L.take t) ++ v.1.ps := by rw [List.take_succ_eq_append_getElem htl, namP_app, ← hv.out]
  refine ⟨⟨t + 1, .int .i64 (t : Int), .slice (some ⟨gp, op, none⟩) L.length pc, .int .i64 (L.length : Int), .bool true, .int .i64 (t : Int), .int .i64 ((t + 1 : Nat) : Int), vr, .slice (some ⟨gp, op, none⟩) L.length pc, .int .i64 (t : Int), .pointer (some ⟨gp, op + t * 34, none⟩), .pointer (some ⟨gp, op + t * 34 + 33, none⟩), .slice qa v.1.ps.length qc, v6, v6, rfl, by omega, by rw [hfl]; exact LO.out, LN.out, LB.out, by rw [hfl, List.length_append]; have := JC.out; have := HVl.out; omega⟩, ?_⟩
  simp only [intOf]; show L.length - (((t + 1 : Nat) : Int)).toNat < L.length - ((t : Int)).toNat; omega
 ·have hte : t = L.length := by omega
  have htl' : ¬ (t : Int) < (L.length : Int) := by omega
  refine wp_seq_k fun K8 hK8 => ?_
  refine wp_seq_k fun K9 hK9 => rgn ?_
  refine VlS (.int .i64 (t : Int)) ?_
  refine VlS (.slice pa L.length pc) ?_
  refine VlS (.int .i64 (L.length : Int)) ?_
  refine VlS (.bool false) ?_
  refine WL.nil (hK9 _ _ ?_)
  refine wp_cond_false rfl ?_
  refine wp_exit ?_
  refine hK3 _ _ ?_
  refine wp_seq_k fun K10 hK10 => rgn ?_
  refine VlS (vr) ?_
  have hso := refSort_any _ vr _ wr rfl JO.out.row (by have := JC.out; have := HL.out; omega)
  refine WL.callF (by kernel_rfl) 16 _ _ rfl Try.in16 #[vr] (by simp [Act.eval]) ?_
  refine (hso.mono (R' := fun e w' => ∃ v' L', e = .returned v' ∧ OwnH w' v' L' ∧ L'.Pairwise Lt ∧ (∀ x, x ∈ L' ↔ x ∈ namP L) ∧ L'.length ≤ 262144 ∧ Below wr.heap.size wr w') (fun e w' ⟨v', L', h1, h2, h3, h4, h5, h6⟩ => ⟨v', L', h1, OwnH.of h2, h3, by rw [hte, List.take_length] at h4; exact h4, by have := JC.out; have := HL.out; omega, h6⟩)).mono ?_
  rintro e w9 ⟨v9, L9, rfl, h1, h3, h4, h5, h6⟩
  refine ⟨_, rfl, ?_⟩
  clear hso
  have R1 := Keep.mk h1
  have R3 := Keep.mk h3
  have R4 := Keep.mk h4
  have R5 := Keep.mk h5
  have R6 := Keep.mk (belowT JB.out h6)
  clear h1 h3 h4 h5 h6
  simp only [Act.put, pqA, pqB, pqC]
  refine VlS (v9) ?_
  refine WL.nil (hK10 _ _ ?_)
  refine wp_seq_k fun K11 hK11 => rgn ?_
  refine WL.bs (by kernel_rfl) 37 0 _ rfl #[] (by simp) _ _ (bsHE w9) ?_
  have O2 := Keep.mk (ownH_empty w9)
  have B2 := Keep.mk (below_new w9 (.cells #[] 36))
  generalize w9.alloc (.cells #[] 36) = wa at *
  obtain ⟨v5, hv5⟩ : ∃ v, Keep (v = Value.slice (some ⟨w9.heap.size, 0, none⟩) 0 0) := ⟨_, ⟨rfl⟩⟩
  rw [← hv5.out] at O2 ⊢
  have N2 : Keep (∀ k, v5.ownBlock = some k → w9.heap.size ≤ k) := ⟨fun k hk => by rw [hv5.out] at hk; have := Option.some.inj hk; subst this; exact Nat.le_refl _⟩
  simp only [Act.put, pqA, pqB, pqC]
  refine VlS (v5) ?_
  refine WL.nil (hK11 _ _ ?_)
  refine wp_seq_k fun K12 hK12 => ?_
  refine wp_seq_k fun K13 hK13 => rgn ?_
  refine VlS (.int .i64 0) ?_
  refine WL.nil (hK13 _ _ ?_)
  refine wp_block ?_
  refine wp_loop (fun ac wi => ∃ (k : Nat) (z7 z25 z26 z27 z28 z29 z30 z31 z32 z33 z34 z35 z36 z37 z38 z39 z40 z41 z42 z43 z44 z45 z46 z47 : Value) (vo : Value), ac = { tmps := #[.slice pa L.length pc, undef, .slice none 0 0, v9, .int .i64 (t : Int), vo, .int .i64 (k : Int), z7, v0, .int .i64 (t : Int), .slice pa L.length pc, .int .i64 (L.length : Int), .bool false, u13, u14, u15, u16, u17, u18, u19, u20, u21, vr, v9, v5, z25, z26, z27, z28, z29, z30, z31, z32, z33, z34, z35, z36, z37, z38, z39, z40, z41, z42, z43, z44, z45, z46, z47, undef, undef], defers := [] } ∧ k ≤ L.length ∧ OwnH wi vo (((L.take k).map fun q => q.1.id).filter (hdQ L)) ∧ (∀ i, vo.ownBlock = some i → w9.heap.size ≤ i) ∧ Below w9.heap.size w9 wi ∧ (((L.take k).map fun q => q.1.id).filter (hdQ L)).length ≤ k) (fun a _ => L.length - (intOf (a.tmps.getD 6 undef)).toNat) ⟨0, undef, undef, undef, undef, undef, undef, undef, undef, undef, undef, undef, undef, undef, undef, undef, undef, undef, undef, undef, undef, undef, undef, undef, undef, v5, rfl, by omega, O2.out, N2.out, B2.out, Nat.le_refl _⟩ ?_
  rintro ac wi ⟨k, z7, z25, z26, z27, z28, z29, z30, z31, z32, z33, z34, z35, z36, z37, z38, z39, z40, z41, z42, z43, z44, z45, z46, z47, vo, rfl, hk, hO, hN, hA, hC⟩
  have KO := Keep.mk hO
  have KN := Keep.mk hN
  have KA := Keep.mk hA
  have KC := Keep.mk hC
  clear hO hN hA hC
  by_cases hkl : k < L.length
  ·have hkl' : (k : Int) < (L.length : Int) := by omega
   have hwk : IntKind.i64.wrap ((k : Int) + 1) = ((k + 1 : Nat) : Int) := by rw [IntKind.wrap_i64]; have := HL.out; omega
   obtain ⟨gp, op, hpa, -, hrg⟩ := (HR.out.below (belowT R6.out KA.out)).at (by omega)
   have hel : wi.rangeAt gp (op + k * 34) (bytesA 32 L[k].1.id.f).toList := vtx_id (flat_elem encV_len hrg k hkl)
   have HG := Keep.mk (flatV_lt hrg (by omega))
   obtain ⟨hh, hhh⟩ : ∃ hh, Keep (hh = L[k].1.id) := ⟨_, ⟨rfl⟩⟩
   rw [← hhh.out] at hel
   have Hel := Keep.mk hel
   obtain ⟨ix, hix⟩ : ∃ i, Keep (ixF hh L9 0 = i) := ⟨_, ⟨rfl⟩⟩
   subst hpa
   clear hrg hel
   refine wp_seq_k fun K14 hK14 => ?_
   refine wp_seq_k fun K15 hK15 => rgn ?_
   refine VlS (.int .i64 (k : Int)) ?_
   refine VlS (.slice (some ⟨gp, op, none⟩) L.length pc) ?_
   refine VlS (.int .i64 (L.length : Int)) ?_
   refine VlS (.bool true) ?_
   refine WL.nil (hK15 _ _ ?_)
   refine wp_cond_true rfl ?_
   refine wp_skip ?_
   refine hK14 _ _ ?_
   refine wp_seq_k fun K16 hK16 => ?_
   refine wp_block ?_
   refine wp_seq_k fun K17 hK17 => rgn ?_
   refine VlS (v9) ?_
   refine VlS (.slice (some ⟨gp, op, none⟩) L.length pc) ?_
   refine VlS (.int .i64 (k : Int)) ?_
   refine VlS (.pointer (some ⟨gp, op + k * 34, none⟩)) ?_
   refine VlS (.pointer (some ⟨gp, op + k * 34, none⟩)) ?_
   refine WL.midA (by kernel_rfl) 36 (.tmp 35) rfl gp (op + k * 34) rfl (bytesA 32 hh.f) _ Hel.out Try.underlying36 rfl (Try.size36B _) ?_
   simp only [Act.put, pqA, pqB, pqC]
   have hsk := seek_any v9 L9 hh wi (R1.out.row.below KA.out) (inc_pw R3.out) (Nat.le_trans R5.out (by omega))
   rw [hix.out] at hsk
   refine WL.callF (by kernel_rfl) 75 _ _ rfl Try.in75 #[v9, .agg (bytesA 32 hh.f)] (by simp [Act.eval]) ?_
   refine (hsk).mono ?_
   rintro e wj ⟨rfl, hz⟩
   refine ⟨_, rfl, ?_⟩
   clear hsk
   have MA := Keep.mk (belowT KA.out hz)
   have MO := Keep.mk (KO.out.below hz)
   have Mel := Keep.mk (rangeAt_below Hel.out hz HG.out)
   clear hz
   simp only [Act.put, pqA, pqB, pqC]
   refine VlS (.int .i64 ix) ?_
   refine WL.nil (hK17 _ _ ?_)
   refine wp_seq_k fun K18 hK18 => rgn ?_
   refine VlS (.int .i64 ix) ?_
   by_cases h12_1 : ix < 0
   ·skip
    refine VlS (.bool true) ?_
    refine WL.nil (hK18 _ _ ?_)
    refine wp_cond_true rfl ?_
    refine rgn ?_
    refine VlS (vo) ?_
    refine VlS (.slice (some ⟨gp, op, none⟩) L.length pc) ?_
    refine VlS (.int .i64 (k : Int)) ?_
    refine VlS (.pointer (some ⟨gp, op + k * 34, none⟩)) ?_
    refine VlS (.pointer (some ⟨gp, op + k * 34, none⟩)) ?_
    refine WL.midA (by kernel_rfl) 36 (.tmp 44) rfl gp (op + k * 34) rfl (bytesA 32 hh.f) _ Mel.out Try.underlying36 rfl (Try.size36B _) ?_
    simp only [Act.put, pqA, pqB, pqC]
    refine WL.bs (by kernel_rfl) 37 1 _ rfl #[(0, .agg (bytesA 32 hh.f))] (by simp [Act.eval]) _ _ (bsH hh wj) ?_
    have HGy := Keep.mk (Blk.new wj 36 (bytesA 32 hh.f))
    have BY := Keep.mk (below_new wj (.cells (bytesA 32 hh.f) 36))
    generalize wj.alloc (.cells (bytesA 32 hh.f) 36) = wk at *
    have PA := Keep.mk (belowT MA.out BY.out)
    have PO := Keep.mk (MO.out.below BY.out)
    clear BY
    generalize wj.heap.size = gy at *
    simp only [Act.put, pqA, pqB, pqC]
    refine WL.appH (by kernel_rfl) (.tmp 40) (.tmp 46) rfl vo _ gy hh rfl rfl PO.out HGy.out (by have := KC.out; have := HL.out; omega) fun v8 wl h1 h2 h3 => ?_
    have QO := Keep.mk h1
    have QN : Keep (∀ i, v8.ownBlock = some i → w9.heap.size ≤ i) := ⟨fun i hi => h3.elim (fun e => KN.out i (by rw [← e]; exact hi)) fun ⟨q, e, hq⟩ => by rw [hi] at e; have := Option.some.inj e; subst this; exact Nat.le_trans PA.out.size hq⟩
    have QA : Keep (Below w9.heap.size w9 wl) := ⟨PA.out.trans (h2.to_below (fun i hi e => by have := KN.out i e; omega) PA.out.size)⟩
    clear h1 h2 h3
    simp only [Act.put, pqA, pqB, pqC]
    refine VlS (v8) ?_
    refine WL.nil (hK16 _ _ ?_)
    refine rgn ?_
    refine VlS (.int .i64 (k : Int)) ?_
    refine VlS (.int .i64 ((k + 1 : Nat) : Int)) ?_
    refine VlS (.int .i64 ((k + 1 : Nat) : Int)) ?_
    refine WL.nil ?_
    have hf : ((L.take (k + 1)).map fun q => q.1.id).filter (hdQ L) = ((L.take k).map fun q => q.1.id).filter (hdQ L) ++ (if hdQ L hh = true then [hh] else []) := by rw [List.take_succ_eq_append_getElem hkl, List.map_append, List.filter_append, List.map_cons, List.map_nil, ← hhh.out]; congr 1; by_cases h : hdQ L hh = true <;> simp [h]
    have hq : hdQ L hh = true ↔ ix < 0 := by rw [hdQ, decide_eq_true_iff, ← R4.out hh, ← ixF_ge (t := 0), hix.out]; omega
    rw [if_pos (hq.2 h12_1)] at hf
    refine ⟨⟨k + 1, .int .i64 ix, .int .i64 (k : Int), .slice (some ⟨gp, op, none⟩) L.length pc, .int .i64 (L.length : Int), .bool true, .int .i64 (k : Int), .int .i64 ((k + 1 : Nat) : Int), v9, .slice (some ⟨gp, op, none⟩) L.length pc, .int .i64 (k : Int), .pointer (some ⟨gp, op + k * 34, none⟩), .pointer (some ⟨gp, op + k * 34, none⟩), .agg (bytesA 32 hh.f), .int .i64 ix, .int .i64 ix, .bool true, vo, .slice (some ⟨gp, op, none⟩) L.length pc, .int .i64 (k : Int), .pointer (some ⟨gp, op + k * 34, none⟩), .pointer (some ⟨gp, op + k * 34, none⟩), .agg (bytesA 32 hh.f), .slice (some ⟨gy, 0, none⟩) 1 1, v8, v8, rfl, by omega, by rw [hf]; exact QO.out, QN.out, QA.out, by rw [hf, List.length_append, List.length_singleton]; have := KC.out; omega⟩, ?_⟩
    simp only [intOf]; show L.length - (((k + 1 : Nat) : Int)).toNat < L.length - ((k : Int)).toNat; omega
   ·skip
    refine VlS (.bool false) ?_
    refine WL.nil (hK18 _ _ ?_)
    refine wp_cond_false rfl ?_
    refine wp_skip ?_
    refine hK16 _ _ ?_
    refine rgn ?_
    refine VlS (.int .i64 (k : Int)) ?_
    refine VlS (.int .i64 ((k + 1 : Nat) : Int)) ?_
    refine VlS (.int .i64 ((k + 1 : Nat) : Int)) ?_
    refine WL.nil ?_
    have hf : ((L.take (k + 1)).map fun q => q.1.id).filter (hdQ L) = ((L.take k).map fun q => q.1.id).filter (hdQ L) ++ (if hdQ L hh = true then [hh] else []) := by rw [List.take_succ_eq_append_getElem hkl, List.map_append, List.filter_append, List.map_cons, List.map_nil, ← hhh.out]; congr 1; by_cases h : hdQ L hh = true <;> simp [h]
    have hq : hdQ L hh = true ↔ ix < 0 := by rw [hdQ, decide_eq_true_iff, ← R4.out hh, ← ixF_ge (t := 0), hix.out]; omega
    rw [if_neg (fun h => h12_1 (hq.1 h)), List.append_nil] at hf
    refine ⟨⟨k + 1, .int .i64 ix, .int .i64 (k : Int), .slice (some ⟨gp, op, none⟩) L.length pc, .int .i64 (L.length : Int), .bool true, .int .i64 (k : Int), .int .i64 ((k + 1 : Nat) : Int), v9, .slice (some ⟨gp, op, none⟩) L.length pc, .int .i64 (k : Int), .pointer (some ⟨gp, op + k * 34, none⟩), .pointer (some ⟨gp, op + k * 34, none⟩), .agg (bytesA 32 hh.f), .int .i64 ix, .int .i64 ix, .bool false, z40, z41, z42, z43, z44, z45, z46, z47, vo, rfl, by omega, by rw [hf]; exact MO.out, KN.out, MA.out, by rw [hf]; have := KC.out; omega⟩, ?_⟩
    simp only [intOf]; show L.length - (((k + 1 : Nat) : Int)).toNat < L.length - ((k : Int)).toNat; omega
  ·have hke : k = L.length := by omega
   have hkl' : ¬ (k : Int) < (L.length : Int) := by omega
   refine wp_seq_k fun K19 hK19 => ?_
   refine wp_seq_k fun K20 hK20 => rgn ?_
   refine VlS (.int .i64 (k : Int)) ?_
   refine VlS (.slice pa L.length pc) ?_
   refine VlS (.int .i64 (L.length : Int)) ?_
   refine VlS (.bool false) ?_
   refine WL.nil (hK20 _ _ ?_)
   refine wp_cond_false rfl ?_
   refine wp_exit ?_
   refine hK12 _ _ ?_
   refine wp_seq_k fun K21 hK21 => rgn ?_
   refine VlS (vo) ?_
   have hso := refSort_any _ vo _ wi rfl KO.out.row (by have := KC.out; have := HL.out; omega)
   refine WL.callF (by kernel_rfl) 16 _ _ rfl Try.in16 #[vo] (by simp [Act.eval]) ?_
   refine (hso.mono (R' := fun e w' => ∃ v' L', e = .returned v' ∧ OwnH w' v' L' ∧ (∀ k, v'.ownBlock = some k → wi.heap.size ≤ k) ∧ L'.Pairwise Lt ∧ (∀ x, x ∈ L' ↔ x ∈ (L.map fun q => q.1.id).filter (hdQ L)) ∧ L'.length ≤ 4096 ∧ Below wi.heap.size wi w') (fun e w' ⟨v', L', h1, h2, h3, h4, h5, h6⟩ => ⟨v', L', h1, OwnH.of h2, ownsH_block h2, h3, by rw [hke, List.take_length] at h4; exact h4, by have := KC.out; have := HL.out; omega, h6⟩)).mono ?_
   rintro e wz ⟨vz, Lz, rfl, h1, h2, h3, h4, h5, h6⟩
   refine ⟨_, rfl, ?_⟩
   clear hso
   have Z1 := Keep.mk h1
   have Z2 := Keep.mk h2
   have Z3 := Keep.mk h3
   have Z4 := Keep.mk h4
   have Z5 := Keep.mk h5
   have Z6 := Keep.mk (belowT (belowT R6.out KA.out) h6)
   have Z7 : Keep (w.heap.size ≤ wi.heap.size) := ⟨(belowT R6.out KA.out).size⟩
   clear h1 h2 h3 h4 h5 h6
   simp only [Act.put, pqA, pqB, pqC]
   refine VlS (vz) ?_
   refine WL.nil (hK21 _ _ ?_)
   refine wp_ret ?_
   go_ret
   exact ⟨vz, Lz, rfl, ⟨Z1.out, fun k hk => Nat.le_trans Z7.out (Z2.out k hk), Z6.out⟩, Z3.out, Z4.out, Z5.out⟩
end Go.Proofs.Ytogmdfhicbmplaa
namespace Go.Proofs.Ytogmdfhicbmplaa
open Go.RowKit
set_option linter.unusedSimpArgs false
set_option linter.unusedVariables false

theorem Try.in11 (w : World) (vs : Array Value) : (callFunc 11 vs).run Try.prog w = .ok (.enter 11 vs) w := by kernel_rfl
set_option maxRecDepth 8000 in
set_option maxHeartbeats 400000 in
theorem rnew_any (r : Int) (w : World) : Calls Try.prog 11 #[.int .i64 r] w fun e w' => ((r < 0 ∨ 64 < r) ∧ e = .returned (.tuple #[.pointer none, .int .i64 1]) ∧ w' = w) ∨ (0 ≤ r ∧ r ≤ 64 ∧ e = .returned (.tuple #[ptr w.heap.size, .int .i64 0]) ∧ Blk w' w.heap.size 79 (rdA r (.slice none 0 0) (.slice none 0 0) (.slice none 0 0)) ∧ Below w.heap.size w w') := by
 go_enter Try.func11, Try.ntmps11
 refine wp_seq_k fun K1 hK1 => rgn ?_
 refine VlS (.pointer none) ?_
 refine VlS (.int .i64 0) ?_
 refine WL.nil (hK1 _ _ ?_)
 refine wp_seq_k fun K2 hK2 => ?_
 refine wp_seq_k fun K3 hK3 => rgn ?_
 refine VlS (.int .i64 r) ?_
 by_cases h1_1 : r < 0
 ·skip
  refine VlS (.bool true) ?_
  refine VlS (.bool true) ?_
  refine SkS ?_
  refine SkS ?_
  refine VlS (.bool true) ?_
  refine WL.nil (hK3 _ _ ?_)
  refine wp_cond_true rfl ?_
  refine wp_seq_k fun K4 hK4 => rgn ?_
  refine VlS (.pointer none) ?_
  refine VlS (.int .i64 1) ?_
  refine WL.nil (hK4 _ _ ?_)
  refine wp_ret ?_
  go_ret2
  exact .inl ⟨by omega, rfl, rfl⟩
 ·skip
  refine VlS (.bool false) ?_
  refine VlS (.bool false) ?_
  refine VlS (.int .i64 r) ?_
  by_cases h1_4 : 64 < r
  ·skip
   refine VlS (.bool true) ?_
   refine VlS (.bool true) ?_
   refine WL.nil (hK3 _ _ ?_)
   refine wp_cond_true rfl ?_
   refine wp_seq_k fun K5 hK5 => rgn ?_
   refine VlS (.pointer none) ?_
   refine VlS (.int .i64 1) ?_
   refine WL.nil (hK5 _ _ ?_)
   refine wp_ret ?_
   go_ret2
   exact .inl ⟨by omega, rfl, rfl⟩
  ·skip
   refine VlS (.bool false) ?_
   refine VlS (.bool false) ?_
   refine WL.nil (hK3 _ _ ?_)
   refine wp_cond_false rfl ?_
   refine wp_skip ?_
   refine hK2 _ _ ?_
   refine wp_seq_k fun K6 hK6 => rgn ?_
   refine VlS (.int .i64 r) ?_
   refine WL.bld (by kernel_rfl) 79 _ rfl [(0, .int .i64 r)] (by simp [Act.eval]) (rdA r (.slice none 0 0) (.slice none 0 0) (.slice none 0 0)) (by kernel_rfl) ?_
   simp only [Act.put, pqA, pqB, pqC]
   refine WL.box (by kernel_rfl) 79 (.tmp 11) rfl (rdA r (.slice none 0 0) (.slice none 0 0) (.slice none 0 0)) rfl ?_
   simp only [Act.put, pqA, pqB, pqC]
   refine VlS (.pointer (some ⟨w.heap.size, 0, none⟩)) ?_
   refine VlS (.int .i64 0) ?_
   refine WL.nil (hK6 _ _ ?_)
   refine wp_ret ?_
   go_ret2
   exact .inr ⟨by omega, by omega, rfl, Blk.new _ _ _, below_new _ _⟩
set_option maxRecDepth 8000 in
set_option maxHeartbeats 1000000 in
theorem rheads_any (d : Nat) (R : RG) (w : World) (hD : RRd w d R) (hI : RI R) : Calls Try.prog 49 #[ptr d] w fun e w' => ∃ v' L', e = .returned v' ∧ Fresh w w' v' L' ∧ L'.Pairwise Lt ∧ (∀ x, x ∈ L' ↔ x ∈ (R.held.map fun q => q.1.id).filter (hdQ R.held)) ∧ L'.length ≤ 4096 := by
 obtain ⟨hv, wv, sv, g1, g2, -, -⟩ := hD
 obtain ⟨wa, wc, rfl⟩ := g2.form
 have G1 := Keep.mk g1
 have G2 := Keep.mk g2
 have HI := Keep.mk hI
 clear g1 g2 hI
 go_enter Try.func49, Try.ntmps49
 refine wp_seq_k fun K1 hK1 => rgn ?_
 refine VlS (.slice none 0 0) ?_
 refine WL.nil (hK1 _ _ ?_)
 refine wp_seq_k fun K2 hK2 => rgn ?_
 refine VlS (.pointer (some ⟨d, 0, none⟩)) ?_
 refine VlS (.pointer (some ⟨d, 0, none⟩)) ?_
 refine VlS (.pointer (some ⟨d, 1, none⟩)) ?_
 have c2 : w.cell? ⟨d, 1, none⟩ = some (.slice wa R.held.length wc) := G1.out.c 1 rfl
 refine WL.val (by kernel_rfl) (.slice wa R.held.length wc) (by go_simp) ?_
 clear c2
 simp only [Act.put, pqA, pqB, pqC]
 refine WL.callF (by kernel_rfl) 76 _ _ rfl Try.in76 #[.slice wa R.held.length wc] (by simp [Act.eval]) ?_
 refine (rHeads_any _ R.held w G2.out HI.out.hl (fun q hq => HI.out.hp q.1 (List.mem_map.2 ⟨q, hq, rfl⟩))).mono ?_
 rintro e w1 ⟨v7, L7, rfl, hf⟩
 refine ⟨_, rfl, ?_⟩
 have F1 := Keep.mk hf
 clear hf
 simp only [Act.put, pqA, pqB, pqC]
 refine VlS (v7) ?_
 refine WL.nil (hK2 _ _ ?_)
 refine wp_ret ?_
 go_ret
 exact ⟨_, _, rfl, F1.out⟩
end Go.Proofs.Ytogmdfhicbmplaa
namespace Go.Proofs.Ytogmdfhicbmplaa
open Go.RowKit
set_option linter.unusedSimpArgs false
set_option linter.unusedVariables false

theorem Try.in38 (w : World) (vs : Array Value) : (callFunc 38 vs).run Try.prog w = .ok (.enter 38 vs) w := by kernel_rfl
/-- The oldest one whose parents are all held. -/
def nxR (R : RG) (l : List VP) : Option VP := l.find? fun q => q.1.ps.all (hasB R.hs)
set_option maxRecDepth 8000 in
set_option maxHeartbeats 1000000 in
theorem rnext_any (d : Nat) (R : RG) (w : World) (hD : RRd w d R) (hI : RI R) : Calls Try.prog 38 #[ptr d] w fun e w' =>
  (nxR R R.wait = none ∧ e = .returned (.tuple #[vZ, .bool false]) ∧ Below w.heap.size w w') ∨ ∃ q, nxR R R.wait = some q ∧ e = .returned (.tuple #[.agg (vtx q.1.id.f q.1.ck q.2), .bool true]) ∧ Below w.heap.size w w' := by
 have HD := Keep.mk hD
 obtain ⟨hv, wv, sv, g1, -, g2, -⟩ := hD
 obtain ⟨wa, wc, rfl⟩ := g2.form
 have G1 := Keep.mk g1
 have G2 := Keep.mk g2
 have HI := Keep.mk hI
 clear g1 g2 hI
 go_enter Try.func38, Try.ntmps38
 refine wp_seq_k fun K1 hK1 => rgn ?_
 refine WL.new (by kernel_rfl) 39 rfl _ Try.new39 ?_
 obtain ⟨vz, hvz⟩ : ∃ a : Array Value, Keep (a = vtx (fun _ => 0) 0 (.slice none 0 0)) := ⟨_, ⟨rfl⟩⟩
 rw [← hvz.out]
 have HZ1 := Keep.mk (Blk.new w 39 vz)
 have LB1 := Keep.mk (below_new w (.cells vz 39))
 generalize w.alloc (.cells vz 39) = w1 at *
 simp only [Act.put, pqA, pqB, pqC]
 refine VlS (.bool false) ?_
 refine WL.nil (hK1 _ _ ?_)
 refine wp_seq_k fun K2 hK2 => ?_
 refine wp_seq_k fun K3 hK3 => rgn ?_
 refine VlS (.int .i64 0) ?_
 refine WL.nil (hK3 _ _ ?_)
 refine wp_block ?_
 refine wp_loop (fun ac wr => ∃ (t : Nat) (u3 u5 u6 u7 u8 u9 u10 u11 u12 u13 u14 u15 u16 u17 u18 u19 u20 u21 u22 u23 u24 u25 u26 u27 u28 u29 u30 u31 : Value), ac = { tmps := #[.pointer (some ⟨d, 0, none⟩), undef, .pointer (some ⟨w.heap.size, 0, none⟩), u3, .int .i64 (t : Int), u5, u6, u7, u8, u9, u10, u11, u12, u13, u14, u15, u16, u17, u18, u19, u20, u21, u22, u23, u24, u25, u26, u27, u28, u29, u30, u31, undef], defers := [] } ∧ t ≤ R.wait.length ∧ nxR R R.wait = nxR R (R.wait.drop t) ∧ Below w1.heap.size w1 wr) (fun a _ => R.wait.length - (intOf (a.tmps.getD 4 undef)).toNat) ⟨0, .bool false, undef, undef, undef, undef, undef, undef, undef, undef, undef, undef, undef, undef, undef, undef, undef, undef, undef, undef, undef, undef, undef, undef, undef, undef, undef, undef, undef, rfl, by omega, rfl, Below.refl _ _⟩ ?_
 rintro ac wr ⟨t, u3, u5, u6, u7, u8, u9, u10, u11, u12, u13, u14, u15, u16, u17, u18, u19, u20, u21, u22, u23, u24, u25, u26, u27, u28, u29, u30, u31, rfl, ht, hP, hB⟩
 have JB := Keep.mk hB
 have JP := Keep.mk hP
 clear hB hP
 have LBr := Keep.mk (belowT LB1.out JB.out)
 have HZr := Keep.mk (HZ1.out.below JB.out HZ1.out.lt)
 by_cases htl : t < R.wait.length
 ·have htl' : (t : Int) < (R.wait.length : Int) := by omega
  have hwr1 : IntKind.i64.wrap ((t : Int) + 1) = (t : Int) + 1 := by rw [IntKind.wrap_i64]; have := HI.out.wl; omega
  obtain ⟨gp, op, hpa, -, hrg⟩ := G2.out.at (by omega)
  have HG := Keep.mk (flatV_lt hrg (by omega))
  have Hcl := Keep.mk (flat_elem encV_len hrg t htl)
  obtain ⟨qq, hqq⟩ : ∃ q, Keep (q = R.wait[t]) := ⟨_, ⟨rfl⟩⟩
  have HQ : Keep (HRow w qq.2 qq.1.ps ∧ qq.1.ps.length ≤ 4398046511104) := ⟨G2.out.2 qq (by rw [hqq.out]; exact List.getElem_mem htl)⟩
  obtain ⟨pa, pc, hpf⟩ := HQ.out.1.form
  have HPF := Keep.mk hpf
  obtain ⟨vv, hvv⟩ : ∃ a : Array Value, Keep (a = vtx qq.1.id.f qq.1.ck qq.2) := ⟨_, ⟨rfl⟩⟩
  have HV : Keep (∀ wx, Below w.heap.size w wx → wx.rangeAt gp (op + t * 34) vv.toList) := ⟨fun wx hb => by have h := rangeAt_below Hcl.out hb HG.out; rw [← hqq.out] at h; rw [hvv.out]; exact h⟩
  have HI7 : Keep ((Try.prog.info? 39).map (·.size) = some vv.size) := ⟨by rw [hvv.out]; exact Try.info39s _ _ _⟩
  have HO7 : Keep (vv.all (·.oneCell') = true) := ⟨by rw [hvv.out, hpf]; exact vtx_one _ _ _ (slice_one _ _ _)⟩
  have HS7 : Keep (vz.size = vv.size) := ⟨by rw [hvv.out, hvz.out, vtx_size, vtx_size]⟩
  subst hpa
  clear hrg hpf Hcl
  refine wp_seq_k fun K4 hK4 => ?_
  refine wp_seq_k fun K5 hK5 => rgn ?_
  refine VlS (.int .i64 (t : Int)) ?_
  refine VlS (.pointer (some ⟨d, 0, none⟩)) ?_
  refine VlS (.pointer (some ⟨d, 0, none⟩)) ?_
  refine VlS (.pointer (some ⟨d, 2, none⟩)) ?_
  have c2 : wr.cell? ⟨d, 2, none⟩ = some (.slice (some ⟨gp, op, none⟩) R.wait.length wc) := (G1.out.below LBr.out G1.out.lt).c 2 rfl
  refine WL.val (by kernel_rfl) (.slice (some ⟨gp, op, none⟩) R.wait.length wc) (by go_simp) ?_
  clear c2
  simp only [Act.put, pqA, pqB, pqC]
  refine VlS (.int .i64 (R.wait.length : Int)) ?_
  refine VlS (.bool true) ?_
  refine WL.nil (hK5 _ _ ?_)
  refine wp_cond_true rfl ?_
  refine wp_skip ?_
  refine hK4 _ _ ?_
  refine wp_seq_k fun K6 hK6 => ?_
  refine wp_block ?_
  refine wp_seq_k fun K7 hK7 => rgn ?_
  refine VlS (.pointer (some ⟨d, 0, none⟩)) ?_
  refine VlS (.pointer (some ⟨d, 0, none⟩)) ?_
  refine VlS (.pointer (some ⟨d, 0, none⟩)) ?_
  refine VlS (.pointer (some ⟨d, 2, none⟩)) ?_
  have c2 : wr.cell? ⟨d, 2, none⟩ = some (.slice (some ⟨gp, op, none⟩) R.wait.length wc) := (G1.out.below LBr.out G1.out.lt).c 2 rfl
  refine WL.val (by kernel_rfl) (.slice (some ⟨gp, op, none⟩) R.wait.length wc) (by go_simp) ?_
  clear c2
  simp only [Act.put, pqA, pqB, pqC]
  refine VlS (.int .i64 (t : Int)) ?_
  refine VlS (.pointer (some ⟨gp, op + t * 34, none⟩)) ?_
  refine WL.midA (by kernel_rfl) 39 (.tmp 21) rfl gp (op + t * 34) rfl vv _ (HV.out _ LBr.out) Try.underlying39 rfl HI7.out ?_
  simp only [Act.put, pqA, pqB, pqC]
  have hcl := rclosed_any d qq.1 qq.2 R wr (HD.out.below LBr.out) HI.out (HQ.out.1.below LBr.out) (by have := HQ.out.2; omega)
  rw [← hvv.out] at hcl
  refine WL.callF (by kernel_rfl) 70 _ _ rfl Try.in70 #[ptr d, .agg vv] (by simp [Act.eval]) ?_
  refine (hcl).mono ?_
  rintro e w6 ⟨rfl, hz⟩
  refine ⟨_, rfl, ?_⟩
  clear hcl
  have LB6 := Keep.mk (belowT LBr.out hz)
  have JB6 := Keep.mk (belowT JB.out hz)
  have HZ6 := Keep.mk (HZr.out.below hz HZr.out.lt)
  clear hz
  obtain ⟨ba, hba0⟩ : ∃ b, Keep (qq.1.ps.all (hasB R.hs) = b) := ⟨_, ⟨rfl⟩⟩
  rw [hba0.out]
  have HPc : Keep (nxR R R.wait = if ba = true then some qq else nxR R (R.wait.drop (t + 1))) := ⟨by rw [JP.out, List.drop_eq_getElem_cons htl, nxR, List.find?_cons, ← hqq.out, hba0.out]; cases ba <;> rfl⟩
  simp only [Act.put, pqA, pqB, pqC]
  refine VlS (.bool ba) ?_
  refine WL.nil (hK7 _ _ ?_)
  refine wp_seq_k fun K8 hK8 => rgn ?_
  refine VlS (.bool ba) ?_
  refine WL.nil (hK8 _ _ ?_)
  rcases Bool.eq_false_or_eq_true ba with hba | hba
  ·subst hba
   refine wp_cond_true rfl ?_
   refine wp_seq_k fun K9 hK9 => rgn ?_
   refine VlS (.pointer (some ⟨d, 0, none⟩)) ?_
   refine VlS (.pointer (some ⟨d, 0, none⟩)) ?_
   refine VlS (.pointer (some ⟨d, 2, none⟩)) ?_
   have c2 : w6.cell? ⟨d, 2, none⟩ = some (.slice (some ⟨gp, op, none⟩) R.wait.length wc) := (G1.out.below LB6.out G1.out.lt).c 2 rfl
   refine WL.val (by kernel_rfl) (.slice (some ⟨gp, op, none⟩) R.wait.length wc) (by go_simp) ?_
   clear c2
   simp only [Act.put, pqA, pqB, pqC]
   refine VlS (.int .i64 (t : Int)) ?_
   refine VlS (.pointer (some ⟨gp, op + t * 34, none⟩)) ?_
   refine WL.midA (by kernel_rfl) 39 (.tmp 30) rfl gp (op + t * 34) rfl vv _ (HV.out _ LB6.out) Try.underlying39 rfl HI7.out ?_
   simp only [Act.put, pqA, pqB, pqC]
   refine WL.storeR (by kernel_rfl) 39 (.tmp 2) (.tmp 31) rfl w.heap.size vv rfl rfl 39 vz HZ6.out HI7.out HS7.out HO7.out ?_
   have HZ8 := Keep.mk (HZ6.out.setRow vv)
   have LB8 := Keep.mk (below_setRow LB6.out (b := w.heap.size) (Nat.le_refl _) vv)
   generalize w6.setRow w.heap.size vv = w8 at *
   simp only [Act.put]
   refine VlS (.bool true) ?_
   refine WL.nil (hK9 _ _ ?_)
   refine wp_ret ?_
   try simp only [Exit.inBlock, Exit.then]
   refine bodyPost_ret (v := .tuple #[.agg vv, .bool true]) (results_cell_row2 Try.results38 _ _ w.heap.size 39 _ (0, 0) _ _ rfl rfl HZ8.out Try.underlying39 rfl HI7.out) rfl ?_
   exact .inr ⟨qq, by rw [HPc.out]; rfl, by rw [hvv.out], LB8.out⟩
  ·subst hba
   refine wp_cond_false rfl ?_
   refine wp_skip ?_
   refine hK6 _ _ ?_
   refine rgn ?_
   refine VlS (.int .i64 (t : Int)) ?_
   refine VlS (.int .i64 ((t : Int) + 1)) ?_
   refine VlS (.int .i64 ((t : Int) + 1)) ?_
   refine WL.nil ?_
   refine ⟨⟨t + 1, u3, .bool false, .int .i64 (t : Int), .pointer (some ⟨d, 0, none⟩), .pointer (some ⟨d, 0, none⟩), .pointer (some ⟨d, 2, none⟩), .slice (some ⟨gp, op, none⟩) R.wait.length wc, .int .i64 (R.wait.length : Int), .bool true, .int .i64 (t : Int), .int .i64 ((t : Int) + 1), .pointer (some ⟨d, 0, none⟩), .pointer (some ⟨d, 0, none⟩), .pointer (some ⟨d, 0, none⟩), .pointer (some ⟨d, 2, none⟩), .slice (some ⟨gp, op, none⟩) R.wait.length wc, .int .i64 (t : Int), .pointer (some ⟨gp, op + t * 34, none⟩), .agg vv, .bool false, .bool false, u25, u26, u27, u28, u29, u30, u31, rfl, by omega, ?_, JB6.out⟩, ?_⟩
   ·rw [HPc.out]; rfl
   ·simp only [intOf]; show R.wait.length - ((t : Int) + 1).toNat < R.wait.length - ((t : Int)).toNat; omega
 ·have hte : Keep (t = R.wait.length) := ⟨by omega⟩
  have htl' : ¬ (t : Int) < (R.wait.length : Int) := by omega
  refine wp_seq_k fun K10 hK10 => ?_
  refine wp_seq_k fun K11 hK11 => rgn ?_
  refine VlS (.int .i64 (t : Int)) ?_
  refine VlS (.pointer (some ⟨d, 0, none⟩)) ?_
  refine VlS (.pointer (some ⟨d, 0, none⟩)) ?_
  refine VlS (.pointer (some ⟨d, 2, none⟩)) ?_
  have c2 : wr.cell? ⟨d, 2, none⟩ = some (.slice wa R.wait.length wc) := (G1.out.below LBr.out G1.out.lt).c 2 rfl
  refine WL.val (by kernel_rfl) (.slice wa R.wait.length wc) (by go_simp) ?_
  clear c2
  simp only [Act.put, pqA, pqB, pqC]
  refine VlS (.int .i64 (R.wait.length : Int)) ?_
  refine VlS (.bool false) ?_
  refine WL.nil (hK11 _ _ ?_)
  refine wp_cond_false rfl ?_
  refine wp_exit ?_
  refine hK2 _ _ ?_
  refine wp_seq_k fun K12 hK12 => rgn ?_
  refine WL.bld (by kernel_rfl) 39 _ rfl [] (by simp) vz (by rw [hvz.out]; exact built_zero) ?_
  simp only [Act.put, pqA, pqB, pqC]
  refine WL.storeR (by kernel_rfl) 39 (.tmp 2) (.tmp 32) rfl w.heap.size vz rfl rfl 39 vz HZr.out (by rw [hvz.out]; exact Try.info39s _ _ _) rfl (by rw [hvz.out]; exact vtx_one _ _ _ (slice_one _ _ _)) ?_
  have HZ8 := Keep.mk (HZr.out.setRow vz)
  have LB8 := Keep.mk (below_setRow LBr.out (b := w.heap.size) (Nat.le_refl _) vz)
  generalize wr.setRow w.heap.size vz = w8 at *
  simp only [Act.put]
  refine VlS (.bool false) ?_
  refine WL.nil (hK12 _ _ ?_)
  refine wp_ret ?_
  try simp only [Exit.inBlock, Exit.then]
  refine bodyPost_ret (v := .tuple #[.agg vz, .bool false]) (results_cell_row2 Try.results38 _ _ w.heap.size 39 _ (0, 0) _ _ rfl rfl HZ8.out Try.underlying39 rfl (by rw [hvz.out]; exact Try.info39s _ _ _)) rfl ?_
  refine .inl ⟨by rw [JP.out, hte.out, List.drop_length]; rfl, by rw [hvz.out]; rfl, LB8.out⟩
end Go.Proofs.Ytogmdfhicbmplaa
