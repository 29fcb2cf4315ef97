import Derived.Test.YteecdcocgflklaaDoorA07
import Derived.Test.YteecdcocgflklaaDoorRows
import Derived.ProofKit
import Derived.OpenShut
import Derived.ChangeOld
import Derived.Below
import Derived.SizedLaws
import Derived.Deep.Slices
namespace Go.Proofs.YteecdcocgflklaaDoor
open Go.RowKit
set_option linter.unusedSimpArgs false
set_option linter.unusedVariables false
set_option maxRecDepth 8000 in
set_option maxHeartbeats 1000000 in
theorem spo_c (w : World) (qe : Addr) (HE : Keep (ErrI w qe)) (ba oa : Option Addr) (bn bc on oc : Nat) (b o : List Int) (place by_ m : Int) (HB : Keep (RowAt w (.slice ba bn bc) b)) (HO : Keep (RowAt w (.slice oa on oc) o)) (Hbn : Keep (b.length = bn)) (Hon : Keep (o.length = on)) (HBy : Keep (Byts b)) (HOy : Keep (Byts o)) (Hby : Keep (0 ≤ by_ ∧ by_ < 256)) (HD : Keep (b ≠ [] → ∀ k, (Value.slice ba bn bc).ownBlock = some k → k < w.heap.size)) (HDo : Keep (o ≠ [] → ∀ k, (Value.slice oa on oc).ownBlock = some k → k < w.heap.size)) (hb9 : ¬ 2097194 < bn) (ho9 : ¬ 2097194 < on) (hby0 : ¬ by_ = 0) (hbn0 : bn = 0) (Hc : Keep (by_ = 0 ∨ b.length = 0)) : Calls Tryd.prog 6 #[.slice ba bn bc, .slice oa on oc, .int .i64 place, .int .u8 by_, .int .i64 m] w fun e w' => e = .returned (.bool true) ∧ Below w.heap.size w w' := by
  have hb9' : ¬ (bn : Int) > 2097194 := by omega
  have hb9'' : ¬ 2097194 < (bn : Int) := by omega
  have ho9' : ¬ (on : Int) > 2097194 := by omega
  have ho9'' : ¬ 2097194 < (on : Int) := by omega
  go_enter Tryd.func6, Tryd.ntmps6
  refine wp_seq_k fun K1 hK1 => ?_
  refine wp_region_list (WL.out ?_)
  refine WL.val (by kernel_rfl) (.bool false) (by go_simp) ?_
  simp only [Act.put, List.setIfInBounds_toArray, List.set_cons_zero, List.set_cons_succ]
  refine WL.nil ?_
  refine hK1 _ _ ?_
  refine wp_seq_k fun K2 hK2 => ?_
  refine wp_region_list (WL.out ?_)
  refine WL.callF (by kernel_rfl) 7 _ _ rfl Tryd.in7 #[] (by simp) ?_
  refine (fixed_any w qe HE).mono ?_
  rintro e w1 ⟨rfl, hb⟩
  refine ⟨_, rfl, ?_⟩
  have B1 := Keep.mk hb
  clear hb
  simp only [Act.put, List.setIfInBounds_toArray, List.set_cons_zero, List.set_cons_succ]
  refine WL.val (by kernel_rfl) (.bool true) (by go_simp) ?_
  simp only [Act.put, List.setIfInBounds_toArray, List.set_cons_zero, List.set_cons_succ]
  refine WL.nil ?_
  refine hK2 _ _ ?_
  refine wp_seq_k fun K3 hK3 => ?_
  refine wp_region_list (WL.out ?_)
  refine WL.callF (by kernel_rfl) 8 _ _ rfl Tryd.in8 #[.int .i64 2] (by simp [Act.eval]) ?_
  refine (ls_new B1.out (N := 2) (by decide) 1 2 (by decide)).mono ?_
  rintro e w2 ⟨p, mb, rfl, hL⟩
  refine ⟨_, rfl, ?_⟩
  have L2 := Keep.mk hL
  clear hL B1
  simp only [Act.put, List.setIfInBounds_toArray, List.set_cons_zero, List.set_cons_succ]
  refine WL.val (by kernel_rfl) (.tuple #[.pointer (some ⟨p, 0, none⟩), .int .i64 0]) (by go_simp) ?_
  simp only [Act.put, List.setIfInBounds_toArray, List.set_cons_zero, List.set_cons_succ]
  refine WL.val (by kernel_rfl) (.pointer (some ⟨p, 0, none⟩)) (by go_simp) ?_
  simp only [Act.put, List.setIfInBounds_toArray, List.set_cons_zero, List.set_cons_succ]
  refine WL.val (by kernel_rfl) (.int .i64 0) (by go_simp) ?_
  simp only [Act.put, List.setIfInBounds_toArray, List.set_cons_zero, List.set_cons_succ]
  refine WL.val (by kernel_rfl) (.pointer (some ⟨p, 0, none⟩)) (by go_simp) ?_
  simp only [Act.put, List.setIfInBounds_toArray, List.set_cons_zero, List.set_cons_succ]
  refine WL.val (by kernel_rfl) (.int .i64 0) (by go_simp) ?_
  simp only [Act.put, List.setIfInBounds_toArray, List.set_cons_zero, List.set_cons_succ]
  refine WL.nil ?_
  refine hK3 _ _ ?_
  refine wp_seq_k fun K4 hK4 => ?_
  refine wp_seq_k fun K5 hK5 => ?_
  refine wp_region_list (WL.out ?_)
  refine WL.val (by kernel_rfl) (.bool true) (by go_simp) ?_
  simp only [Act.put, List.setIfInBounds_toArray, List.set_cons_zero, List.set_cons_succ]
  refine WL.val (by kernel_rfl) (.bool false) (by go_simp) ?_
  simp only [Act.put, List.setIfInBounds_toArray, List.set_cons_zero, List.set_cons_succ]
  refine WL.val (by kernel_rfl) (.bool false) (by go_simp) ?_
  simp only [Act.put, List.setIfInBounds_toArray, List.set_cons_zero, List.set_cons_succ]
  refine WL.val (by kernel_rfl) (.pointer (some ⟨p, 0, none⟩)) (by go_simp) ?_
  simp only [Act.put, List.setIfInBounds_toArray, List.set_cons_zero, List.set_cons_succ]
  refine WL.val (by kernel_rfl) (.bool false) (by go_simp) ?_
  simp only [Act.put, List.setIfInBounds_toArray, List.set_cons_zero, List.set_cons_succ]
  refine WL.val (by kernel_rfl) (.bool false) (by go_simp) ?_
  simp only [Act.put, List.setIfInBounds_toArray, List.set_cons_zero, List.set_cons_succ]
  refine WL.val (by kernel_rfl) (.bool false) (by go_simp) ?_
  simp only [Act.put, List.setIfInBounds_toArray, List.set_cons_zero, List.set_cons_succ]
  refine WL.val (by kernel_rfl) (.int .i64 0) (by go_simp) ?_
  simp only [Act.put, List.setIfInBounds_toArray, List.set_cons_zero, List.set_cons_succ]
  refine WL.val (by kernel_rfl) (.bool false) (by go_simp) ?_
  simp only [Act.put, List.setIfInBounds_toArray, List.set_cons_zero, List.set_cons_succ]
  refine WL.val (by kernel_rfl) (.bool false) (by go_simp) ?_
  simp only [Act.put, List.setIfInBounds_toArray, List.set_cons_zero, List.set_cons_succ]
  refine WL.nil ?_
  refine hK5 _ _ ?_
  refine wp_cond_false rfl ?_
  refine wp_skip ?_
  refine hK4 _ _ ?_
  refine wp_seq_k fun K6 hK6 => ?_
  refine wp_seq_k fun K7 hK7 => ?_
  refine wp_region_list (WL.out ?_)
  refine WL.val (by kernel_rfl) (.slice ba bn bc) (by go_simp) ?_
  simp only [Act.put, List.setIfInBounds_toArray, List.set_cons_zero, List.set_cons_succ]
  refine WL.val (by kernel_rfl) (.int .i64 (bn : Int)) (by go_simp) ?_
  simp only [Act.put, List.setIfInBounds_toArray, List.set_cons_zero, List.set_cons_succ]
  refine WL.val (by kernel_rfl) (.bool false) (by go_simp) ?_
  simp only [Act.put, List.setIfInBounds_toArray, List.set_cons_zero, List.set_cons_succ]
  refine WL.val (by kernel_rfl) (.bool false) (by go_simp) ?_
  simp only [Act.put, List.setIfInBounds_toArray, List.set_cons_zero, List.set_cons_succ]
  refine WL.val (by kernel_rfl) (.slice oa on oc) (by go_simp) ?_
  simp only [Act.put, List.setIfInBounds_toArray, List.set_cons_zero, List.set_cons_succ]
  refine WL.val (by kernel_rfl) (.int .i64 (on : Int)) (by go_simp) ?_
  simp only [Act.put, List.setIfInBounds_toArray, List.set_cons_zero, List.set_cons_succ]
  refine WL.val (by kernel_rfl) (.bool false) (by go_simp) ?_
  simp only [Act.put, List.setIfInBounds_toArray, List.set_cons_zero, List.set_cons_succ]
  refine WL.val (by kernel_rfl) (.bool false) (by go_simp) ?_
  simp only [Act.put, List.setIfInBounds_toArray, List.set_cons_zero, List.set_cons_succ]
  refine WL.nil ?_
  refine hK7 _ _ ?_
  refine wp_cond_false rfl ?_
  refine wp_skip ?_
  refine hK6 _ _ ?_
  refine wp_seq_k fun K8 hK8 => ?_
  refine wp_region_list (WL.out ?_)
  refine WL.val (by kernel_rfl) (.pointer (some ⟨p, 0, none⟩)) (by go_simp) ?_
  simp only [Act.put, List.setIfInBounds_toArray, List.set_cons_zero, List.set_cons_succ]
  refine WL.val (by kernel_rfl) (.slice oa on oc) (by go_simp) ?_
  simp only [Act.put, List.setIfInBounds_toArray, List.set_cons_zero, List.set_cons_succ]
  refine WL.callF (by kernel_rfl) 15 _ _ rfl Tryd.in15 #[.pointer (some ⟨p, 0, none⟩), .int .i64 1, .int .i64 2, .slice oa on oc] (by simp [Act.eval]) ?_
  refine (ls_send L2.out (by decide) (HO.out.below L2.out.bel) HOy.out HDo.out).mono ?_
  rintro e w3 ⟨er3, rfl, _, hL⟩
  refine ⟨_, rfl, ?_⟩
  rw [if_pos (show sdE [] o = 0 from by unfold sdE; rw [if_neg (by have := Hon.out; omega), if_neg (by decide)])] at hL
  simp only [List.nil_append] at hL
  have L3 := Keep.mk hL
  clear hL L2
  simp only [Act.put, List.setIfInBounds_toArray, List.set_cons_zero, List.set_cons_succ]
  refine WL.nil ?_
  refine hK8 _ _ ?_
  refine wp_seq_k fun K9 hK9 => ?_
  refine wp_region_list (WL.out ?_)
  refine WL.val (by kernel_rfl) (.pointer (some ⟨p, 0, none⟩)) (by go_simp) ?_
  simp only [Act.put, List.setIfInBounds_toArray, List.set_cons_zero, List.set_cons_succ]
  refine WL.val (by kernel_rfl) (.slice ba bn bc) (by go_simp) ?_
  simp only [Act.put, List.setIfInBounds_toArray, List.set_cons_zero, List.set_cons_succ]
  refine WL.callF (by kernel_rfl) 15 _ _ rfl Tryd.in15 #[.pointer (some ⟨p, 0, none⟩), .int .i64 1, .int .i64 2, .slice ba bn bc] (by simp [Act.eval]) ?_
  refine (ls_send L3.out (by decide) (HB.out.below L3.out.bel) HBy.out HD.out).mono ?_
  rintro e w4 ⟨er4, rfl, _, hL⟩
  refine ⟨_, rfl, ?_⟩
  rw [if_pos (show sdE [o] b = 0 from by unfold sdE; rw [if_neg (by have := Hbn.out; omega), if_neg (by simp)])] at hL
  simp only [List.cons_append, List.nil_append] at hL
  have L4 := Keep.mk hL
  clear hL L3
  simp only [Act.put, List.setIfInBounds_toArray, List.set_cons_zero, List.set_cons_succ]
  refine WL.nil ?_
  refine hK9 _ _ ?_
  refine wp_seq_k fun K10 hK10 => ?_
  refine wp_region_list (WL.out ?_)
  refine WL.val (by kernel_rfl) (.pointer (some ⟨p, 0, none⟩)) (by go_simp) ?_
  simp only [Act.put, List.setIfInBounds_toArray, List.set_cons_zero, List.set_cons_succ]
  refine WL.val (by kernel_rfl) (.int .i64 place) (by go_simp) ?_
  simp only [Act.put, List.setIfInBounds_toArray, List.set_cons_zero, List.set_cons_succ]
  refine WL.val (by kernel_rfl) (.int .u8 by_) (by go_simp) ?_
  simp only [Act.put, List.setIfInBounds_toArray, List.set_cons_zero, List.set_cons_succ]
  refine WL.callF (by kernel_rfl) 19 _ _ rfl Tryd.in19 #[.pointer (some ⟨p, 0, none⟩), .int .i64 1, .int .i64 2, .int .i64 1, .int .i64 place, .int .u8 by_] (by simp [Act.eval]) ?_
  refine (ls_flip L4.out (by decide) 1 (b := b) rfl place by_ Hby.out).mono ?_
  rintro e w5 ⟨er, rfl, her, hL⟩
  refine ⟨_, rfl, ?_⟩
  rw [if_pos Hc.out] at her
  subst her
  simp only [List.set_cons_succ, List.set_cons_zero] at hL
  have L5 := Keep.mk hL
  clear hL L4
  simp only [Act.put, List.setIfInBounds_toArray, List.set_cons_zero, List.set_cons_succ]
  refine WL.val (by kernel_rfl) (.int .i64 1) (by go_simp) ?_
  simp only [Act.put, List.setIfInBounds_toArray, List.set_cons_zero, List.set_cons_succ]
  refine WL.nil ?_
  refine hK10 _ _ ?_
  refine wp_seq_k fun K11 hK11 => ?_
  refine wp_region_list (WL.out ?_)
  refine WL.val (by kernel_rfl) (.pointer (some ⟨p, 0, none⟩)) (by go_simp) ?_
  simp only [Act.put, List.setIfInBounds_toArray, List.set_cons_zero, List.set_cons_succ]
  refine WL.val (by kernel_rfl) (.int .i64 place) (by go_simp) ?_
  simp only [Act.put, List.setIfInBounds_toArray, List.set_cons_zero, List.set_cons_succ]
  refine WL.val (by kernel_rfl) (.int .u8 by_) (by go_simp) ?_
  simp only [Act.put, List.setIfInBounds_toArray, List.set_cons_zero, List.set_cons_succ]
  refine WL.callF (by kernel_rfl) 19 _ _ rfl Tryd.in19 #[.pointer (some ⟨p, 0, none⟩), .int .i64 1, .int .i64 2, .int .i64 1, .int .i64 place, .int .u8 by_] (by simp [Act.eval]) ?_
  refine (ls_flip L5.out (by decide) 1 (b := flp b place by_) rfl place by_ Hby.out).mono ?_
  rintro e w6 ⟨er, rfl, her, hL⟩
  refine ⟨_, rfl, ?_⟩
  rw [flp_len] at her
  rw [if_pos Hc.out] at her
  subst her
  simp only [List.set_cons_succ, List.set_cons_zero, flp_twice b place by_ HBy.out Hby.out] at hL
  have L6 := Keep.mk hL
  clear hL L5
  simp only [Act.put, List.setIfInBounds_toArray, List.set_cons_zero, List.set_cons_succ]
  refine WL.val (by kernel_rfl) (.int .i64 1) (by go_simp) ?_
  simp only [Act.put, List.setIfInBounds_toArray, List.set_cons_zero, List.set_cons_succ]
  refine WL.nil ?_
  refine hK11 _ _ ?_
  refine wp_seq_k fun K12 hK12 => ?_
  refine wp_region_list (WL.out ?_)
  refine WL.val (by kernel_rfl) (.int .i64 0) (by go_simp) ?_
  simp only [Act.put, List.setIfInBounds_toArray, List.set_cons_zero, List.set_cons_succ]
  refine WL.nil ?_
  refine hK12 _ _ ?_
  refine wp_seq_k fun K13 hK13 => ?_
  refine wp_seq_k fun K14 hK14 => ?_
  refine wp_region_list (WL.out ?_)
  refine WL.val (by kernel_rfl) (.int .u8 by_) (by go_simp) ?_
  simp only [Act.put, List.setIfInBounds_toArray, List.set_cons_zero, List.set_cons_succ]
  refine WL.val (by kernel_rfl) (.bool false) (by go_simp) ?_
  simp only [Act.put, List.setIfInBounds_toArray, List.set_cons_zero, List.set_cons_succ]
  refine WL.val (by kernel_rfl) (.bool false) (by go_simp) ?_
  simp only [Act.put, List.setIfInBounds_toArray, List.set_cons_zero, List.set_cons_succ]
  refine WL.val (by kernel_rfl) (.slice ba bn bc) (by go_simp) ?_
  simp only [Act.put, List.setIfInBounds_toArray, List.set_cons_zero, List.set_cons_succ]
  refine WL.val (by kernel_rfl) (.int .i64 (bn : Int)) (by go_simp) ?_
  simp only [Act.put, List.setIfInBounds_toArray, List.set_cons_zero, List.set_cons_succ]
  refine WL.val (by kernel_rfl) (.bool true) (by go_simp) ?_
  simp only [Act.put, List.setIfInBounds_toArray, List.set_cons_zero, List.set_cons_succ]
  refine WL.val (by kernel_rfl) (.bool true) (by go_simp) ?_
  simp only [Act.put, List.setIfInBounds_toArray, List.set_cons_zero, List.set_cons_succ]
  refine WL.nil ?_
  refine hK14 _ _ ?_
  refine wp_cond_true rfl ?_
  refine wp_region_list (WL.out ?_)
  refine WL.val (by kernel_rfl) (.int .i64 1) (by go_simp) ?_
  simp only [Act.put, List.setIfInBounds_toArray, List.set_cons_zero, List.set_cons_succ]
  refine WL.nil ?_
  refine hK13 _ _ ?_
  refine wp_seq_k fun K15 hK15 => ?_
  refine wp_region_list (WL.out ?_)
  refine WL.val (by kernel_rfl) (.pointer (some ⟨p, 0, none⟩)) (by go_simp) ?_
  simp only [Act.put, List.setIfInBounds_toArray, List.set_cons_zero, List.set_cons_succ]
  refine WL.callF (by kernel_rfl) 20 _ _ rfl Tryd.in20 #[.pointer (some ⟨p, 0, none⟩), .int .i64 1, .int .i64 2, .int .i64 1] (by simp [Act.eval]) ?_
  refine (ls_twice L6.out (by decide) 1 (b := b) rfl (by simp)).mono ?_
  rintro e w7 ⟨rfl, hL⟩
  refine ⟨_, rfl, ?_⟩
  simp only [List.cons_append, List.nil_append] at hL
  have L7 := Keep.mk hL
  clear hL L6
  simp only [Act.put, List.setIfInBounds_toArray, List.set_cons_zero, List.set_cons_succ]
  refine WL.val (by kernel_rfl) (.int .i64 0) (by go_simp) ?_
  simp only [Act.put, List.setIfInBounds_toArray, List.set_cons_zero, List.set_cons_succ]
  refine WL.nil ?_
  refine hK15 _ _ ?_
  refine wp_seq_k fun K16 hK16 => ?_
  refine wp_region_list (WL.out ?_)
  refine WL.val (by kernel_rfl) (.pointer (some ⟨p, 0, none⟩)) (by go_simp) ?_
  simp only [Act.put, List.setIfInBounds_toArray, List.set_cons_zero, List.set_cons_succ]
  refine WL.val (by kernel_rfl) (.int .i64 m) (by go_simp) ?_
  simp only [Act.put, List.setIfInBounds_toArray, List.set_cons_zero, List.set_cons_succ]
  refine WL.callF (by kernel_rfl) 21 _ _ rfl Tryd.in21 #[.pointer (some ⟨p, 0, none⟩), .int .i64 1, .int .i64 2, .int .i64 1, .int .i64 m] (by simp [Act.eval]) ?_
  refine (ls_clip L7.out (by decide) 1 (b := b) rfl m).mono ?_
  rintro e w8 ⟨rfl, hL⟩
  refine ⟨_, rfl, ?_⟩
  simp only [List.set_cons_succ, List.set_cons_zero] at hL
  obtain ⟨cb, hcb⟩ : ∃ z, Keep (z = clp b m) := ⟨_, ⟨rfl⟩⟩
  rw [← hcb.out] at hL
  have L8 := Keep.mk hL
  clear hL L7
  simp only [Act.put, List.setIfInBounds_toArray, List.set_cons_zero, List.set_cons_succ]
  refine WL.val (by kernel_rfl) (.int .i64 0) (by go_simp) ?_
  simp only [Act.put, List.setIfInBounds_toArray, List.set_cons_zero, List.set_cons_succ]
  refine WL.nil ?_
  refine hK16 _ _ ?_
  refine wp_seq_k fun K17 hK17 => ?_
  refine wp_region_list (WL.out ?_)
  refine WL.val (by kernel_rfl) (.pointer (some ⟨p, 0, none⟩)) (by go_simp) ?_
  simp only [Act.put, List.setIfInBounds_toArray, List.set_cons_zero, List.set_cons_succ]
  refine WL.callF (by kernel_rfl) 22 _ _ rfl Tryd.in22 #[.pointer (some ⟨p, 0, none⟩), .int .i64 1, .int .i64 2, .int .i64 0, .int .i64 2] (by simp [Act.eval]) ?_
  refine (ls_swap L8.out (by decide) 0 2 (b := o) (c := b) rfl rfl).mono ?_
  rintro e w9 ⟨rfl, hL⟩
  refine ⟨_, rfl, ?_⟩
  simp only [List.set_cons_succ, List.set_cons_zero] at hL
  have L9 := Keep.mk hL
  clear hL L8
  simp only [Act.put, List.setIfInBounds_toArray, List.set_cons_zero, List.set_cons_succ]
  refine WL.val (by kernel_rfl) (.int .i64 0) (by go_simp) ?_
  simp only [Act.put, List.setIfInBounds_toArray, List.set_cons_zero, List.set_cons_succ]
  refine WL.nil ?_
  refine hK17 _ _ ?_
  refine wp_seq_k fun K18 hK18 => ?_
  refine wp_seq_k fun K19 hK19 => ?_
  refine wp_region_list (WL.out ?_)
  refine WL.val (by kernel_rfl) (.int .i64 1) (by go_simp) ?_
  simp only [Act.put, List.setIfInBounds_toArray, List.set_cons_zero, List.set_cons_succ]
  refine WL.val (by kernel_rfl) (.int .i64 1) (by go_simp) ?_
  simp only [Act.put, List.setIfInBounds_toArray, List.set_cons_zero, List.set_cons_succ]
  refine WL.val (by kernel_rfl) (.bool false) (by go_simp) ?_
  simp only [Act.put, List.setIfInBounds_toArray, List.set_cons_zero, List.set_cons_succ]
  refine WL.val (by kernel_rfl) (.bool false) (by go_simp) ?_
  simp only [Act.put, List.setIfInBounds_toArray, List.set_cons_zero, List.set_cons_succ]
  refine WL.val (by kernel_rfl) (.int .i64 1) (by go_simp) ?_
  simp only [Act.put, List.setIfInBounds_toArray, List.set_cons_zero, List.set_cons_succ]
  refine WL.val (by kernel_rfl) (.int .i64 1) (by go_simp) ?_
  simp only [Act.put, List.setIfInBounds_toArray, List.set_cons_zero, List.set_cons_succ]
  refine WL.val (by kernel_rfl) (.bool false) (by go_simp) ?_
  simp only [Act.put, List.setIfInBounds_toArray, List.set_cons_zero, List.set_cons_succ]
  refine WL.val (by kernel_rfl) (.bool false) (by go_simp) ?_
  simp only [Act.put, List.setIfInBounds_toArray, List.set_cons_zero, List.set_cons_succ]
  refine WL.val (by kernel_rfl) (.bool false) (by go_simp) ?_
  simp only [Act.put, List.setIfInBounds_toArray, List.set_cons_zero, List.set_cons_succ]
  refine WL.val (by kernel_rfl) (.int .i64 0) (by go_simp) ?_
  simp only [Act.put, List.setIfInBounds_toArray, List.set_cons_zero, List.set_cons_succ]
  refine WL.val (by kernel_rfl) (.bool false) (by go_simp) ?_
  simp only [Act.put, List.setIfInBounds_toArray, List.set_cons_zero, List.set_cons_succ]
  refine WL.val (by kernel_rfl) (.bool false) (by go_simp) ?_
  simp only [Act.put, List.setIfInBounds_toArray, List.set_cons_zero, List.set_cons_succ]
  refine WL.val (by kernel_rfl) (.bool false) (by go_simp) ?_
  simp only [Act.put, List.setIfInBounds_toArray, List.set_cons_zero, List.set_cons_succ]
  refine WL.val (by kernel_rfl) (.int .i64 0) (by go_simp) ?_
  simp only [Act.put, List.setIfInBounds_toArray, List.set_cons_zero, List.set_cons_succ]
  refine WL.val (by kernel_rfl) (.bool false) (by go_simp) ?_
  simp only [Act.put, List.setIfInBounds_toArray, List.set_cons_zero, List.set_cons_succ]
  refine WL.val (by kernel_rfl) (.bool false) (by go_simp) ?_
  simp only [Act.put, List.setIfInBounds_toArray, List.set_cons_zero, List.set_cons_succ]
  refine WL.val (by kernel_rfl) (.bool false) (by go_simp) ?_
  simp only [Act.put, List.setIfInBounds_toArray, List.set_cons_zero, List.set_cons_succ]
  refine WL.val (by kernel_rfl) (.int .i64 0) (by go_simp) ?_
  simp only [Act.put, List.setIfInBounds_toArray, List.set_cons_zero, List.set_cons_succ]
  refine WL.val (by kernel_rfl) (.bool false) (by go_simp) ?_
  simp only [Act.put, List.setIfInBounds_toArray, List.set_cons_zero, List.set_cons_succ]
  refine WL.val (by kernel_rfl) (.bool false) (by go_simp) ?_
  simp only [Act.put, List.setIfInBounds_toArray, List.set_cons_zero, List.set_cons_succ]
  refine WL.val (by kernel_rfl) (.bool false) (by go_simp) ?_
  simp only [Act.put, List.setIfInBounds_toArray, List.set_cons_zero, List.set_cons_succ]
  refine WL.val (by kernel_rfl) (.pointer (some ⟨p, 0, none⟩)) (by go_simp) ?_
  simp only [Act.put, List.setIfInBounds_toArray, List.set_cons_zero, List.set_cons_succ]
  refine WL.callF (by kernel_rfl) 18 _ _ rfl Tryd.in18 #[.pointer (some ⟨p, 0, none⟩), .int .i64 1, .int .i64 2] (by simp [Act.eval]) ?_
  refine (ls_len L9.out (by decide)).mono ?_
  rintro e w10 ⟨rfl, hL⟩
  refine ⟨_, rfl, ?_⟩
  have L10 := Keep.mk hL
  clear hL L9
  simp only [List.length_cons, List.length_nil]
  simp only [Act.put, List.setIfInBounds_toArray, List.set_cons_zero, List.set_cons_succ]
  refine WL.val (by kernel_rfl) (.bool false) (by go_simp) ?_
  simp only [Act.put, List.setIfInBounds_toArray, List.set_cons_zero, List.set_cons_succ]
  refine WL.val (by kernel_rfl) (.bool false) (by go_simp) ?_
  simp only [Act.put, List.setIfInBounds_toArray, List.set_cons_zero, List.set_cons_succ]
  refine WL.nil ?_
  refine hK19 _ _ ?_
  refine wp_cond_false rfl ?_
  refine wp_skip ?_
  refine hK18 _ _ ?_
  refine wp_seq_k fun K20 hK20 => ?_
  refine wp_region_list (WL.out ?_)
  refine WL.val (by kernel_rfl) (.pointer (some ⟨p, 0, none⟩)) (by go_simp) ?_
  simp only [Act.put, List.setIfInBounds_toArray, List.set_cons_zero, List.set_cons_succ]
  refine WL.callF (by kernel_rfl) 16 _ _ rfl Tryd.in16 #[.pointer (some ⟨p, 0, none⟩), .int .i64 1, .int .i64 2] (by simp [Act.eval]) ?_
  refine (ls_take L10.out (by decide) HE.out).mono ?_
  rintro e w11 ⟨vx, rfl, hL⟩
  refine ⟨_, rfl, ?_⟩
  obtain ⟨xa, xc, hx⟩ := row_form (hL.out (vx, b) (by simp)).row
  simp only at hx
  subst hx
  obtain ⟨xn, hxn⟩ : ∃ z, Keep ((b).length = z) := ⟨_, ⟨rfl⟩⟩
  rw [hxn.out] at hL ⊢
  have L11 := Keep.mk hL
  clear hL L10
  simp only [Act.put, List.setIfInBounds_toArray, List.set_cons_zero, List.set_cons_succ]
  refine WL.val (by kernel_rfl) (.tuple #[.slice xa xn xc, .nilIface]) (by go_simp) ?_
  simp only [Act.put, List.setIfInBounds_toArray, List.set_cons_zero, List.set_cons_succ]
  refine WL.val (by kernel_rfl) (.slice xa xn xc) (by go_simp) ?_
  simp only [Act.put, List.setIfInBounds_toArray, List.set_cons_zero, List.set_cons_succ]
  refine WL.val (by kernel_rfl) (.nilIface) (by go_simp) ?_
  simp only [Act.put, List.setIfInBounds_toArray, List.set_cons_zero, List.set_cons_succ]
  refine WL.val (by kernel_rfl) (.slice xa xn xc) (by go_simp) ?_
  simp only [Act.put, List.setIfInBounds_toArray, List.set_cons_zero, List.set_cons_succ]
  refine WL.val (by kernel_rfl) (.nilIface) (by go_simp) ?_
  simp only [Act.put, List.setIfInBounds_toArray, List.set_cons_zero, List.set_cons_succ]
  refine WL.nil ?_
  refine hK20 _ _ ?_
  refine wp_seq_k fun K21 hK21 => ?_
  refine wp_region_list (WL.out ?_)
  refine WL.val (by kernel_rfl) (.pointer (some ⟨p, 0, none⟩)) (by go_simp) ?_
  simp only [Act.put, List.setIfInBounds_toArray, List.set_cons_zero, List.set_cons_succ]
  refine WL.callF (by kernel_rfl) 16 _ _ rfl Tryd.in16 #[.pointer (some ⟨p, 0, none⟩), .int .i64 1, .int .i64 2] (by simp [Act.eval]) ?_
  refine (ls_take L11.out (by decide) HE.out).mono ?_
  rintro e w12 ⟨vy, rfl, hL⟩
  refine ⟨_, rfl, ?_⟩
  obtain ⟨ya, yc, hy⟩ := row_form (hL.out (vy, cb) (by simp)).row
  simp only at hy
  subst hy
  obtain ⟨yn, hyn⟩ : ∃ z, Keep ((cb).length = z) := ⟨_, ⟨rfl⟩⟩
  rw [hyn.out] at hL ⊢
  have L12 := Keep.mk hL
  clear hL L11
  simp only [Act.put, List.setIfInBounds_toArray, List.set_cons_zero, List.set_cons_succ]
  refine WL.val (by kernel_rfl) (.tuple #[.slice ya yn yc, .nilIface]) (by go_simp) ?_
  simp only [Act.put, List.setIfInBounds_toArray, List.set_cons_zero, List.set_cons_succ]
  refine WL.val (by kernel_rfl) (.slice ya yn yc) (by go_simp) ?_
  simp only [Act.put, List.setIfInBounds_toArray, List.set_cons_zero, List.set_cons_succ]
  refine WL.val (by kernel_rfl) (.nilIface) (by go_simp) ?_
  simp only [Act.put, List.setIfInBounds_toArray, List.set_cons_zero, List.set_cons_succ]
  refine WL.val (by kernel_rfl) (.slice ya yn yc) (by go_simp) ?_
  simp only [Act.put, List.setIfInBounds_toArray, List.set_cons_zero, List.set_cons_succ]
  refine WL.val (by kernel_rfl) (.nilIface) (by go_simp) ?_
  simp only [Act.put, List.setIfInBounds_toArray, List.set_cons_zero, List.set_cons_succ]
  refine WL.nil ?_
  refine hK21 _ _ ?_
  refine wp_seq_k fun K22 hK22 => ?_
  refine wp_region_list (WL.out ?_)
  refine WL.val (by kernel_rfl) (.pointer (some ⟨p, 0, none⟩)) (by go_simp) ?_
  simp only [Act.put, List.setIfInBounds_toArray, List.set_cons_zero, List.set_cons_succ]
  refine WL.callF (by kernel_rfl) 16 _ _ rfl Tryd.in16 #[.pointer (some ⟨p, 0, none⟩), .int .i64 1, .int .i64 2] (by simp [Act.eval]) ?_
  refine (ls_take L12.out (by decide) HE.out).mono ?_
  rintro e w13 ⟨vz, rfl, hL⟩
  refine ⟨_, rfl, ?_⟩
  obtain ⟨za, zc, hz⟩ := row_form (hL.out (vz, o) (by simp)).row
  simp only at hz
  subst hz
  obtain ⟨zn, hzn⟩ : ∃ z, Keep ((o).length = z) := ⟨_, ⟨rfl⟩⟩
  rw [hzn.out] at hL ⊢
  have L13 := Keep.mk hL
  clear hL L12
  simp only [Act.put, List.setIfInBounds_toArray, List.set_cons_zero, List.set_cons_succ]
  refine WL.val (by kernel_rfl) (.tuple #[.slice za zn zc, .nilIface]) (by go_simp) ?_
  simp only [Act.put, List.setIfInBounds_toArray, List.set_cons_zero, List.set_cons_succ]
  refine WL.val (by kernel_rfl) (.slice za zn zc) (by go_simp) ?_
  simp only [Act.put, List.setIfInBounds_toArray, List.set_cons_zero, List.set_cons_succ]
  refine WL.val (by kernel_rfl) (.nilIface) (by go_simp) ?_
  simp only [Act.put, List.setIfInBounds_toArray, List.set_cons_zero, List.set_cons_succ]
  refine WL.val (by kernel_rfl) (.slice za zn zc) (by go_simp) ?_
  simp only [Act.put, List.setIfInBounds_toArray, List.set_cons_zero, List.set_cons_succ]
  refine WL.val (by kernel_rfl) (.nilIface) (by go_simp) ?_
  simp only [Act.put, List.setIfInBounds_toArray, List.set_cons_zero, List.set_cons_succ]
  refine WL.nil ?_
  refine hK22 _ _ ?_
  refine wp_seq_k fun K23 hK23 => ?_
  refine wp_seq_k fun K24 hK24 => ?_
  refine wp_region_list (WL.out ?_)
  refine WL.val (by kernel_rfl) (.nilIface) (by go_simp) ?_
  simp only [Act.put, List.setIfInBounds_toArray, List.set_cons_zero, List.set_cons_succ]
  refine WL.val (by kernel_rfl) (.bool false) (by have h := ne_nn w13; go_simp) ?_
  simp only [Act.put, List.setIfInBounds_toArray, List.set_cons_zero, List.set_cons_succ]
  refine WL.val (by kernel_rfl) (.bool false) (by go_simp) ?_
  simp only [Act.put, List.setIfInBounds_toArray, List.set_cons_zero, List.set_cons_succ]
  refine WL.val (by kernel_rfl) (.nilIface) (by go_simp) ?_
  simp only [Act.put, List.setIfInBounds_toArray, List.set_cons_zero, List.set_cons_succ]
  refine WL.val (by kernel_rfl) (.bool false) (by have h := ne_nn w13; go_simp) ?_
  simp only [Act.put, List.setIfInBounds_toArray, List.set_cons_zero, List.set_cons_succ]
  refine WL.val (by kernel_rfl) (.bool false) (by go_simp) ?_
  simp only [Act.put, List.setIfInBounds_toArray, List.set_cons_zero, List.set_cons_succ]
  refine WL.val (by kernel_rfl) (.bool false) (by go_simp) ?_
  simp only [Act.put, List.setIfInBounds_toArray, List.set_cons_zero, List.set_cons_succ]
  refine WL.val (by kernel_rfl) (.nilIface) (by go_simp) ?_
  simp only [Act.put, List.setIfInBounds_toArray, List.set_cons_zero, List.set_cons_succ]
  refine WL.val (by kernel_rfl) (.bool false) (by have h := ne_nn w13; go_simp) ?_
  simp only [Act.put, List.setIfInBounds_toArray, List.set_cons_zero, List.set_cons_succ]
  refine WL.val (by kernel_rfl) (.bool false) (by go_simp) ?_
  simp only [Act.put, List.setIfInBounds_toArray, List.set_cons_zero, List.set_cons_succ]
  refine WL.val (by kernel_rfl) (.bool false) (by go_simp) ?_
  simp only [Act.put, List.setIfInBounds_toArray, List.set_cons_zero, List.set_cons_succ]
  refine WL.val (by kernel_rfl) (.slice ya yn yc) (by go_simp) ?_
  simp only [Act.put, List.setIfInBounds_toArray, List.set_cons_zero, List.set_cons_succ]
  refine WL.val (by kernel_rfl) (.int .i64 (yn : Int)) (by go_simp) ?_
  simp only [Act.put, List.setIfInBounds_toArray, List.set_cons_zero, List.set_cons_succ]
  refine WL.val (by kernel_rfl) (.slice ba bn bc) (by go_simp) ?_
  simp only [Act.put, List.setIfInBounds_toArray, List.set_cons_zero, List.set_cons_succ]
  refine WL.val (by kernel_rfl) (.int .i64 (bn : Int)) (by go_simp) ?_
  simp only [Act.put, List.setIfInBounds_toArray, List.set_cons_zero, List.set_cons_succ]
  have hct := clp_take b m
  rw [← hcb.out, hyn.out, Hbn.out] at hct
  have hy1 : ¬ (yn : Int) > (bn : Int) := by omega
  have hy2 : ¬ bn < yn := by omega
  have hy0 : yn = 0 := by omega
  refine WL.val (by kernel_rfl) (.bool false) (by go_simp) ?_
  clear hy1 hy2 hy0
  simp only [Act.put, List.setIfInBounds_toArray, List.set_cons_zero, List.set_cons_succ]
  refine WL.val (by kernel_rfl) (.bool false) (by go_simp) ?_
  simp only [Act.put, List.setIfInBounds_toArray, List.set_cons_zero, List.set_cons_succ]
  refine WL.val (by kernel_rfl) (.bool false) (by go_simp) ?_
  simp only [Act.put, List.setIfInBounds_toArray, List.set_cons_zero, List.set_cons_succ]
  refine WL.val (by kernel_rfl) (.slice ya yn yc) (by go_simp) ?_
  simp only [Act.put, List.setIfInBounds_toArray, List.set_cons_zero, List.set_cons_succ]
  refine WL.val (by kernel_rfl) (.int .i64 (yn : Int)) (by go_simp) ?_
  simp only [Act.put, List.setIfInBounds_toArray, List.set_cons_zero, List.set_cons_succ]
  refine WL.val (by kernel_rfl) (.slice ba bn bc) (by go_simp) ?_
  simp only [Act.put, List.setIfInBounds_toArray, List.set_cons_zero, List.set_cons_succ]
  refine WL.val (by kernel_rfl) (.int .i64 (bn : Int)) (by go_simp) ?_
  simp only [Act.put, List.setIfInBounds_toArray, List.set_cons_zero, List.set_cons_succ]
  have hy3 : yn = bn := by omega
  have hy4 : (yn : Int) = (bn : Int) := by omega
  have hy5 : yn = 0 := by omega
  have hy6 : bn = 0 := by omega
  refine WL.val (by kernel_rfl) (.bool true) (by go_simp) ?_
  clear hy3 hy4 hy5 hy6
  simp only [Act.put, List.setIfInBounds_toArray, List.set_cons_zero, List.set_cons_succ]
  refine WL.val (by kernel_rfl) (.bool true) (by go_simp) ?_
  simp only [Act.put, List.setIfInBounds_toArray, List.set_cons_zero, List.set_cons_succ]
  refine WL.val (by kernel_rfl) (.slice ba bn bc) (by go_simp) ?_
  simp only [Act.put, List.setIfInBounds_toArray, List.set_cons_zero, List.set_cons_succ]
  refine WL.val (by kernel_rfl) (.int .i64 (bn : Int)) (by go_simp) ?_
  simp only [Act.put, List.setIfInBounds_toArray, List.set_cons_zero, List.set_cons_succ]
  have hb0 : ¬ (bn : Int) > 0 := by omega
  have hb1 : ¬ 0 < bn := by omega
  have hb2 : bn = 0 := by omega
  refine WL.val (by kernel_rfl) (.bool false) (by go_simp) ?_
  clear hb0 hb1 hb2
  simp only [Act.put, List.setIfInBounds_toArray, List.set_cons_zero, List.set_cons_succ]
  refine WL.val (by kernel_rfl) (.bool false) (by go_simp) ?_
  simp only [Act.put, List.setIfInBounds_toArray, List.set_cons_zero, List.set_cons_succ]
  refine WL.val (by kernel_rfl) (.bool false) (by go_simp) ?_
  simp only [Act.put, List.setIfInBounds_toArray, List.set_cons_zero, List.set_cons_succ]
  refine WL.nil ?_
  refine hK24 _ _ ?_
  refine wp_cond_false rfl ?_
  refine wp_skip ?_
  refine hK23 _ _ ?_
  refine wp_seq_k fun K25 hK25 => ?_
  refine wp_region_list (WL.out ?_)
  refine WL.val (by kernel_rfl) (.slice xa xn xc) (by go_simp) ?_
  simp only [Act.put, List.setIfInBounds_toArray, List.set_cons_zero, List.set_cons_succ]
  refine WL.val (by kernel_rfl) (.slice ba bn bc) (by go_simp) ?_
  simp only [Act.put, List.setIfInBounds_toArray, List.set_cons_zero, List.set_cons_succ]
  refine WL.callF (by kernel_rfl) 17 _ _ rfl Tryd.in17 #[.slice xa xn xc, .slice ba bn bc] (by simp [Act.eval]) ?_
  refine (same_any _ _ b b w13 (L13.out.out (.slice xa xn xc, b) (by simp)).row (HB.out.below L13.out.bel) HBy.out HBy.out).mono ?_
  rintro e wq ⟨rfl, hw_⟩
  refine ⟨_, rfl, ?_⟩
  have hw_ := hw_.symm
  subst hw_
  rw [show decide (b = b) = true by simp]
  simp only [Act.put, List.setIfInBounds_toArray, List.set_cons_zero, List.set_cons_succ]
  refine WL.val (by kernel_rfl) (.bool true) (by go_simp) ?_
  simp only [Act.put, List.setIfInBounds_toArray, List.set_cons_zero, List.set_cons_succ]
  refine WL.val (by kernel_rfl) (.slice ya yn yc) (by go_simp) ?_
  simp only [Act.put, List.setIfInBounds_toArray, List.set_cons_zero, List.set_cons_succ]
  refine WL.val (by kernel_rfl) (.slice ba bn bc) (by go_simp) ?_
  simp only [Act.put, List.setIfInBounds_toArray, List.set_cons_zero, List.set_cons_succ]
  refine WL.val (by kernel_rfl) (.slice ya yn yc) (by go_simp) ?_
  simp only [Act.put, List.setIfInBounds_toArray, List.set_cons_zero, List.set_cons_succ]
  refine WL.val (by kernel_rfl) (.int .i64 (yn : Int)) (by go_simp) ?_
  simp only [Act.put, List.setIfInBounds_toArray, List.set_cons_zero, List.set_cons_succ]
  obtain ⟨vs, hrs, hvs⟩ := sub_any (.slice ba bn bc) b w13 (HB.out.below L13.out.bel) yn (by have := Hbn.out; have := hct.2.1; omega)
  have hvs := hvs w13 (HB.out.below L13.out.bel)
  rw [← hct.1] at hvs
  obtain ⟨sa, sc, hs_⟩ := row_form hvs
  rw [hyn.out] at hs_
  subst hs_
  refine WL.slr (by kernel_rfl) 39 (.tmp 173) none (some (.tmp 175)) none rfl _ none (some (.int .i64 (yn : Int))) none (.slice sa yn sc) rfl rfl rfl rfl (hrs w13) ?_
  have Hvs := Keep.mk hvs
  clear hrs hvs
  simp only [Act.put, List.setIfInBounds_toArray, List.set_cons_zero, List.set_cons_succ]
  refine WL.callF (by kernel_rfl) 17 _ _ rfl Tryd.in17 #[.slice ya yn yc, .slice sa yn sc] (by simp [Act.eval]) ?_
  refine (same_any _ _ cb cb w13 (L13.out.out (.slice ya yn yc, cb) (by simp)).row Hvs.out (by rw [hct.1]; exact HBy.out.take _) (by rw [hct.1]; exact HBy.out.take _)).mono ?_
  rintro e wq ⟨rfl, hw_⟩
  refine ⟨_, rfl, ?_⟩
  have hw_ := hw_.symm
  subst hw_
  rw [show decide (cb = cb) = true by simp]
  simp only [Act.put, List.setIfInBounds_toArray, List.set_cons_zero, List.set_cons_succ]
  refine WL.val (by kernel_rfl) (.bool true) (by go_simp) ?_
  simp only [Act.put, List.setIfInBounds_toArray, List.set_cons_zero, List.set_cons_succ]
  refine WL.val (by kernel_rfl) (.bool true) (by go_simp) ?_
  simp only [Act.put, List.setIfInBounds_toArray, List.set_cons_zero, List.set_cons_succ]
  refine WL.val (by kernel_rfl) (.slice za zn zc) (by go_simp) ?_
  simp only [Act.put, List.setIfInBounds_toArray, List.set_cons_zero, List.set_cons_succ]
  refine WL.val (by kernel_rfl) (.slice oa on oc) (by go_simp) ?_
  simp only [Act.put, List.setIfInBounds_toArray, List.set_cons_zero, List.set_cons_succ]
  refine WL.callF (by kernel_rfl) 17 _ _ rfl Tryd.in17 #[.slice za zn zc, .slice oa on oc] (by simp [Act.eval]) ?_
  refine (same_any _ _ o o w13 (L13.out.out (.slice za zn zc, o) (by simp)).row (HO.out.below L13.out.bel) HOy.out HOy.out).mono ?_
  rintro e wq ⟨rfl, hw_⟩
  refine ⟨_, rfl, ?_⟩
  have hw_ := hw_.symm
  subst hw_
  rw [show decide (o = o) = true by simp]
  simp only [Act.put, List.setIfInBounds_toArray, List.set_cons_zero, List.set_cons_succ]
  refine WL.val (by kernel_rfl) (.bool true) (by go_simp) ?_
  simp only [Act.put, List.setIfInBounds_toArray, List.set_cons_zero, List.set_cons_succ]
  refine WL.val (by kernel_rfl) (.bool true) (by go_simp) ?_
  simp only [Act.put, List.setIfInBounds_toArray, List.set_cons_zero, List.set_cons_succ]
  refine WL.val (by kernel_rfl) (.pointer (some ⟨p, 0, none⟩)) (by go_simp) ?_
  simp only [Act.put, List.setIfInBounds_toArray, List.set_cons_zero, List.set_cons_succ]
  refine WL.callF (by kernel_rfl) 18 _ _ rfl Tryd.in18 #[.pointer (some ⟨p, 0, none⟩), .int .i64 1, .int .i64 2] (by simp [Act.eval]) ?_
  refine (ls_len L13.out (by decide)).mono ?_
  rintro e w14 ⟨rfl, hL⟩
  refine ⟨_, rfl, ?_⟩
  have L14 := Keep.mk hL
  clear hL
  simp only [Act.put, List.setIfInBounds_toArray, List.set_cons_zero, List.set_cons_succ]
  refine WL.val (by kernel_rfl) (.bool true) (by go_simp) ?_
  simp only [Act.put, List.setIfInBounds_toArray, List.set_cons_zero, List.set_cons_succ]
  refine WL.val (by kernel_rfl) (.bool true) (by go_simp) ?_
  simp only [Act.put, List.setIfInBounds_toArray, List.set_cons_zero, List.set_cons_succ]
  refine WL.val (by kernel_rfl) (.bool true) (by go_simp) ?_
  simp only [Act.put, List.setIfInBounds_toArray, List.set_cons_zero, List.set_cons_succ]
  refine WL.nil ?_
  refine hK25 _ _ ?_
  refine wp_ret ?_
  go_ret
  exact ⟨rfl, L14.out.bel⟩

set_option maxRecDepth 8000 in
set_option maxHeartbeats 1000000 in
theorem spo_d (w : World) (qe : Addr) (HE : Keep (ErrI w qe)) (ba oa : Option Addr) (bn bc on oc : Nat) (b o : List Int) (place by_ m : Int) (HB : Keep (RowAt w (.slice ba bn bc) b)) (HO : Keep (RowAt w (.slice oa on oc) o)) (Hbn : Keep (b.length = bn)) (Hon : Keep (o.length = on)) (HBy : Keep (Byts b)) (HOy : Keep (Byts o)) (Hby : Keep (0 ≤ by_ ∧ by_ < 256)) (HD : Keep (b ≠ [] → ∀ k, (Value.slice ba bn bc).ownBlock = some k → k < w.heap.size)) (HDo : Keep (o ≠ [] → ∀ k, (Value.slice oa on oc).ownBlock = some k → k < w.heap.size)) (hb9 : ¬ 2097194 < bn) (ho9 : ¬ 2097194 < on) (hby0 : ¬ by_ = 0) (hbn0 : ¬ bn = 0) (Hc : Keep (¬ (by_ = 0 ∨ b.length = 0))) : Calls Tryd.prog 6 #[.slice ba bn bc, .slice oa on oc, .int .i64 place, .int .u8 by_, .int .i64 m] w fun e w' => e = .returned (.bool true) ∧ Below w.heap.size w w' := by
  have hb9' : ¬ (bn : Int) > 2097194 := by omega
  have hb9'' : ¬ 2097194 < (bn : Int) := by omega
  have ho9' : ¬ (on : Int) > 2097194 := by omega
  have ho9'' : ¬ 2097194 < (on : Int) := by omega
  go_enter Tryd.func6, Tryd.ntmps6
  refine wp_seq_k fun K1 hK1 => ?_
  refine wp_region_list (WL.out ?_)
  refine WL.val (by kernel_rfl) (.bool false) (by go_simp) ?_
  simp only [Act.put, List.setIfInBounds_toArray, List.set_cons_zero, List.set_cons_succ]
  refine WL.nil ?_
  refine hK1 _ _ ?_
  refine wp_seq_k fun K2 hK2 => ?_
  refine wp_region_list (WL.out ?_)
  refine WL.callF (by kernel_rfl) 7 _ _ rfl Tryd.in7 #[] (by simp) ?_
  refine (fixed_any w qe HE).mono ?_
  rintro e w1 ⟨rfl, hb⟩
  refine ⟨_, rfl, ?_⟩
  have B1 := Keep.mk hb
  clear hb
  simp only [Act.put, List.setIfInBounds_toArray, List.set_cons_zero, List.set_cons_succ]
  refine WL.val (by kernel_rfl) (.bool true) (by go_simp) ?_
  simp only [Act.put, List.setIfInBounds_toArray, List.set_cons_zero, List.set_cons_succ]
  refine WL.nil ?_
  refine hK2 _ _ ?_
  refine wp_seq_k fun K3 hK3 => ?_
  refine wp_region_list (WL.out ?_)
  refine WL.callF (by kernel_rfl) 8 _ _ rfl Tryd.in8 #[.int .i64 2] (by simp [Act.eval]) ?_
  refine (ls_new B1.out (N := 2) (by decide) 1 2 (by decide)).mono ?_
  rintro e w2 ⟨p, mb, rfl, hL⟩
  refine ⟨_, rfl, ?_⟩
  have L2 := Keep.mk hL
  clear hL B1
  simp only [Act.put, List.setIfInBounds_toArray, List.set_cons_zero, List.set_cons_succ]
  refine WL.val (by kernel_rfl) (.tuple #[.pointer (some ⟨p, 0, none⟩), .int .i64 0]) (by go_simp) ?_
  simp only [Act.put, List.setIfInBounds_toArray, List.set_cons_zero, List.set_cons_succ]
  refine WL.val (by kernel_rfl) (.pointer (some ⟨p, 0, none⟩)) (by go_simp) ?_
  simp only [Act.put, List.setIfInBounds_toArray, List.set_cons_zero, List.set_cons_succ]
  refine WL.val (by kernel_rfl) (.int .i64 0) (by go_simp) ?_
  simp only [Act.put, List.setIfInBounds_toArray, List.set_cons_zero, List.set_cons_succ]
  refine WL.val (by kernel_rfl) (.pointer (some ⟨p, 0, none⟩)) (by go_simp) ?_
  simp only [Act.put, List.setIfInBounds_toArray, List.set_cons_zero, List.set_cons_succ]
  refine WL.val (by kernel_rfl) (.int .i64 0) (by go_simp) ?_
  simp only [Act.put, List.setIfInBounds_toArray, List.set_cons_zero, List.set_cons_succ]
  refine WL.nil ?_
  refine hK3 _ _ ?_
  refine wp_seq_k fun K4 hK4 => ?_
  refine wp_seq_k fun K5 hK5 => ?_
  refine wp_region_list (WL.out ?_)
  refine WL.val (by kernel_rfl) (.bool true) (by go_simp) ?_
  simp only [Act.put, List.setIfInBounds_toArray, List.set_cons_zero, List.set_cons_succ]
  refine WL.val (by kernel_rfl) (.bool false) (by go_simp) ?_
  simp only [Act.put, List.setIfInBounds_toArray, List.set_cons_zero, List.set_cons_succ]
  refine WL.val (by kernel_rfl) (.bool false) (by go_simp) ?_
  simp only [Act.put, List.setIfInBounds_toArray, List.set_cons_zero, List.set_cons_succ]
  refine WL.val (by kernel_rfl) (.pointer (some ⟨p, 0, none⟩)) (by go_simp) ?_
  simp only [Act.put, List.setIfInBounds_toArray, List.set_cons_zero, List.set_cons_succ]
  refine WL.val (by kernel_rfl) (.bool false) (by go_simp) ?_
  simp only [Act.put, List.setIfInBounds_toArray, List.set_cons_zero, List.set_cons_succ]
  refine WL.val (by kernel_rfl) (.bool false) (by go_simp) ?_
  simp only [Act.put, List.setIfInBounds_toArray, List.set_cons_zero, List.set_cons_succ]
  refine WL.val (by kernel_rfl) (.bool false) (by go_simp) ?_
  simp only [Act.put, List.setIfInBounds_toArray, List.set_cons_zero, List.set_cons_succ]
  refine WL.val (by kernel_rfl) (.int .i64 0) (by go_simp) ?_
  simp only [Act.put, List.setIfInBounds_toArray, List.set_cons_zero, List.set_cons_succ]
  refine WL.val (by kernel_rfl) (.bool false) (by go_simp) ?_
  simp only [Act.put, List.setIfInBounds_toArray, List.set_cons_zero, List.set_cons_succ]
  refine WL.val (by kernel_rfl) (.bool false) (by go_simp) ?_
  simp only [Act.put, List.setIfInBounds_toArray, List.set_cons_zero, List.set_cons_succ]
  refine WL.nil ?_
  refine hK5 _ _ ?_
  refine wp_cond_false rfl ?_
  refine wp_skip ?_
  refine hK4 _ _ ?_
  refine wp_seq_k fun K6 hK6 => ?_
  refine wp_seq_k fun K7 hK7 => ?_
  refine wp_region_list (WL.out ?_)
  refine WL.val (by kernel_rfl) (.slice ba bn bc) (by go_simp) ?_
  simp only [Act.put, List.setIfInBounds_toArray, List.set_cons_zero, List.set_cons_succ]
  refine WL.val (by kernel_rfl) (.int .i64 (bn : Int)) (by go_simp) ?_
  simp only [Act.put, List.setIfInBounds_toArray, List.set_cons_zero, List.set_cons_succ]
  refine WL.val (by kernel_rfl) (.bool false) (by go_simp) ?_
  simp only [Act.put, List.setIfInBounds_toArray, List.set_cons_zero, List.set_cons_succ]
  refine WL.val (by kernel_rfl) (.bool false) (by go_simp) ?_
  simp only [Act.put, List.setIfInBounds_toArray, List.set_cons_zero, List.set_cons_succ]
  refine WL.val (by kernel_rfl) (.slice oa on oc) (by go_simp) ?_
  simp only [Act.put, List.setIfInBounds_toArray, List.set_cons_zero, List.set_cons_succ]
  refine WL.val (by kernel_rfl) (.int .i64 (on : Int)) (by go_simp) ?_
  simp only [Act.put, List.setIfInBounds_toArray, List.set_cons_zero, List.set_cons_succ]
  refine WL.val (by kernel_rfl) (.bool false) (by go_simp) ?_
  simp only [Act.put, List.setIfInBounds_toArray, List.set_cons_zero, List.set_cons_succ]
  refine WL.val (by kernel_rfl) (.bool false) (by go_simp) ?_
  simp only [Act.put, List.setIfInBounds_toArray, List.set_cons_zero, List.set_cons_succ]
  refine WL.nil ?_
  refine hK7 _ _ ?_
  refine wp_cond_false rfl ?_
  refine wp_skip ?_
  refine hK6 _ _ ?_
  refine wp_seq_k fun K8 hK8 => ?_
  refine wp_region_list (WL.out ?_)
  refine WL.val (by kernel_rfl) (.pointer (some ⟨p, 0, none⟩)) (by go_simp) ?_
  simp only [Act.put, List.setIfInBounds_toArray, List.set_cons_zero, List.set_cons_succ]
  refine WL.val (by kernel_rfl) (.slice oa on oc) (by go_simp) ?_
  simp only [Act.put, List.setIfInBounds_toArray, List.set_cons_zero, List.set_cons_succ]
  refine WL.callF (by kernel_rfl) 15 _ _ rfl Tryd.in15 #[.pointer (some ⟨p, 0, none⟩), .int .i64 1, .int .i64 2, .slice oa on oc] (by simp [Act.eval]) ?_
  refine (ls_send L2.out (by decide) (HO.out.below L2.out.bel) HOy.out HDo.out).mono ?_
  rintro e w3 ⟨er3, rfl, _, hL⟩
  refine ⟨_, rfl, ?_⟩
  rw [if_pos (show sdE [] o = 0 from by unfold sdE; rw [if_neg (by have := Hon.out; omega), if_neg (by decide)])] at hL
  simp only [List.nil_append] at hL
  have L3 := Keep.mk hL
  clear hL L2
  simp only [Act.put, List.setIfInBounds_toArray, List.set_cons_zero, List.set_cons_succ]
  refine WL.nil ?_
  refine hK8 _ _ ?_
  refine wp_seq_k fun K9 hK9 => ?_
  refine wp_region_list (WL.out ?_)
  refine WL.val (by kernel_rfl) (.pointer (some ⟨p, 0, none⟩)) (by go_simp) ?_
  simp only [Act.put, List.setIfInBounds_toArray, List.set_cons_zero, List.set_cons_succ]
  refine WL.val (by kernel_rfl) (.slice ba bn bc) (by go_simp) ?_
  simp only [Act.put, List.setIfInBounds_toArray, List.set_cons_zero, List.set_cons_succ]
  refine WL.callF (by kernel_rfl) 15 _ _ rfl Tryd.in15 #[.pointer (some ⟨p, 0, none⟩), .int .i64 1, .int .i64 2, .slice ba bn bc] (by simp [Act.eval]) ?_
  refine (ls_send L3.out (by decide) (HB.out.below L3.out.bel) HBy.out HD.out).mono ?_
  rintro e w4 ⟨er4, rfl, _, hL⟩
  refine ⟨_, rfl, ?_⟩
  rw [if_pos (show sdE [o] b = 0 from by unfold sdE; rw [if_neg (by have := Hbn.out; omega), if_neg (by simp)])] at hL
  simp only [List.cons_append, List.nil_append] at hL
  have L4 := Keep.mk hL
  clear hL L3
  simp only [Act.put, List.setIfInBounds_toArray, List.set_cons_zero, List.set_cons_succ]
  refine WL.nil ?_
  refine hK9 _ _ ?_
  refine wp_seq_k fun K10 hK10 => ?_
  refine wp_region_list (WL.out ?_)
  refine WL.val (by kernel_rfl) (.pointer (some ⟨p, 0, none⟩)) (by go_simp) ?_
  simp only [Act.put, List.setIfInBounds_toArray, List.set_cons_zero, List.set_cons_succ]
  refine WL.val (by kernel_rfl) (.int .i64 place) (by go_simp) ?_
  simp only [Act.put, List.setIfInBounds_toArray, List.set_cons_zero, List.set_cons_succ]
  refine WL.val (by kernel_rfl) (.int .u8 by_) (by go_simp) ?_
  simp only [Act.put, List.setIfInBounds_toArray, List.set_cons_zero, List.set_cons_succ]
  refine WL.callF (by kernel_rfl) 19 _ _ rfl Tryd.in19 #[.pointer (some ⟨p, 0, none⟩), .int .i64 1, .int .i64 2, .int .i64 1, .int .i64 place, .int .u8 by_] (by simp [Act.eval]) ?_
  refine (ls_flip L4.out (by decide) 1 (b := b) rfl place by_ Hby.out).mono ?_
  rintro e w5 ⟨er, rfl, her, hL⟩
  refine ⟨_, rfl, ?_⟩
  rw [if_neg Hc.out] at her
  subst her
  simp only [List.set_cons_succ, List.set_cons_zero] at hL
  have L5 := Keep.mk hL
  clear hL L4
  simp only [Act.put, List.setIfInBounds_toArray, List.set_cons_zero, List.set_cons_succ]
  refine WL.val (by kernel_rfl) (.int .i64 0) (by go_simp) ?_
  simp only [Act.put, List.setIfInBounds_toArray, List.set_cons_zero, List.set_cons_succ]
  refine WL.nil ?_
  refine hK10 _ _ ?_
  refine wp_seq_k fun K11 hK11 => ?_
  refine wp_region_list (WL.out ?_)
  refine WL.val (by kernel_rfl) (.pointer (some ⟨p, 0, none⟩)) (by go_simp) ?_
  simp only [Act.put, List.setIfInBounds_toArray, List.set_cons_zero, List.set_cons_succ]
  refine WL.val (by kernel_rfl) (.int .i64 place) (by go_simp) ?_
  simp only [Act.put, List.setIfInBounds_toArray, List.set_cons_zero, List.set_cons_succ]
  refine WL.val (by kernel_rfl) (.int .u8 by_) (by go_simp) ?_
  simp only [Act.put, List.setIfInBounds_toArray, List.set_cons_zero, List.set_cons_succ]
  refine WL.callF (by kernel_rfl) 19 _ _ rfl Tryd.in19 #[.pointer (some ⟨p, 0, none⟩), .int .i64 1, .int .i64 2, .int .i64 1, .int .i64 place, .int .u8 by_] (by simp [Act.eval]) ?_
  refine (ls_flip L5.out (by decide) 1 (b := flp b place by_) rfl place by_ Hby.out).mono ?_
  rintro e w6 ⟨er, rfl, her, hL⟩
  refine ⟨_, rfl, ?_⟩
  rw [flp_len] at her
  rw [if_neg Hc.out] at her
  subst her
  simp only [List.set_cons_succ, List.set_cons_zero, flp_twice b place by_ HBy.out Hby.out] at hL
  have L6 := Keep.mk hL
  clear hL L5
  simp only [Act.put, List.setIfInBounds_toArray, List.set_cons_zero, List.set_cons_succ]
  refine WL.val (by kernel_rfl) (.int .i64 0) (by go_simp) ?_
  simp only [Act.put, List.setIfInBounds_toArray, List.set_cons_zero, List.set_cons_succ]
  refine WL.nil ?_
  refine hK11 _ _ ?_
  refine wp_seq_k fun K12 hK12 => ?_
  refine wp_region_list (WL.out ?_)
  refine WL.val (by kernel_rfl) (.int .i64 0) (by go_simp) ?_
  simp only [Act.put, List.setIfInBounds_toArray, List.set_cons_zero, List.set_cons_succ]
  refine WL.nil ?_
  refine hK12 _ _ ?_
  refine wp_seq_k fun K13 hK13 => ?_
  refine wp_seq_k fun K14 hK14 => ?_
  refine wp_region_list (WL.out ?_)
  refine WL.val (by kernel_rfl) (.int .u8 by_) (by go_simp) ?_
  simp only [Act.put, List.setIfInBounds_toArray, List.set_cons_zero, List.set_cons_succ]
  refine WL.val (by kernel_rfl) (.bool false) (by go_simp) ?_
  simp only [Act.put, List.setIfInBounds_toArray, List.set_cons_zero, List.set_cons_succ]
  refine WL.val (by kernel_rfl) (.bool false) (by go_simp) ?_
  simp only [Act.put, List.setIfInBounds_toArray, List.set_cons_zero, List.set_cons_succ]
  refine WL.val (by kernel_rfl) (.slice ba bn bc) (by go_simp) ?_
  simp only [Act.put, List.setIfInBounds_toArray, List.set_cons_zero, List.set_cons_succ]
  refine WL.val (by kernel_rfl) (.int .i64 (bn : Int)) (by go_simp) ?_
  simp only [Act.put, List.setIfInBounds_toArray, List.set_cons_zero, List.set_cons_succ]
  refine WL.val (by kernel_rfl) (.bool false) (by go_simp) ?_
  simp only [Act.put, List.setIfInBounds_toArray, List.set_cons_zero, List.set_cons_succ]
  refine WL.val (by kernel_rfl) (.bool false) (by go_simp) ?_
  simp only [Act.put, List.setIfInBounds_toArray, List.set_cons_zero, List.set_cons_succ]
  refine WL.nil ?_
  refine hK14 _ _ ?_
  refine wp_cond_false rfl ?_
  refine wp_skip ?_
  refine hK13 _ _ ?_
  refine wp_seq_k fun K15 hK15 => ?_
  refine wp_region_list (WL.out ?_)
  refine WL.val (by kernel_rfl) (.pointer (some ⟨p, 0, none⟩)) (by go_simp) ?_
  simp only [Act.put, List.setIfInBounds_toArray, List.set_cons_zero, List.set_cons_succ]
  refine WL.callF (by kernel_rfl) 20 _ _ rfl Tryd.in20 #[.pointer (some ⟨p, 0, none⟩), .int .i64 1, .int .i64 2, .int .i64 1] (by simp [Act.eval]) ?_
  refine (ls_twice L6.out (by decide) 1 (b := b) rfl (by simp)).mono ?_
  rintro e w7 ⟨rfl, hL⟩
  refine ⟨_, rfl, ?_⟩
  simp only [List.cons_append, List.nil_append] at hL
  have L7 := Keep.mk hL
  clear hL L6
  simp only [Act.put, List.setIfInBounds_toArray, List.set_cons_zero, List.set_cons_succ]
  refine WL.val (by kernel_rfl) (.int .i64 0) (by go_simp) ?_
  simp only [Act.put, List.setIfInBounds_toArray, List.set_cons_zero, List.set_cons_succ]
  refine WL.nil ?_
  refine hK15 _ _ ?_
  refine wp_seq_k fun K16 hK16 => ?_
  refine wp_region_list (WL.out ?_)
  refine WL.val (by kernel_rfl) (.pointer (some ⟨p, 0, none⟩)) (by go_simp) ?_
  simp only [Act.put, List.setIfInBounds_toArray, List.set_cons_zero, List.set_cons_succ]
  refine WL.val (by kernel_rfl) (.int .i64 m) (by go_simp) ?_
  simp only [Act.put, List.setIfInBounds_toArray, List.set_cons_zero, List.set_cons_succ]
  refine WL.callF (by kernel_rfl) 21 _ _ rfl Tryd.in21 #[.pointer (some ⟨p, 0, none⟩), .int .i64 1, .int .i64 2, .int .i64 1, .int .i64 m] (by simp [Act.eval]) ?_
  refine (ls_clip L7.out (by decide) 1 (b := b) rfl m).mono ?_
  rintro e w8 ⟨rfl, hL⟩
  refine ⟨_, rfl, ?_⟩
  simp only [List.set_cons_succ, List.set_cons_zero] at hL
  obtain ⟨cb, hcb⟩ : ∃ z, Keep (z = clp b m) := ⟨_, ⟨rfl⟩⟩
  rw [← hcb.out] at hL
  have L8 := Keep.mk hL
  clear hL L7
  simp only [Act.put, List.setIfInBounds_toArray, List.set_cons_zero, List.set_cons_succ]
  refine WL.val (by kernel_rfl) (.int .i64 0) (by go_simp) ?_
  simp only [Act.put, List.setIfInBounds_toArray, List.set_cons_zero, List.set_cons_succ]
  refine WL.nil ?_
  refine hK16 _ _ ?_
  refine wp_seq_k fun K17 hK17 => ?_
  refine wp_region_list (WL.out ?_)
  refine WL.val (by kernel_rfl) (.pointer (some ⟨p, 0, none⟩)) (by go_simp) ?_
  simp only [Act.put, List.setIfInBounds_toArray, List.set_cons_zero, List.set_cons_succ]
  refine WL.callF (by kernel_rfl) 22 _ _ rfl Tryd.in22 #[.pointer (some ⟨p, 0, none⟩), .int .i64 1, .int .i64 2, .int .i64 0, .int .i64 2] (by simp [Act.eval]) ?_
  refine (ls_swap L8.out (by decide) 0 2 (b := o) (c := b) rfl rfl).mono ?_
  rintro e w9 ⟨rfl, hL⟩
  refine ⟨_, rfl, ?_⟩
  simp only [List.set_cons_succ, List.set_cons_zero] at hL
  have L9 := Keep.mk hL
  clear hL L8
  simp only [Act.put, List.setIfInBounds_toArray, List.set_cons_zero, List.set_cons_succ]
  refine WL.val (by kernel_rfl) (.int .i64 0) (by go_simp) ?_
  simp only [Act.put, List.setIfInBounds_toArray, List.set_cons_zero, List.set_cons_succ]
  refine WL.nil ?_
  refine hK17 _ _ ?_
  refine wp_seq_k fun K18 hK18 => ?_
  refine wp_seq_k fun K19 hK19 => ?_
  refine wp_region_list (WL.out ?_)
  refine WL.val (by kernel_rfl) (.int .i64 0) (by go_simp) ?_
  simp only [Act.put, List.setIfInBounds_toArray, List.set_cons_zero, List.set_cons_succ]
  refine WL.val (by kernel_rfl) (.int .i64 0) (by go_simp) ?_
  simp only [Act.put, List.setIfInBounds_toArray, List.set_cons_zero, List.set_cons_succ]
  refine WL.val (by kernel_rfl) (.bool false) (by go_simp) ?_
  simp only [Act.put, List.setIfInBounds_toArray, List.set_cons_zero, List.set_cons_succ]
  refine WL.val (by kernel_rfl) (.bool false) (by go_simp) ?_
  simp only [Act.put, List.setIfInBounds_toArray, List.set_cons_zero, List.set_cons_succ]
  refine WL.val (by kernel_rfl) (.int .i64 0) (by go_simp) ?_
  simp only [Act.put, List.setIfInBounds_toArray, List.set_cons_zero, List.set_cons_succ]
  refine WL.val (by kernel_rfl) (.int .i64 0) (by go_simp) ?_
  simp only [Act.put, List.setIfInBounds_toArray, List.set_cons_zero, List.set_cons_succ]
  refine WL.val (by kernel_rfl) (.bool false) (by go_simp) ?_
  simp only [Act.put, List.setIfInBounds_toArray, List.set_cons_zero, List.set_cons_succ]
  refine WL.val (by kernel_rfl) (.bool false) (by go_simp) ?_
  simp only [Act.put, List.setIfInBounds_toArray, List.set_cons_zero, List.set_cons_succ]
  refine WL.val (by kernel_rfl) (.bool false) (by go_simp) ?_
  simp only [Act.put, List.setIfInBounds_toArray, List.set_cons_zero, List.set_cons_succ]
  refine WL.val (by kernel_rfl) (.int .i64 0) (by go_simp) ?_
  simp only [Act.put, List.setIfInBounds_toArray, List.set_cons_zero, List.set_cons_succ]
  refine WL.val (by kernel_rfl) (.bool false) (by go_simp) ?_
  simp only [Act.put, List.setIfInBounds_toArray, List.set_cons_zero, List.set_cons_succ]
  refine WL.val (by kernel_rfl) (.bool false) (by go_simp) ?_
  simp only [Act.put, List.setIfInBounds_toArray, List.set_cons_zero, List.set_cons_succ]
  refine WL.val (by kernel_rfl) (.bool false) (by go_simp) ?_
  simp only [Act.put, List.setIfInBounds_toArray, List.set_cons_zero, List.set_cons_succ]
  refine WL.val (by kernel_rfl) (.int .i64 0) (by go_simp) ?_
  simp only [Act.put, List.setIfInBounds_toArray, List.set_cons_zero, List.set_cons_succ]
  refine WL.val (by kernel_rfl) (.bool false) (by go_simp) ?_
  simp only [Act.put, List.setIfInBounds_toArray, List.set_cons_zero, List.set_cons_succ]
  refine WL.val (by kernel_rfl) (.bool false) (by go_simp) ?_
  simp only [Act.put, List.setIfInBounds_toArray, List.set_cons_zero, List.set_cons_succ]
  refine WL.val (by kernel_rfl) (.bool false) (by go_simp) ?_
  simp only [Act.put, List.setIfInBounds_toArray, List.set_cons_zero, List.set_cons_succ]
  refine WL.val (by kernel_rfl) (.int .i64 0) (by go_simp) ?_
  simp only [Act.put, List.setIfInBounds_toArray, List.set_cons_zero, List.set_cons_succ]
  refine WL.val (by kernel_rfl) (.bool false) (by go_simp) ?_
  simp only [Act.put, List.setIfInBounds_toArray, List.set_cons_zero, List.set_cons_succ]
  refine WL.val (by kernel_rfl) (.bool false) (by go_simp) ?_
  simp only [Act.put, List.setIfInBounds_toArray, List.set_cons_zero, List.set_cons_succ]
  refine WL.val (by kernel_rfl) (.bool false) (by go_simp) ?_
  simp only [Act.put, List.setIfInBounds_toArray, List.set_cons_zero, List.set_cons_succ]
  refine WL.val (by kernel_rfl) (.pointer (some ⟨p, 0, none⟩)) (by go_simp) ?_
  simp only [Act.put, List.setIfInBounds_toArray, List.set_cons_zero, List.set_cons_succ]
  refine WL.callF (by kernel_rfl) 18 _ _ rfl Tryd.in18 #[.pointer (some ⟨p, 0, none⟩), .int .i64 1, .int .i64 2] (by simp [Act.eval]) ?_
  refine (ls_len L9.out (by decide)).mono ?_
  rintro e w10 ⟨rfl, hL⟩
  refine ⟨_, rfl, ?_⟩
  have L10 := Keep.mk hL
  clear hL L9
  simp only [List.length_cons, List.length_nil]
  simp only [Act.put, List.setIfInBounds_toArray, List.set_cons_zero, List.set_cons_succ]
  refine WL.val (by kernel_rfl) (.bool false) (by go_simp) ?_
  simp only [Act.put, List.setIfInBounds_toArray, List.set_cons_zero, List.set_cons_succ]
  refine WL.val (by kernel_rfl) (.bool false) (by go_simp) ?_
  simp only [Act.put, List.setIfInBounds_toArray, List.set_cons_zero, List.set_cons_succ]
  refine WL.nil ?_
  refine hK19 _ _ ?_
  refine wp_cond_false rfl ?_
  refine wp_skip ?_
  refine hK18 _ _ ?_
  refine wp_seq_k fun K20 hK20 => ?_
  refine wp_region_list (WL.out ?_)
  refine WL.val (by kernel_rfl) (.pointer (some ⟨p, 0, none⟩)) (by go_simp) ?_
  simp only [Act.put, List.setIfInBounds_toArray, List.set_cons_zero, List.set_cons_succ]
  refine WL.callF (by kernel_rfl) 16 _ _ rfl Tryd.in16 #[.pointer (some ⟨p, 0, none⟩), .int .i64 1, .int .i64 2] (by simp [Act.eval]) ?_
  refine (ls_take L10.out (by decide) HE.out).mono ?_
  rintro e w11 ⟨vx, rfl, hL⟩
  refine ⟨_, rfl, ?_⟩
  obtain ⟨xa, xc, hx⟩ := row_form (hL.out (vx, b) (by simp)).row
  simp only at hx
  subst hx
  obtain ⟨xn, hxn⟩ : ∃ z, Keep ((b).length = z) := ⟨_, ⟨rfl⟩⟩
  rw [hxn.out] at hL ⊢
  have L11 := Keep.mk hL
  clear hL L10
  simp only [Act.put, List.setIfInBounds_toArray, List.set_cons_zero, List.set_cons_succ]
  refine WL.val (by kernel_rfl) (.tuple #[.slice xa xn xc, .nilIface]) (by go_simp) ?_
  simp only [Act.put, List.setIfInBounds_toArray, List.set_cons_zero, List.set_cons_succ]
  refine WL.val (by kernel_rfl) (.slice xa xn xc) (by go_simp) ?_
  simp only [Act.put, List.setIfInBounds_toArray, List.set_cons_zero, List.set_cons_succ]
  refine WL.val (by kernel_rfl) (.nilIface) (by go_simp) ?_
  simp only [Act.put, List.setIfInBounds_toArray, List.set_cons_zero, List.set_cons_succ]
  refine WL.val (by kernel_rfl) (.slice xa xn xc) (by go_simp) ?_
  simp only [Act.put, List.setIfInBounds_toArray, List.set_cons_zero, List.set_cons_succ]
  refine WL.val (by kernel_rfl) (.nilIface) (by go_simp) ?_
  simp only [Act.put, List.setIfInBounds_toArray, List.set_cons_zero, List.set_cons_succ]
  refine WL.nil ?_
  refine hK20 _ _ ?_
  refine wp_seq_k fun K21 hK21 => ?_
  refine wp_region_list (WL.out ?_)
  refine WL.val (by kernel_rfl) (.pointer (some ⟨p, 0, none⟩)) (by go_simp) ?_
  simp only [Act.put, List.setIfInBounds_toArray, List.set_cons_zero, List.set_cons_succ]
  refine WL.callF (by kernel_rfl) 16 _ _ rfl Tryd.in16 #[.pointer (some ⟨p, 0, none⟩), .int .i64 1, .int .i64 2] (by simp [Act.eval]) ?_
  refine (ls_take L11.out (by decide) HE.out).mono ?_
  rintro e w12 ⟨vy, rfl, hL⟩
  refine ⟨_, rfl, ?_⟩
  obtain ⟨ya, yc, hy⟩ := row_form (hL.out (vy, cb) (by simp)).row
  simp only at hy
  subst hy
  obtain ⟨yn, hyn⟩ : ∃ z, Keep ((cb).length = z) := ⟨_, ⟨rfl⟩⟩
  rw [hyn.out] at hL ⊢
  have L12 := Keep.mk hL
  clear hL L11
  simp only [Act.put, List.setIfInBounds_toArray, List.set_cons_zero, List.set_cons_succ]
  refine WL.val (by kernel_rfl) (.tuple #[.slice ya yn yc, .nilIface]) (by go_simp) ?_
  simp only [Act.put, List.setIfInBounds_toArray, List.set_cons_zero, List.set_cons_succ]
  refine WL.val (by kernel_rfl) (.slice ya yn yc) (by go_simp) ?_
  simp only [Act.put, List.setIfInBounds_toArray, List.set_cons_zero, List.set_cons_succ]
  refine WL.val (by kernel_rfl) (.nilIface) (by go_simp) ?_
  simp only [Act.put, List.setIfInBounds_toArray, List.set_cons_zero, List.set_cons_succ]
  refine WL.val (by kernel_rfl) (.slice ya yn yc) (by go_simp) ?_
  simp only [Act.put, List.setIfInBounds_toArray, List.set_cons_zero, List.set_cons_succ]
  refine WL.val (by kernel_rfl) (.nilIface) (by go_simp) ?_
  simp only [Act.put, List.setIfInBounds_toArray, List.set_cons_zero, List.set_cons_succ]
  refine WL.nil ?_
  refine hK21 _ _ ?_
  refine wp_seq_k fun K22 hK22 => ?_
  refine wp_region_list (WL.out ?_)
  refine WL.val (by kernel_rfl) (.pointer (some ⟨p, 0, none⟩)) (by go_simp) ?_
  simp only [Act.put, List.setIfInBounds_toArray, List.set_cons_zero, List.set_cons_succ]
  refine WL.callF (by kernel_rfl) 16 _ _ rfl Tryd.in16 #[.pointer (some ⟨p, 0, none⟩), .int .i64 1, .int .i64 2] (by simp [Act.eval]) ?_
  refine (ls_take L12.out (by decide) HE.out).mono ?_
  rintro e w13 ⟨vz, rfl, hL⟩
  refine ⟨_, rfl, ?_⟩
  obtain ⟨za, zc, hz⟩ := row_form (hL.out (vz, o) (by simp)).row
  simp only at hz
  subst hz
  obtain ⟨zn, hzn⟩ : ∃ z, Keep ((o).length = z) := ⟨_, ⟨rfl⟩⟩
  rw [hzn.out] at hL ⊢
  have L13 := Keep.mk hL
  clear hL L12
  simp only [Act.put, List.setIfInBounds_toArray, List.set_cons_zero, List.set_cons_succ]
  refine WL.val (by kernel_rfl) (.tuple #[.slice za zn zc, .nilIface]) (by go_simp) ?_
  simp only [Act.put, List.setIfInBounds_toArray, List.set_cons_zero, List.set_cons_succ]
  refine WL.val (by kernel_rfl) (.slice za zn zc) (by go_simp) ?_
  simp only [Act.put, List.setIfInBounds_toArray, List.set_cons_zero, List.set_cons_succ]
  refine WL.val (by kernel_rfl) (.nilIface) (by go_simp) ?_
  simp only [Act.put, List.setIfInBounds_toArray, List.set_cons_zero, List.set_cons_succ]
  refine WL.val (by kernel_rfl) (.slice za zn zc) (by go_simp) ?_
  simp only [Act.put, List.setIfInBounds_toArray, List.set_cons_zero, List.set_cons_succ]
  refine WL.val (by kernel_rfl) (.nilIface) (by go_simp) ?_
  simp only [Act.put, List.setIfInBounds_toArray, List.set_cons_zero, List.set_cons_succ]
  refine WL.nil ?_
  refine hK22 _ _ ?_
  refine wp_seq_k fun K23 hK23 => ?_
  refine wp_seq_k fun K24 hK24 => ?_
  refine wp_region_list (WL.out ?_)
  refine WL.val (by kernel_rfl) (.nilIface) (by go_simp) ?_
  simp only [Act.put, List.setIfInBounds_toArray, List.set_cons_zero, List.set_cons_succ]
  refine WL.val (by kernel_rfl) (.bool false) (by have h := ne_nn w13; go_simp) ?_
  simp only [Act.put, List.setIfInBounds_toArray, List.set_cons_zero, List.set_cons_succ]
  refine WL.val (by kernel_rfl) (.bool false) (by go_simp) ?_
  simp only [Act.put, List.setIfInBounds_toArray, List.set_cons_zero, List.set_cons_succ]
  refine WL.val (by kernel_rfl) (.nilIface) (by go_simp) ?_
  simp only [Act.put, List.setIfInBounds_toArray, List.set_cons_zero, List.set_cons_succ]
  refine WL.val (by kernel_rfl) (.bool false) (by have h := ne_nn w13; go_simp) ?_
  simp only [Act.put, List.setIfInBounds_toArray, List.set_cons_zero, List.set_cons_succ]
  refine WL.val (by kernel_rfl) (.bool false) (by go_simp) ?_
  simp only [Act.put, List.setIfInBounds_toArray, List.set_cons_zero, List.set_cons_succ]
  refine WL.val (by kernel_rfl) (.bool false) (by go_simp) ?_
  simp only [Act.put, List.setIfInBounds_toArray, List.set_cons_zero, List.set_cons_succ]
  refine WL.val (by kernel_rfl) (.nilIface) (by go_simp) ?_
  simp only [Act.put, List.setIfInBounds_toArray, List.set_cons_zero, List.set_cons_succ]
  refine WL.val (by kernel_rfl) (.bool false) (by have h := ne_nn w13; go_simp) ?_
  simp only [Act.put, List.setIfInBounds_toArray, List.set_cons_zero, List.set_cons_succ]
  refine WL.val (by kernel_rfl) (.bool false) (by go_simp) ?_
  simp only [Act.put, List.setIfInBounds_toArray, List.set_cons_zero, List.set_cons_succ]
  refine WL.val (by kernel_rfl) (.bool false) (by go_simp) ?_
  simp only [Act.put, List.setIfInBounds_toArray, List.set_cons_zero, List.set_cons_succ]
  refine WL.val (by kernel_rfl) (.slice ya yn yc) (by go_simp) ?_
  simp only [Act.put, List.setIfInBounds_toArray, List.set_cons_zero, List.set_cons_succ]
  refine WL.val (by kernel_rfl) (.int .i64 (yn : Int)) (by go_simp) ?_
  simp only [Act.put, List.setIfInBounds_toArray, List.set_cons_zero, List.set_cons_succ]
  refine WL.val (by kernel_rfl) (.slice ba bn bc) (by go_simp) ?_
  simp only [Act.put, List.setIfInBounds_toArray, List.set_cons_zero, List.set_cons_succ]
  refine WL.val (by kernel_rfl) (.int .i64 (bn : Int)) (by go_simp) ?_
  simp only [Act.put, List.setIfInBounds_toArray, List.set_cons_zero, List.set_cons_succ]
  have hct := clp_take b m
  rw [← hcb.out, hyn.out, Hbn.out] at hct
  have hy1 : ¬ (yn : Int) > (bn : Int) := by omega
  have hy2 : ¬ bn < yn := by omega
  refine WL.val (by kernel_rfl) (.bool false) (by go_simp) ?_
  clear hy1 hy2
  simp only [Act.put, List.setIfInBounds_toArray, List.set_cons_zero, List.set_cons_succ]
  refine WL.val (by kernel_rfl) (.bool false) (by go_simp) ?_
  simp only [Act.put, List.setIfInBounds_toArray, List.set_cons_zero, List.set_cons_succ]
  refine WL.val (by kernel_rfl) (.bool false) (by go_simp) ?_
  simp only [Act.put, List.setIfInBounds_toArray, List.set_cons_zero, List.set_cons_succ]
  refine WL.val (by kernel_rfl) (.slice ya yn yc) (by go_simp) ?_
  simp only [Act.put, List.setIfInBounds_toArray, List.set_cons_zero, List.set_cons_succ]
  refine WL.val (by kernel_rfl) (.int .i64 (yn : Int)) (by go_simp) ?_
  simp only [Act.put, List.setIfInBounds_toArray, List.set_cons_zero, List.set_cons_succ]
  refine WL.val (by kernel_rfl) (.slice ba bn bc) (by go_simp) ?_
  simp only [Act.put, List.setIfInBounds_toArray, List.set_cons_zero, List.set_cons_succ]
  refine WL.val (by kernel_rfl) (.int .i64 (bn : Int)) (by go_simp) ?_
  simp only [Act.put, List.setIfInBounds_toArray, List.set_cons_zero, List.set_cons_succ]
  have hy3 : ¬ yn = bn := by omega
  have hy4 : ¬ (yn : Int) = (bn : Int) := by omega
  refine WL.val (by kernel_rfl) (.bool false) (by go_simp) ?_
  clear hy3 hy4
  simp only [Act.put, List.setIfInBounds_toArray, List.set_cons_zero, List.set_cons_succ]
  refine WL.val (by kernel_rfl) (.bool false) (by go_simp) ?_
  simp only [Act.put, List.setIfInBounds_toArray, List.set_cons_zero, List.set_cons_succ]
  refine WL.skip (by kernel_rfl) ?_
  simp only [Act.put, List.setIfInBounds_toArray, List.set_cons_zero, List.set_cons_succ]
  refine WL.skip (by kernel_rfl) ?_
  simp only [Act.put, List.setIfInBounds_toArray, List.set_cons_zero, List.set_cons_succ]
  refine WL.skip (by kernel_rfl) ?_
  simp only [Act.put, List.setIfInBounds_toArray, List.set_cons_zero, List.set_cons_succ]
  refine WL.val (by kernel_rfl) (.bool false) (by go_simp) ?_
  simp only [Act.put, List.setIfInBounds_toArray, List.set_cons_zero, List.set_cons_succ]
  refine WL.val (by kernel_rfl) (.bool false) (by go_simp) ?_
  simp only [Act.put, List.setIfInBounds_toArray, List.set_cons_zero, List.set_cons_succ]
  refine WL.nil ?_
  refine hK24 _ _ ?_
  refine wp_cond_false rfl ?_
  refine wp_skip ?_
  refine hK23 _ _ ?_
  refine wp_seq_k fun K25 hK25 => ?_
  refine wp_region_list (WL.out ?_)
  refine WL.val (by kernel_rfl) (.slice xa xn xc) (by go_simp) ?_
  simp only [Act.put, List.setIfInBounds_toArray, List.set_cons_zero, List.set_cons_succ]
  refine WL.val (by kernel_rfl) (.slice ba bn bc) (by go_simp) ?_
  simp only [Act.put, List.setIfInBounds_toArray, List.set_cons_zero, List.set_cons_succ]
  refine WL.callF (by kernel_rfl) 17 _ _ rfl Tryd.in17 #[.slice xa xn xc, .slice ba bn bc] (by simp [Act.eval]) ?_
  refine (same_any _ _ b b w13 (L13.out.out (.slice xa xn xc, b) (by simp)).row (HB.out.below L13.out.bel) HBy.out HBy.out).mono ?_
  rintro e wq ⟨rfl, hw_⟩
  refine ⟨_, rfl, ?_⟩
  have hw_ := hw_.symm
  subst hw_
  rw [show decide (b = b) = true by simp]
  simp only [Act.put, List.setIfInBounds_toArray, List.set_cons_zero, List.set_cons_succ]
  refine WL.val (by kernel_rfl) (.bool true) (by go_simp) ?_
  simp only [Act.put, List.setIfInBounds_toArray, List.set_cons_zero, List.set_cons_succ]
  refine WL.val (by kernel_rfl) (.slice ya yn yc) (by go_simp) ?_
  simp only [Act.put, List.setIfInBounds_toArray, List.set_cons_zero, List.set_cons_succ]
  refine WL.val (by kernel_rfl) (.slice ba bn bc) (by go_simp) ?_
  simp only [Act.put, List.setIfInBounds_toArray, List.set_cons_zero, List.set_cons_succ]
  refine WL.val (by kernel_rfl) (.slice ya yn yc) (by go_simp) ?_
  simp only [Act.put, List.setIfInBounds_toArray, List.set_cons_zero, List.set_cons_succ]
  refine WL.val (by kernel_rfl) (.int .i64 (yn : Int)) (by go_simp) ?_
  simp only [Act.put, List.setIfInBounds_toArray, List.set_cons_zero, List.set_cons_succ]
  obtain ⟨vs, hrs, hvs⟩ := sub_any (.slice ba bn bc) b w13 (HB.out.below L13.out.bel) yn (by have := Hbn.out; have := hct.2.1; omega)
  have hvs := hvs w13 (HB.out.below L13.out.bel)
  rw [← hct.1] at hvs
  obtain ⟨sa, sc, hs_⟩ := row_form hvs
  rw [hyn.out] at hs_
  subst hs_
  refine WL.slr (by kernel_rfl) 39 (.tmp 173) none (some (.tmp 175)) none rfl _ none (some (.int .i64 (yn : Int))) none (.slice sa yn sc) rfl rfl rfl rfl (hrs w13) ?_
  have Hvs := Keep.mk hvs
  clear hrs hvs
  simp only [Act.put, List.setIfInBounds_toArray, List.set_cons_zero, List.set_cons_succ]
  refine WL.callF (by kernel_rfl) 17 _ _ rfl Tryd.in17 #[.slice ya yn yc, .slice sa yn sc] (by simp [Act.eval]) ?_
  refine (same_any _ _ cb cb w13 (L13.out.out (.slice ya yn yc, cb) (by simp)).row Hvs.out (by rw [hct.1]; exact HBy.out.take _) (by rw [hct.1]; exact HBy.out.take _)).mono ?_
  rintro e wq ⟨rfl, hw_⟩
  refine ⟨_, rfl, ?_⟩
  have hw_ := hw_.symm
  subst hw_
  rw [show decide (cb = cb) = true by simp]
  simp only [Act.put, List.setIfInBounds_toArray, List.set_cons_zero, List.set_cons_succ]
  refine WL.val (by kernel_rfl) (.bool true) (by go_simp) ?_
  simp only [Act.put, List.setIfInBounds_toArray, List.set_cons_zero, List.set_cons_succ]
  refine WL.val (by kernel_rfl) (.bool true) (by go_simp) ?_
  simp only [Act.put, List.setIfInBounds_toArray, List.set_cons_zero, List.set_cons_succ]
  refine WL.val (by kernel_rfl) (.slice za zn zc) (by go_simp) ?_
  simp only [Act.put, List.setIfInBounds_toArray, List.set_cons_zero, List.set_cons_succ]
  refine WL.val (by kernel_rfl) (.slice oa on oc) (by go_simp) ?_
  simp only [Act.put, List.setIfInBounds_toArray, List.set_cons_zero, List.set_cons_succ]
  refine WL.callF (by kernel_rfl) 17 _ _ rfl Tryd.in17 #[.slice za zn zc, .slice oa on oc] (by simp [Act.eval]) ?_
  refine (same_any _ _ o o w13 (L13.out.out (.slice za zn zc, o) (by simp)).row (HO.out.below L13.out.bel) HOy.out HOy.out).mono ?_
  rintro e wq ⟨rfl, hw_⟩
  refine ⟨_, rfl, ?_⟩
  have hw_ := hw_.symm
  subst hw_
  rw [show decide (o = o) = true by simp]
  simp only [Act.put, List.setIfInBounds_toArray, List.set_cons_zero, List.set_cons_succ]
  refine WL.val (by kernel_rfl) (.bool true) (by go_simp) ?_
  simp only [Act.put, List.setIfInBounds_toArray, List.set_cons_zero, List.set_cons_succ]
  refine WL.val (by kernel_rfl) (.bool true) (by go_simp) ?_
  simp only [Act.put, List.setIfInBounds_toArray, List.set_cons_zero, List.set_cons_succ]
  refine WL.val (by kernel_rfl) (.pointer (some ⟨p, 0, none⟩)) (by go_simp) ?_
  simp only [Act.put, List.setIfInBounds_toArray, List.set_cons_zero, List.set_cons_succ]
  refine WL.callF (by kernel_rfl) 18 _ _ rfl Tryd.in18 #[.pointer (some ⟨p, 0, none⟩), .int .i64 1, .int .i64 2] (by simp [Act.eval]) ?_
  refine (ls_len L13.out (by decide)).mono ?_
  rintro e w14 ⟨rfl, hL⟩
  refine ⟨_, rfl, ?_⟩
  have L14 := Keep.mk hL
  clear hL
  simp only [Act.put, List.setIfInBounds_toArray, List.set_cons_zero, List.set_cons_succ]
  refine WL.val (by kernel_rfl) (.bool true) (by go_simp) ?_
  simp only [Act.put, List.setIfInBounds_toArray, List.set_cons_zero, List.set_cons_succ]
  refine WL.val (by kernel_rfl) (.bool true) (by go_simp) ?_
  simp only [Act.put, List.setIfInBounds_toArray, List.set_cons_zero, List.set_cons_succ]
  refine WL.val (by kernel_rfl) (.bool true) (by go_simp) ?_
  simp only [Act.put, List.setIfInBounds_toArray, List.set_cons_zero, List.set_cons_succ]
  refine WL.nil ?_
  refine hK25 _ _ ?_
  refine wp_ret ?_
  go_ret
  exact ⟨rfl, L14.out.bel⟩

theorem spoils_any (w : World) (qe : Addr) (hE : ErrI w qe) (vb vo : Value) (b o : List Int) (place by_ m : Int) (hB : RowAt w vb b) (hO : RowAt w vo o) (hBy : Byts b) (hOy : Byts o) (hby : 0 ≤ by_ ∧ by_ < 256) (hD : b ≠ [] → ∀ k, vb.ownBlock = some k → k < w.heap.size) (hDo : o ≠ [] → ∀ k, vo.ownBlock = some k → k < w.heap.size) : Calls Tryd.prog 6 #[vb, vo, .int .i64 place, .int .u8 by_, .int .i64 m] w fun e w' => e = .returned (.bool true) ∧ Below w.heap.size w w' := by
  obtain ⟨ba, bc, rfl⟩ := row_form hB
  obtain ⟨oa, oc, rfl⟩ := row_form hO
  by_cases h1 : 2097194 < b.length <;> by_cases h2 : 2097194 < o.length
  · exact spo_L11 w qe ⟨hE⟩ ba oa _ bc _ oc b o place by_ m ⟨hB⟩ ⟨hO⟩ ⟨rfl⟩ ⟨rfl⟩ ⟨hBy⟩ ⟨hOy⟩ ⟨hby⟩ ⟨hD⟩ ⟨hDo⟩ h1 h2
  · exact spo_L10 w qe ⟨hE⟩ ba oa _ bc _ oc b o place by_ m ⟨hB⟩ ⟨hO⟩ ⟨rfl⟩ ⟨rfl⟩ ⟨hBy⟩ ⟨hOy⟩ ⟨hby⟩ ⟨hD⟩ ⟨hDo⟩ h1 h2
  · exact spo_L01 w qe ⟨hE⟩ ba oa _ bc _ oc b o place by_ m ⟨hB⟩ ⟨hO⟩ ⟨rfl⟩ ⟨rfl⟩ ⟨hBy⟩ ⟨hOy⟩ ⟨hby⟩ ⟨hD⟩ ⟨hDo⟩ h1 h2
  · by_cases h3 : by_ = 0
    · by_cases h4 : b.length = 0
      · exact spo_a w qe ⟨hE⟩ ba oa _ bc _ oc b o place by_ m ⟨hB⟩ ⟨hO⟩ ⟨rfl⟩ ⟨rfl⟩ ⟨hBy⟩ ⟨hOy⟩ ⟨hby⟩ ⟨hD⟩ ⟨hDo⟩ h1 h2 h3 h4 ⟨.inl h3⟩
      · exact spo_b w qe ⟨hE⟩ ba oa _ bc _ oc b o place by_ m ⟨hB⟩ ⟨hO⟩ ⟨rfl⟩ ⟨rfl⟩ ⟨hBy⟩ ⟨hOy⟩ ⟨hby⟩ ⟨hD⟩ ⟨hDo⟩ h1 h2 h3 h4 ⟨.inl h3⟩
    · by_cases h4 : b.length = 0
      · exact spo_c w qe ⟨hE⟩ ba oa _ bc _ oc b o place by_ m ⟨hB⟩ ⟨hO⟩ ⟨rfl⟩ ⟨rfl⟩ ⟨hBy⟩ ⟨hOy⟩ ⟨hby⟩ ⟨hD⟩ ⟨hDo⟩ h1 h2 h3 h4 ⟨.inr h4⟩
      · exact spo_d w qe ⟨hE⟩ ba oa _ bc _ oc b o place by_ m ⟨hB⟩ ⟨hO⟩ ⟨rfl⟩ ⟨rfl⟩ ⟨hBy⟩ ⟨hOy⟩ ⟨hby⟩ ⟨hD⟩ ⟨hDo⟩ h1 h2 h3 h4 ⟨by omega⟩

abbrev noS : Value := .slice none 0 0
def RwsAt (w : World) (v : Value) (ls : List (List Int)) : Prop :=
  ∃ V : Nat → Value, ((∃ a c, v = .slice a 0 c ∧ ls = []) ∨ ∃ q o cap, v = .slice (some ⟨q, o, none⟩) ls.length cap ∧ ls.length ≤ cap ∧ ∀ i, i < ls.length → w.cell? ⟨q, o + i, none⟩ = some (V i)) ∧ ∀ i, i < ls.length → RowAt w (V i) (ls.getD i [])
theorem RwsAt.form {w : World} {v : Value} {ls : List (List Int)} (h : RwsAt w v ls) : ∃ a c, v = .slice a ls.length c := by
  obtain ⟨V, ⟨a, c, rfl, rfl⟩ | ⟨q, o, cap, rfl, _⟩, _⟩ := h
  · exact ⟨_, _, rfl⟩
  · exact ⟨_, _, rfl⟩
theorem RwsAt.nil (w : World) : RwsAt w noS [] := ⟨fun _ => noS, .inl ⟨_, _, rfl, rfl⟩, fun i hi => by simp at hi⟩
theorem RwsAt.below {w w' : World} {v : Value} {ls : List (List Int)} (h : RwsAt w v ls) (hb : Below w.heap.size w w') : RwsAt w' v ls := by
  obtain ⟨V, h1, h2⟩ := h
  refine ⟨V, ?_, fun i hi => (h2 i hi).below hb⟩
  rcases h1 with h1 | ⟨q, o, cap, h1, h3, h4⟩
  · exact .inl h1
  · exact .inr ⟨q, o, cap, h1, h3, fun i hi => by rw [hb.cell (p := ⟨q, o + i, none⟩) (cell_lt (h4 i hi))]; exact h4 i hi⟩
theorem RwsAt.at {w : World} {a : Option Addr} {n c : Nat} {ls : List (List Int)} (h : RwsAt w (.slice a n c) ls) (t : Nat) (ht : t < ls.length) : ∃ q o pa pc, a = some ⟨q, o, none⟩ ∧ n = ls.length ∧ w.cell? ⟨q, o + t, none⟩ = some (.slice pa (ls.getD t []).length pc) ∧ RowAt w (.slice pa (ls.getD t []).length pc) (ls.getD t []) := by
  obtain ⟨V, ⟨a', c', h1, rfl⟩ | ⟨q, o, cap, h1, _, h4⟩, h2⟩ := h
  · simp at ht
  · injection h1 with h1 h3 h5
    subst h1 h3
    obtain ⟨pa, pc, hv⟩ := row_form (h2 t ht)
    exact ⟨q, o, pa, pc, rfl, rfl, by rw [h4 t ht, hv], by rw [← hv]; exact h2 t ht⟩
def BolsAt (w : World) (v : Value) (l : List Bool) : Prop :=
  (∃ a c, v = .slice a 0 c ∧ l = []) ∨ ∃ q o c, v = .slice (some ⟨q, o, none⟩) l.length c ∧ ∀ i x, l[i]? = some x → w.cell? ⟨q, o + i, none⟩ = some (.bool x)
theorem BolsAt.form {w : World} {v : Value} {l : List Bool} (h : BolsAt w v l) : ∃ a c, v = .slice a l.length c := by
  rcases h with ⟨a, c, rfl, rfl⟩ | ⟨q, o, c, rfl, _⟩
  · exact ⟨_, _, rfl⟩
  · exact ⟨_, _, rfl⟩
theorem BolsAt.at {w w' : World} {a : Option Addr} {n c : Nat} {l : List Bool} (h : BolsAt w (.slice a n c) l) (hb : Below w.heap.size w w') {i : Nat} {x : Bool} (hx : l[i]? = some x) : ∃ q o, a = some ⟨q, o, none⟩ ∧ w'.cell? ⟨q, o + i, none⟩ = some (.bool x) := by
  rcases h with ⟨a', c', e, rfl⟩ | ⟨q, o, c', e, h2⟩
  · simp at hx
  · injection e with e1 e2 e3
    exact ⟨q, o, e1, by have h3 := h2 i x hx; rw [hb.cell (p := ⟨q, o + i, none⟩) (cell_lt h3)]; exact h3⟩

end Go.Proofs.YteecdcocgflklaaDoor
namespace Go.Proofs.YteecdcocgflklaaDoor
open Go.RowKit
set_option linter.unusedSimpArgs false
set_option linter.unusedVariables false
open Go.ChangeShapes Go.WideShapes Go.ChangeAt Go.RowKit Go.Deep
theorem Tryd.jcells39 : Tryd.prog.cellsOf 39 = 1 := by kernel_rfl
theorem Tryd.jcells5 : Tryd.prog.cellsOf 5 = 1 := by kernel_rfl
theorem Tryd.jcells3 : Tryd.prog.cellsOf 3 = 1 := by kernel_rfl
theorem Tryd.jcells4 : Tryd.prog.cellsOf 4 = 1 := by kernel_rfl
theorem Tryd.undIs : Tryd.prog.underlying 89 = some (.slice 3) := by kernel_rfl
theorem Tryd.undRw : Tryd.prog.underlying 36 = some (.slice 39) := by kernel_rfl
theorem Tryd.undBs : Tryd.prog.underlying 45 = some (.slice 4) := by kernel_rfl
theorem Tryd.undB : Tryd.prog.underlying 4 = some .bool := by kernel_rfl
theorem Tryd.jbytes5 : Tryd.prog.bytesOf 5 = 1 := by kernel_rfl
theorem Tryd.jbytes39 : Tryd.prog.bytesOf 39 = 24 := by kernel_rfl
theorem reach_is : reachBytes = 140737488351232 := by decide
theorem jadd_none (b o i : Nat) : (⟨b, o, none⟩ : Addr).add i = ⟨b, o + i, none⟩ := by
  simp [Addr.add]
theorem jwf_u8 {n : Int} (h : (Lit.int .u8 n).wf = true) : 0 ≤ n ∧ n < 256 := by
  have h1 : IntKind.u8.min = 0 := by decide
  have h2 : IntKind.u8.max = 255 := by decide
  simp only [Lit.wf, h1, h2, Bool.and_eq_true, decide_eq_true_eq] at h
  omega
theorem jwf_i64 {n : Int} (h : (Lit.int .i64 n).wf = true) : -9223372036854775808 ≤ n ∧ n ≤ 9223372036854775807 := by
  have h1 : IntKind.i64.min = -9223372036854775808 := by decide
  have h2 : IntKind.i64.max = 9223372036854775807 := by decide
  simp only [Lit.wf, h1, h2, Bool.and_eq_true, decide_eq_true_eq] at h
  omega
theorem mem_weightsAll {H : Type} {P : Program} {e : TypeId} {d : DataW H} : ∀ {ds : List (DataW H)}, d ∈ ds → ∀ n ∈ d.weights P e, n ∈ DataW.weightsAll P e ds
  | d0 :: ds, h, n, hn => by
    simp only [DataW.weightsAll, List.mem_append]
    rcases List.mem_cons.1 h with rfl | h
    · exact .inl hn
    · exact .inr (mem_weightsAll h n hn)
theorem brow_of_trod {H : Type} {enc : TypeId × Value → H} {W : World} {sp : Nat → Bool} {held : Bool} {n base : Nat} {v : Value} {x : DataW H × List MemPlace} (hf : DataW.trod enc Tryd.prog W base sp held n 39 [v] = some x) (hw : ∀ n ∈ x.1.weights Tryd.prog 39, n ≤ reachBytes) :
    ∃ l : List Int, RowAt W v l ∧ Byts l ∧ l.length ≤ 140737488351232 := by
  rcases open_ints Tryd.underlying39 Tryd.underlying5 Tryd.jcells5 hf with ⟨hcs, _⟩ | ⟨a, len, cap, zs, hcs, _, hl, hm, hz, hx, hcell, hwz⟩
  · simp at hcs
    subst hcs
    exact ⟨[], .inl ⟨rfl, rfl⟩, fun c hc => by simp at hc, by simp⟩
  · simp at hcs
    subst hcs
    unfold maxLen at hm
    have hlz : len ≤ zs.length := by rw [hz]; split <;> omega
    have hbz : Byts zs := fun c hc => jwf_u8 (hwz c hc)
    have hb : len ≤ 140737488351232 := by
      have h1 := hw ((zs.take len).length + (zs.drop len).length) (by
        rw [hx]
        simp only [DataW.weights, Tryd.underlying39]
        simp [lits, Tryd.jbytes5])
      rw [List.length_take, reach_is] at h1
      omega
    by_cases h0 : len = 0
    · subst h0
      exact ⟨[], .inr (.inl ⟨a, cap, rfl, rfl⟩), fun c hc => by simp at hc, by simp⟩
    · have hs : a.spot = none := by
        have := hcell 0 (by omega)
        rw [show a.add 0 = a from rfl] at this
        exact World.cell?_spot this
      obtain ⟨b, off, sp⟩ := a
      obtain rfl : sp = none := hs
      have hlen : (zs.take len).length = len := by rw [List.length_take]; omega
      refine ⟨zs.take len, .inr (.inr ⟨b, off, cap, by rw [hlen], by omega, fun i hi => ?_⟩), fun c hc => hbz c (List.mem_of_mem_take hc), by omega⟩
      rw [hlen] at hi
      have := hcell i (by omega)
      rw [jadd_none] at this
      rw [this]
      simp [List.getD, hi]
theorem rws_of_trod {H : Type} {enc : TypeId × Value → H} {W : World} {sp : Nat → Bool} {held : Bool} {n base : Nat} {v : Value} {x : DataW H × List MemPlace} (hf : DataW.trod enc Tryd.prog W base sp held n 36 [v] = some x) (hw : ∀ n ∈ x.1.weights Tryd.prog 36, n ≤ reachBytes) :
    ∃ ls : List (List Int), RwsAt W v ls ∧ ls.length ≤ 140737488355328 ∧ ∀ r ∈ ls, Byts r ∧ r.length ≤ 140737488355328 := by
  rcases open_slice1 Tryd.undRw Tryd.jcells39 hf with ⟨hcs, _⟩ | ⟨a, len, cap, m, n, V, D, Pl, hcs, _, hl, hm, hz, hx, hcell⟩
  · simp at hcs
    subst hcs
    exact ⟨[], RwsAt.nil W, by simp, fun r hr => by simp at hr⟩
  · simp at hcs
    subst hcs
    have hlz : len ≤ m := by rw [hz]; split <;> omega
    have hb : len ≤ 140737488355328 := by
      have h1 := hw ((((List.range len).map D).length + ((List.range (m - len)).map fun j => D (len + j)).length) * 24) (by
        rw [hx]
        simp only [DataW.weights, Tryd.undRw]
        simp [Tryd.jbytes39])
      rw [reach_is] at h1
      simp only [List.length_map, List.length_range] at h1
      omega
    have hwD : ∀ i, i < len → ∀ n ∈ (D i).weights Tryd.prog 39, n ≤ reachBytes := fun i hi n hn => hw n (by
      rw [hx]
      simp only [DataW.weights, Tryd.undRw]
      refine List.mem_cons_of_mem _ (List.mem_append_left _ (mem_weightsAll (d := D i) ?_ n hn))
      exact List.mem_map.2 ⟨i, List.mem_range.2 hi, rfl⟩)
    obtain ⟨rows, hrows⟩ := Go.Deep.choose_lt (n := len) (p := fun i l => RowAt W (V i) l ∧ Byts l ∧ l.length ≤ 140737488351232) fun i hi => brow_of_trod (hcell i (by omega)).2 (hwD i hi)
    have hg : ∀ i, i < len → ((List.range len).map rows).getD i [] = rows i := fun i hi => by rw [List.getD_eq_getElem?_getD]; simp [hi]
    refine ⟨(List.range len).map rows, ⟨V, ?_, fun i hi => ?_⟩, by simpa using hb, fun r hr => ?_⟩
    · by_cases h0 : len = 0
      · subst h0
        exact .inl ⟨_, _, rfl, rfl⟩
      · have hs : a.spot = none := by
          have := (hcell 0 (by omega)).1
          rw [show a.add 0 = a from rfl] at this
          exact World.cell?_spot this
        obtain ⟨b, off, sp⟩ := a
        obtain rfl : sp = none := hs
        refine .inr ⟨b, off, cap, by simp, by simpa using hl, fun i hi => ?_⟩
        have := (hcell i (by simp at hi; omega)).1
        rw [jadd_none] at this
        exact this
    · have hi' : i < len := by simpa using hi
      rw [hg i hi']; exact (hrows i hi').1
    · obtain ⟨i, hi, rfl⟩ := List.mem_map.1 hr
      have h1 := hrows i (List.mem_range.1 hi)
      exact ⟨h1.2.1, by have := h1.2.2; omega⟩
theorem bols_of_trod {H : Type} {enc : TypeId × Value → H} {W : World} {sp : Nat → Bool} {held : Bool} {n base : Nat} {v : Value} {x : DataW H × List MemPlace} (hf : DataW.trod enc Tryd.prog W base sp held n 45 [v] = some x) : ∃ l : List Bool, BolsAt W v l := by
  rcases open_slice1 Tryd.undBs Tryd.jcells4 hf with ⟨hcs, _⟩ | ⟨a, len, cap, m, n, V, D, Pl, hcs, _, hl, hm, hz, hx, hcell⟩
  · simp at hcs
    subst hcs
    exact ⟨[], .inl ⟨none, 0, rfl, rfl⟩⟩
  · simp at hcs
    subst hcs
    have hlz : len ≤ m := by rw [hz]; split <;> omega
    obtain ⟨bs, hbs⟩ := Go.Deep.choose_lt (n := len) (p := fun i b => V i = .bool b) fun i hi => by
      obtain ⟨b, h1, _⟩ := DataW.trod_bool Tryd.undB (hcell i (by omega)).2
      exact ⟨b, by simpa using h1⟩
    by_cases h0 : len = 0
    · subst h0
      exact ⟨[], .inl ⟨_, _, rfl, rfl⟩⟩
    · have hs : a.spot = none := by
        have := (hcell 0 (by omega)).1
        rw [show a.add 0 = a from rfl] at this
        exact World.cell?_spot this
      obtain ⟨b, off, sp⟩ := a
      obtain rfl : sp = none := hs
      refine ⟨(List.range len).map bs, .inr ⟨b, off, cap, by simp, fun i y hy => ?_⟩⟩
      have hi : i < len := by have := (List.getElem?_eq_some_iff.1 hy).1; simpa using this
      simp [hi] at hy
      subst hy
      have := (hcell i (by omega)).1
      rw [jadd_none] at this
      rw [this, hbs i hi]
theorem row_lt {w : World} {v : Value} {l : List Int} (h : RowAt w v l) (h0 : l ≠ []) : ∀ k, v.ownBlock = some k → k < w.heap.size := by
  intro k hk
  rcases h with ⟨_, rfl⟩ | ⟨_, _, _, rfl⟩ | ⟨q, off, cap, rfl, h1, h2⟩
  · exact absurd rfl h0
  · exact absurd rfl h0
  · have := cell_lt (h2 0 (List.length_pos_iff.2 h0))
    simp [Value.ownBlock] at hk
    omega

end Go.Proofs.YteecdcocgflklaaDoor
