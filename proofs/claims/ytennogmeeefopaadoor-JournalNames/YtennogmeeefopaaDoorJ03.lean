import Derived.Test.YtennogmeeefopaaDoorJ02
import Derived.Deep.RegionHeld3
import Derived.Scope
import Derived.OwnWalk
import Derived.Laws.OwnMore
namespace Go.Proofs.YtennogmeeefopaaDoor
open Go.RowKit
set_option linter.unusedSimpArgs false
set_option linter.unusedVariables false

theorem Tryd.in43 (w : World) (vs : Array Value) : (callFunc 43 vs).run Tryd.prog w = .ok (.enter 43 vs) w := by kernel_rfl
/-- May a file's name have that letter? -/
def okC (c : Int) : Bool := (decide (97 ≤ c) && decide (c ≤ 122)) || (decide (48 ≤ c) && decide (c ≤ 57)) || decide (c = 46)
def rgt (n : ByteArray) : Bool := decide (1 ≤ n.size) && decide (n.size ≤ 32) && (lst n).all okC
theorem lst_at (n : ByteArray) (i : Nat) (h : i < n.size) : ((n[i]'h).toNat : Int) = (lst n).getD i 0 := by
  simp [lst, List.getD_eq_getElem?_getD, ByteArray.getElem_eq_getElem_data, h, show i < n.data.size from h]
set_option maxRecDepth 8000 in
set_option maxHeartbeats 2000000 in
theorem right_any (n : ByteArray) (w : World) : Calls Tryd.prog 34 #[.string n] w fun e w' => e = .returned (.bool (rgt n)) ∧ w' = w := by
  go_enter Tryd.func34, Tryd.ntmps34
  refine wp_seq_k fun K1 hK1 => ?_
  refine wp_region_list (WL.out ?_)
  refine WL.val (by kernel_rfl) (.bool false) (by go_simp) ?_
  simp only [Act.put, List.setIfInBounds_toArray, List.set_cons_zero, List.set_cons_succ]
  refine WL.nil ?_
  refine hK1 _ _ ?_
  refine wp_seq_k fun K2 hK2 => ?_
  refine wp_seq_k fun K3 hK3 => ?_
  refine wp_region_list (WL.out ?_)
  refine WL.val (by kernel_rfl) (.string n) (by go_simp) ?_
  simp only [Act.put, List.setIfInBounds_toArray, List.set_cons_zero, List.set_cons_succ]
  refine WL.val (by kernel_rfl) (.int .i64 (n.size : Int)) (by go_simp) ?_
  simp only [Act.put, List.setIfInBounds_toArray, List.set_cons_zero, List.set_cons_succ]
  by_cases h1_2 : n.size < 1
  · have hs1 : (n.size : Int) < 1 := by omega
    refine WL.val (by kernel_rfl) (.bool true) (by go_simp) ?_
    simp only [Act.put, List.setIfInBounds_toArray, List.set_cons_zero, List.set_cons_succ]
    refine WL.val (by kernel_rfl) (.bool true) (by go_simp) ?_
    simp only [Act.put, List.setIfInBounds_toArray, List.set_cons_zero, List.set_cons_succ]
    refine WL.skip (by kernel_rfl) ?_
    simp only [Act.put, List.setIfInBounds_toArray, List.set_cons_zero, List.set_cons_succ]
    refine WL.skip (by kernel_rfl) ?_
    simp only [Act.put, List.setIfInBounds_toArray, List.set_cons_zero, List.set_cons_succ]
    refine WL.skip (by kernel_rfl) ?_
    simp only [Act.put, List.setIfInBounds_toArray, List.set_cons_zero, List.set_cons_succ]
    refine WL.val (by kernel_rfl) (.bool true) (by go_simp) ?_
    simp only [Act.put, List.setIfInBounds_toArray, List.set_cons_zero, List.set_cons_succ]
    refine WL.nil ?_
    refine hK3 _ _ ?_
    refine wp_cond_true rfl ?_
    refine wp_seq_k fun K4 hK4 => ?_
    refine wp_region_list (WL.out ?_)
    refine WL.val (by kernel_rfl) (.bool false) (by go_simp) ?_
    simp only [Act.put, List.setIfInBounds_toArray, List.set_cons_zero, List.set_cons_succ]
    refine WL.nil ?_
    refine hK4 _ _ ?_
    refine wp_ret ?_
    go_ret
    unfold rgt
    first | (rw [decide_eq_false (by omega : ¬ 1 ≤ n.size)]; exact ⟨rfl, rfl⟩) | (rw [decide_eq_false (by omega : ¬ n.size ≤ 32), Bool.and_false]; exact ⟨rfl, rfl⟩)
  · have hs1 : ¬ (n.size : Int) < 1 := by omega
    refine WL.val (by kernel_rfl) (.bool false) (by go_simp) ?_
    simp only [Act.put, List.setIfInBounds_toArray, List.set_cons_zero, List.set_cons_succ]
    refine WL.val (by kernel_rfl) (.bool false) (by go_simp) ?_
    simp only [Act.put, List.setIfInBounds_toArray, List.set_cons_zero, List.set_cons_succ]
    refine WL.val (by kernel_rfl) (.string n) (by go_simp) ?_
    simp only [Act.put, List.setIfInBounds_toArray, List.set_cons_zero, List.set_cons_succ]
    refine WL.val (by kernel_rfl) (.int .i64 (n.size : Int)) (by go_simp) ?_
    simp only [Act.put, List.setIfInBounds_toArray, List.set_cons_zero, List.set_cons_succ]
    by_cases h1_6 : 32 < n.size
    · have hs2 : (32 : Int) < (n.size : Int) := by omega
      refine WL.val (by kernel_rfl) (.bool true) (by go_simp) ?_
      simp only [Act.put, List.setIfInBounds_toArray, List.set_cons_zero, List.set_cons_succ]
      refine WL.val (by kernel_rfl) (.bool true) (by go_simp) ?_
      simp only [Act.put, List.setIfInBounds_toArray, List.set_cons_zero, List.set_cons_succ]
      refine WL.nil ?_
      refine hK3 _ _ ?_
      refine wp_cond_true rfl ?_
      refine wp_seq_k fun K5 hK5 => ?_
      refine wp_region_list (WL.out ?_)
      refine WL.val (by kernel_rfl) (.bool false) (by go_simp) ?_
      simp only [Act.put, List.setIfInBounds_toArray, List.set_cons_zero, List.set_cons_succ]
      refine WL.nil ?_
      refine hK5 _ _ ?_
      refine wp_ret ?_
      go_ret
      unfold rgt
      first | (rw [decide_eq_false (by omega : ¬ 1 ≤ n.size)]; exact ⟨rfl, rfl⟩) | (rw [decide_eq_false (by omega : ¬ n.size ≤ 32), Bool.and_false]; exact ⟨rfl, rfl⟩)
    · have hs2 : ¬ (32 : Int) < (n.size : Int) := by omega
      refine WL.val (by kernel_rfl) (.bool false) (by go_simp) ?_
      simp only [Act.put, List.setIfInBounds_toArray, List.set_cons_zero, List.set_cons_succ]
      refine WL.val (by kernel_rfl) (.bool false) (by go_simp) ?_
      simp only [Act.put, List.setIfInBounds_toArray, List.set_cons_zero, List.set_cons_succ]
      refine WL.nil ?_
      refine hK3 _ _ ?_
      refine wp_cond_false rfl ?_
      refine wp_skip ?_
      refine hK2 _ _ ?_
      refine wp_seq_k fun K6 hK6 => ?_
      refine wp_seq_k fun K7 hK7 => ?_
      refine wp_region_list (WL.out ?_)
      refine WL.val (by kernel_rfl) (.int .i64 0) (by go_simp) ?_
      simp only [Act.put, List.setIfInBounds_toArray, List.set_cons_zero, List.set_cons_succ]
      refine WL.nil ?_
      refine hK7 _ _ ?_
      refine wp_block ?_
      refine wp_loop (fun ac wr => ∃ (t : Nat) (f : Nat → Value), ac = { tmps := #[.string n, undef, f 2, .int .i64 (t : Int), f 4, .string n, .int .i64 (n.size : Int), .bool false, .bool false, .string n, .int .i64 (n.size : Int), .bool false, .bool false, f 13, f 14, f 15, f 16, f 17, f 18, f 19, f 20, f 21, f 22, f 23, f 24, f 25, f 26, f 27, f 28, f 29, f 30, f 31, f 32, f 33, f 34, f 35, f 36, f 37, f 38, f 39], defers := [] } ∧ t ≤ n.size ∧ wr = w ∧ (lst n).all okC = ((lst n).drop t).all okC) (fun a _ => n.size - (intOf (a.tmps.getD 3 undef)).toNat) ⟨0, fun i => [.string n, undef, .bool false, .int .i64 0, undef, .string n, .int .i64 (n.size : Int), .bool false, .bool false, .string n, .int .i64 (n.size : Int), .bool false, .bool false, undef, undef, undef, undef, undef, undef, undef, undef, undef, undef, undef, undef, undef, undef, undef, undef, undef, undef, undef, undef, undef, undef, undef, undef, undef, undef, undef].getD i undef, rfl, by omega, rfl, rfl⟩ ?_
      rintro ac wr ⟨t, f, rfl, ht, rfl, hA⟩
      have JA := Keep.mk hA
      clear hA
      by_cases hlt : t < n.size
      · have hlt' : (t : Int) < (n.size : Int) := by omega
        have hwt : IntKind.i64.wrap ((t : Int) + 1) = (t : Int) + 1 := by rw [IntKind.wrap_i64]; omega
        obtain ⟨c, hc⟩ : ∃ c, Keep (c = (lst n).getD t 0) := ⟨_, ⟨rfl⟩⟩
        have hcv : ((n[t]'hlt).toNat : Int) = c := by rw [hc.out]; exact lst_at n t hlt
        have hnx : Keep (((lst n).drop t).all okC = (okC c && ((lst n).drop (t + 1)).all okC)) := ⟨by rw [List.drop_eq_getElem_cons (by rw [lst_len]; exact hlt), List.all_cons, hc.out, List.getD_eq_getElem?_getD, List.getElem?_eq_getElem (by rw [lst_len]; exact hlt)]; rfl⟩
        refine wp_seq_k fun K8 hK8 => ?_
        refine wp_seq_k fun K9 hK9 => ?_
        refine wp_region_list (WL.out ?_)
        refine WL.val (by kernel_rfl) (.int .i64 (t : Int)) (by go_simp) ?_
        simp only [Act.put, List.setIfInBounds_toArray, List.set_cons_zero, List.set_cons_succ]
        refine WL.val (by kernel_rfl) (.string n) (by go_simp) ?_
        simp only [Act.put, List.setIfInBounds_toArray, List.set_cons_zero, List.set_cons_succ]
        refine WL.val (by kernel_rfl) (.int .i64 (n.size : Int)) (by go_simp) ?_
        simp only [Act.put, List.setIfInBounds_toArray, List.set_cons_zero, List.set_cons_succ]
        refine WL.val (by kernel_rfl) (.bool true) (by go_simp) ?_
        simp only [Act.put, List.setIfInBounds_toArray, List.set_cons_zero, List.set_cons_succ]
        refine WL.nil ?_
        refine hK9 _ _ ?_
        refine wp_cond_true rfl ?_
        refine wp_skip ?_
        refine hK8 _ _ ?_
        refine wp_seq_k fun K10 hK10 => ?_
        refine wp_block ?_
        refine wp_seq_k fun K11 hK11 => ?_
        refine wp_region_list (WL.out ?_)
        refine WL.val (by kernel_rfl) (.string n) (by go_simp) ?_
        simp only [Act.put, List.setIfInBounds_toArray, List.set_cons_zero, List.set_cons_succ]
        refine WL.val (by kernel_rfl) (.int .i64 (t : Int)) (by go_simp) ?_
        simp only [Act.put, List.setIfInBounds_toArray, List.set_cons_zero, List.set_cons_succ]
        refine WL.val (by kernel_rfl) (.int .u8 c) (by go_simp) ?_
        simp only [Act.put, List.setIfInBounds_toArray, List.set_cons_zero, List.set_cons_succ]
        refine WL.val (by kernel_rfl) (.int .u8 c) (by go_simp) ?_
        simp only [Act.put, List.setIfInBounds_toArray, List.set_cons_zero, List.set_cons_succ]
        refine WL.nil ?_
        refine hK11 _ _ ?_
        refine wp_seq_k fun K12 hK12 => ?_
        refine wp_region_list (WL.out ?_)
        refine WL.val (by kernel_rfl) (.int .u8 c) (by go_simp) ?_
        simp only [Act.put, List.setIfInBounds_toArray, List.set_cons_zero, List.set_cons_succ]
        by_cases h7_1 : c < 97
        · skip
          refine WL.val (by kernel_rfl) (.bool true) (by go_simp) ?_
          simp only [Act.put, List.setIfInBounds_toArray, List.set_cons_zero, List.set_cons_succ]
          refine WL.val (by kernel_rfl) (.bool true) (by go_simp) ?_
          simp only [Act.put, List.setIfInBounds_toArray, List.set_cons_zero, List.set_cons_succ]
          refine WL.skip (by kernel_rfl) ?_
          simp only [Act.put, List.setIfInBounds_toArray, List.set_cons_zero, List.set_cons_succ]
          refine WL.skip (by kernel_rfl) ?_
          simp only [Act.put, List.setIfInBounds_toArray, List.set_cons_zero, List.set_cons_succ]
          refine WL.val (by kernel_rfl) (.bool true) (by go_simp) ?_
          simp only [Act.put, List.setIfInBounds_toArray, List.set_cons_zero, List.set_cons_succ]
          refine WL.val (by kernel_rfl) (.bool true) (by go_simp) ?_
          simp only [Act.put, List.setIfInBounds_toArray, List.set_cons_zero, List.set_cons_succ]
          refine WL.val (by kernel_rfl) (.int .u8 c) (by go_simp) ?_
          simp only [Act.put, List.setIfInBounds_toArray, List.set_cons_zero, List.set_cons_succ]
          by_cases h7_8 : c < 48
          · skip
            refine WL.val (by kernel_rfl) (.bool true) (by go_simp) ?_
            simp only [Act.put, List.setIfInBounds_toArray, List.set_cons_zero, List.set_cons_succ]
            refine WL.val (by kernel_rfl) (.bool true) (by go_simp) ?_
            simp only [Act.put, List.setIfInBounds_toArray, List.set_cons_zero, List.set_cons_succ]
            refine WL.skip (by kernel_rfl) ?_
            simp only [Act.put, List.setIfInBounds_toArray, List.set_cons_zero, List.set_cons_succ]
            refine WL.skip (by kernel_rfl) ?_
            simp only [Act.put, List.setIfInBounds_toArray, List.set_cons_zero, List.set_cons_succ]
            refine WL.val (by kernel_rfl) (.bool true) (by go_simp) ?_
            simp only [Act.put, List.setIfInBounds_toArray, List.set_cons_zero, List.set_cons_succ]
            refine WL.val (by kernel_rfl) (.bool true) (by go_simp) ?_
            simp only [Act.put, List.setIfInBounds_toArray, List.set_cons_zero, List.set_cons_succ]
            refine WL.val (by kernel_rfl) (.bool true) (by go_simp) ?_
            simp only [Act.put, List.setIfInBounds_toArray, List.set_cons_zero, List.set_cons_succ]
            refine WL.val (by kernel_rfl) (.int .u8 c) (by go_simp) ?_
            simp only [Act.put, List.setIfInBounds_toArray, List.set_cons_zero, List.set_cons_succ]
            by_cases h7_16 : c = 46
            · skip
              refine WL.val (by kernel_rfl) (.bool false) (by go_simp) ?_
              simp only [Act.put, List.setIfInBounds_toArray, List.set_cons_zero, List.set_cons_succ]
              refine WL.val (by kernel_rfl) (.bool false) (by go_simp) ?_
              simp only [Act.put, List.setIfInBounds_toArray, List.set_cons_zero, List.set_cons_succ]
              refine WL.nil ?_
              refine hK12 _ _ ?_
              refine wp_cond_false rfl ?_
              refine wp_skip ?_
              refine hK10 _ _ ?_
              refine wp_region_list (WL.out ?_)
              refine WL.val (by kernel_rfl) (.int .i64 (t : Int)) (by go_simp) ?_
              simp only [Act.put, List.setIfInBounds_toArray, List.set_cons_zero, List.set_cons_succ]
              refine WL.val (by kernel_rfl) (.int .i64 ((t : Int) + 1)) (by go_simp) ?_
              simp only [Act.put, List.setIfInBounds_toArray, List.set_cons_zero, List.set_cons_succ]
              refine WL.val (by kernel_rfl) (.int .i64 ((t : Int) + 1)) (by go_simp) ?_
              simp only [Act.put, List.setIfInBounds_toArray, List.set_cons_zero, List.set_cons_succ]
              refine WL.nil ?_
              have hk : okC c = true := by unfold okC; simp; omega
              have h := JA.out
              rw [hnx.out, hk, Bool.true_and] at h
              refine ⟨⟨t + 1, fun i => [.string n, undef, f 2, .int .i64 ((t : Int) + 1), .int .u8 c, .string n, .int .i64 (n.size : Int), .bool false, .bool false, .string n, .int .i64 (n.size : Int), .bool false, .bool false, .int .i64 (t : Int), .string n, .int .i64 (n.size : Int), .bool true, .int .i64 (t : Int), .int .i64 ((t : Int) + 1), .string n, .int .i64 (t : Int), .int .u8 c, .int .u8 c, .bool true, .bool true, undef, undef, .bool true, .bool true, .int .u8 c, .bool true, .bool true, undef, undef, .bool true, .bool true, .bool true, .int .u8 c, .bool false, .bool false].getD i undef, rfl, by omega, rfl, h⟩, ?_⟩
              simp only [intOf]; show n.size - ((t : Int) + 1).toNat < n.size - ((t : Int)).toNat; omega
            · skip
              refine WL.val (by kernel_rfl) (.bool true) (by go_simp) ?_
              simp only [Act.put, List.setIfInBounds_toArray, List.set_cons_zero, List.set_cons_succ]
              refine WL.val (by kernel_rfl) (.bool true) (by go_simp) ?_
              simp only [Act.put, List.setIfInBounds_toArray, List.set_cons_zero, List.set_cons_succ]
              refine WL.nil ?_
              refine hK12 _ _ ?_
              refine wp_cond_true rfl ?_
              refine wp_seq_k fun K13 hK13 => ?_
              refine wp_region_list (WL.out ?_)
              refine WL.val (by kernel_rfl) (.bool false) (by go_simp) ?_
              simp only [Act.put, List.setIfInBounds_toArray, List.set_cons_zero, List.set_cons_succ]
              refine WL.nil ?_
              refine hK13 _ _ ?_
              refine wp_ret ?_
              go_ret
              have hk : okC c = false := by unfold okC; simp; omega
              have h := JA.out
              rw [hnx.out, hk, Bool.false_and] at h
              unfold rgt
              rw [h, Bool.and_false]
              exact ⟨rfl, rfl⟩
          · skip
            refine WL.val (by kernel_rfl) (.bool false) (by go_simp) ?_
            simp only [Act.put, List.setIfInBounds_toArray, List.set_cons_zero, List.set_cons_succ]
            refine WL.val (by kernel_rfl) (.bool false) (by go_simp) ?_
            simp only [Act.put, List.setIfInBounds_toArray, List.set_cons_zero, List.set_cons_succ]
            refine WL.val (by kernel_rfl) (.int .u8 c) (by go_simp) ?_
            simp only [Act.put, List.setIfInBounds_toArray, List.set_cons_zero, List.set_cons_succ]
            by_cases h7_11 : 57 < c
            · skip
              refine WL.val (by kernel_rfl) (.bool true) (by go_simp) ?_
              simp only [Act.put, List.setIfInBounds_toArray, List.set_cons_zero, List.set_cons_succ]
              refine WL.val (by kernel_rfl) (.bool true) (by go_simp) ?_
              simp only [Act.put, List.setIfInBounds_toArray, List.set_cons_zero, List.set_cons_succ]
              refine WL.val (by kernel_rfl) (.bool true) (by go_simp) ?_
              simp only [Act.put, List.setIfInBounds_toArray, List.set_cons_zero, List.set_cons_succ]
              refine WL.val (by kernel_rfl) (.bool true) (by go_simp) ?_
              simp only [Act.put, List.setIfInBounds_toArray, List.set_cons_zero, List.set_cons_succ]
              refine WL.val (by kernel_rfl) (.int .u8 c) (by go_simp) ?_
              simp only [Act.put, List.setIfInBounds_toArray, List.set_cons_zero, List.set_cons_succ]
              by_cases h7_16 : c = 46
              · skip
                refine WL.val (by kernel_rfl) (.bool false) (by go_simp) ?_
                simp only [Act.put, List.setIfInBounds_toArray, List.set_cons_zero, List.set_cons_succ]
                refine WL.val (by kernel_rfl) (.bool false) (by go_simp) ?_
                simp only [Act.put, List.setIfInBounds_toArray, List.set_cons_zero, List.set_cons_succ]
                refine WL.nil ?_
                refine hK12 _ _ ?_
                refine wp_cond_false rfl ?_
                refine wp_skip ?_
                refine hK10 _ _ ?_
                refine wp_region_list (WL.out ?_)
                refine WL.val (by kernel_rfl) (.int .i64 (t : Int)) (by go_simp) ?_
                simp only [Act.put, List.setIfInBounds_toArray, List.set_cons_zero, List.set_cons_succ]
                refine WL.val (by kernel_rfl) (.int .i64 ((t : Int) + 1)) (by go_simp) ?_
                simp only [Act.put, List.setIfInBounds_toArray, List.set_cons_zero, List.set_cons_succ]
                refine WL.val (by kernel_rfl) (.int .i64 ((t : Int) + 1)) (by go_simp) ?_
                simp only [Act.put, List.setIfInBounds_toArray, List.set_cons_zero, List.set_cons_succ]
                refine WL.nil ?_
                have hk : okC c = true := by unfold okC; simp; omega
                have h := JA.out
                rw [hnx.out, hk, Bool.true_and] at h
                refine ⟨⟨t + 1, fun i => [.string n, undef, f 2, .int .i64 ((t : Int) + 1), .int .u8 c, .string n, .int .i64 (n.size : Int), .bool false, .bool false, .string n, .int .i64 (n.size : Int), .bool false, .bool false, .int .i64 (t : Int), .string n, .int .i64 (n.size : Int), .bool true, .int .i64 (t : Int), .int .i64 ((t : Int) + 1), .string n, .int .i64 (t : Int), .int .u8 c, .int .u8 c, .bool true, .bool true, undef, undef, .bool true, .bool true, .int .u8 c, .bool false, .bool false, .int .u8 c, .bool true, .bool true, .bool true, .bool true, .int .u8 c, .bool false, .bool false].getD i undef, rfl, by omega, rfl, h⟩, ?_⟩
                simp only [intOf]; show n.size - ((t : Int) + 1).toNat < n.size - ((t : Int)).toNat; omega
              · skip
                refine WL.val (by kernel_rfl) (.bool true) (by go_simp) ?_
                simp only [Act.put, List.setIfInBounds_toArray, List.set_cons_zero, List.set_cons_succ]
                refine WL.val (by kernel_rfl) (.bool true) (by go_simp) ?_
                simp only [Act.put, List.setIfInBounds_toArray, List.set_cons_zero, List.set_cons_succ]
                refine WL.nil ?_
                refine hK12 _ _ ?_
                refine wp_cond_true rfl ?_
                refine wp_seq_k fun K14 hK14 => ?_
                refine wp_region_list (WL.out ?_)
                refine WL.val (by kernel_rfl) (.bool false) (by go_simp) ?_
                simp only [Act.put, List.setIfInBounds_toArray, List.set_cons_zero, List.set_cons_succ]
                refine WL.nil ?_
                refine hK14 _ _ ?_
                refine wp_ret ?_
                go_ret
                have hk : okC c = false := by unfold okC; simp; omega
                have h := JA.out
                rw [hnx.out, hk, Bool.false_and] at h
                unfold rgt
                rw [h, Bool.and_false]
                exact ⟨rfl, rfl⟩
            · skip
              refine WL.val (by kernel_rfl) (.bool false) (by go_simp) ?_
              simp only [Act.put, List.setIfInBounds_toArray, List.set_cons_zero, List.set_cons_succ]
              refine WL.val (by kernel_rfl) (.bool false) (by go_simp) ?_
              simp only [Act.put, List.setIfInBounds_toArray, List.set_cons_zero, List.set_cons_succ]
              refine WL.val (by kernel_rfl) (.bool false) (by go_simp) ?_
              simp only [Act.put, List.setIfInBounds_toArray, List.set_cons_zero, List.set_cons_succ]
              refine WL.val (by kernel_rfl) (.bool false) (by go_simp) ?_
              simp only [Act.put, List.setIfInBounds_toArray, List.set_cons_zero, List.set_cons_succ]
              refine WL.skip (by kernel_rfl) ?_
              simp only [Act.put, List.setIfInBounds_toArray, List.set_cons_zero, List.set_cons_succ]
              refine WL.skip (by kernel_rfl) ?_
              simp only [Act.put, List.setIfInBounds_toArray, List.set_cons_zero, List.set_cons_succ]
              refine WL.val (by kernel_rfl) (.bool false) (by go_simp) ?_
              simp only [Act.put, List.setIfInBounds_toArray, List.set_cons_zero, List.set_cons_succ]
              refine WL.nil ?_
              refine hK12 _ _ ?_
              refine wp_cond_false rfl ?_
              refine wp_skip ?_
              refine hK10 _ _ ?_
              refine wp_region_list (WL.out ?_)
              refine WL.val (by kernel_rfl) (.int .i64 (t : Int)) (by go_simp) ?_
              simp only [Act.put, List.setIfInBounds_toArray, List.set_cons_zero, List.set_cons_succ]
              refine WL.val (by kernel_rfl) (.int .i64 ((t : Int) + 1)) (by go_simp) ?_
              simp only [Act.put, List.setIfInBounds_toArray, List.set_cons_zero, List.set_cons_succ]
              refine WL.val (by kernel_rfl) (.int .i64 ((t : Int) + 1)) (by go_simp) ?_
              simp only [Act.put, List.setIfInBounds_toArray, List.set_cons_zero, List.set_cons_succ]
              refine WL.nil ?_
              have hk : okC c = true := by unfold okC; simp; omega
              have h := JA.out
              rw [hnx.out, hk, Bool.true_and] at h
              refine ⟨⟨t + 1, fun i => [.string n, undef, f 2, .int .i64 ((t : Int) + 1), .int .u8 c, .string n, .int .i64 (n.size : Int), .bool false, .bool false, .string n, .int .i64 (n.size : Int), .bool false, .bool false, .int .i64 (t : Int), .string n, .int .i64 (n.size : Int), .bool true, .int .i64 (t : Int), .int .i64 ((t : Int) + 1), .string n, .int .i64 (t : Int), .int .u8 c, .int .u8 c, .bool true, .bool true, undef, undef, .bool true, .bool true, .int .u8 c, .bool false, .bool false, .int .u8 c, .bool false, .bool false, .bool false, .bool false, undef, undef, .bool false].getD i undef, rfl, by omega, rfl, h⟩, ?_⟩
              simp only [intOf]; show n.size - ((t : Int) + 1).toNat < n.size - ((t : Int)).toNat; omega
        · skip
          refine WL.val (by kernel_rfl) (.bool false) (by go_simp) ?_
          simp only [Act.put, List.setIfInBounds_toArray, List.set_cons_zero, List.set_cons_succ]
          refine WL.val (by kernel_rfl) (.bool false) (by go_simp) ?_
          simp only [Act.put, List.setIfInBounds_toArray, List.set_cons_zero, List.set_cons_succ]
          refine WL.val (by kernel_rfl) (.int .u8 c) (by go_simp) ?_
          simp only [Act.put, List.setIfInBounds_toArray, List.set_cons_zero, List.set_cons_succ]
          by_cases h7_4 : 122 < c
          · skip
            refine WL.val (by kernel_rfl) (.bool true) (by go_simp) ?_
            simp only [Act.put, List.setIfInBounds_toArray, List.set_cons_zero, List.set_cons_succ]
            refine WL.val (by kernel_rfl) (.bool true) (by go_simp) ?_
            simp only [Act.put, List.setIfInBounds_toArray, List.set_cons_zero, List.set_cons_succ]
            refine WL.val (by kernel_rfl) (.bool true) (by go_simp) ?_
            simp only [Act.put, List.setIfInBounds_toArray, List.set_cons_zero, List.set_cons_succ]
            refine WL.val (by kernel_rfl) (.int .u8 c) (by go_simp) ?_
            simp only [Act.put, List.setIfInBounds_toArray, List.set_cons_zero, List.set_cons_succ]
            by_cases h7_8 : c < 48
            · skip
              refine WL.val (by kernel_rfl) (.bool true) (by go_simp) ?_
              simp only [Act.put, List.setIfInBounds_toArray, List.set_cons_zero, List.set_cons_succ]
              refine WL.val (by kernel_rfl) (.bool true) (by go_simp) ?_
              simp only [Act.put, List.setIfInBounds_toArray, List.set_cons_zero, List.set_cons_succ]
              refine WL.skip (by kernel_rfl) ?_
              simp only [Act.put, List.setIfInBounds_toArray, List.set_cons_zero, List.set_cons_succ]
              refine WL.skip (by kernel_rfl) ?_
              simp only [Act.put, List.setIfInBounds_toArray, List.set_cons_zero, List.set_cons_succ]
              refine WL.val (by kernel_rfl) (.bool true) (by go_simp) ?_
              simp only [Act.put, List.setIfInBounds_toArray, List.set_cons_zero, List.set_cons_succ]
              refine WL.val (by kernel_rfl) (.bool true) (by go_simp) ?_
              simp only [Act.put, List.setIfInBounds_toArray, List.set_cons_zero, List.set_cons_succ]
              refine WL.val (by kernel_rfl) (.bool true) (by go_simp) ?_
              simp only [Act.put, List.setIfInBounds_toArray, List.set_cons_zero, List.set_cons_succ]
              refine WL.val (by kernel_rfl) (.int .u8 c) (by go_simp) ?_
              simp only [Act.put, List.setIfInBounds_toArray, List.set_cons_zero, List.set_cons_succ]
              by_cases h7_16 : c = 46
              · skip
                refine WL.val (by kernel_rfl) (.bool false) (by go_simp) ?_
                simp only [Act.put, List.setIfInBounds_toArray, List.set_cons_zero, List.set_cons_succ]
                refine WL.val (by kernel_rfl) (.bool false) (by go_simp) ?_
                simp only [Act.put, List.setIfInBounds_toArray, List.set_cons_zero, List.set_cons_succ]
                refine WL.nil ?_
                refine hK12 _ _ ?_
                refine wp_cond_false rfl ?_
                refine wp_skip ?_
                refine hK10 _ _ ?_
                refine wp_region_list (WL.out ?_)
                refine WL.val (by kernel_rfl) (.int .i64 (t : Int)) (by go_simp) ?_
                simp only [Act.put, List.setIfInBounds_toArray, List.set_cons_zero, List.set_cons_succ]
                refine WL.val (by kernel_rfl) (.int .i64 ((t : Int) + 1)) (by go_simp) ?_
                simp only [Act.put, List.setIfInBounds_toArray, List.set_cons_zero, List.set_cons_succ]
                refine WL.val (by kernel_rfl) (.int .i64 ((t : Int) + 1)) (by go_simp) ?_
                simp only [Act.put, List.setIfInBounds_toArray, List.set_cons_zero, List.set_cons_succ]
                refine WL.nil ?_
                have hk : okC c = true := by unfold okC; simp; omega
                have h := JA.out
                rw [hnx.out, hk, Bool.true_and] at h
                refine ⟨⟨t + 1, fun i => [.string n, undef, f 2, .int .i64 ((t : Int) + 1), .int .u8 c, .string n, .int .i64 (n.size : Int), .bool false, .bool false, .string n, .int .i64 (n.size : Int), .bool false, .bool false, .int .i64 (t : Int), .string n, .int .i64 (n.size : Int), .bool true, .int .i64 (t : Int), .int .i64 ((t : Int) + 1), .string n, .int .i64 (t : Int), .int .u8 c, .int .u8 c, .bool false, .bool false, .int .u8 c, .bool true, .bool true, .bool true, .int .u8 c, .bool true, .bool true, undef, undef, .bool true, .bool true, .bool true, .int .u8 c, .bool false, .bool false].getD i undef, rfl, by omega, rfl, h⟩, ?_⟩
                simp only [intOf]; show n.size - ((t : Int) + 1).toNat < n.size - ((t : Int)).toNat; omega
              · skip
                refine WL.val (by kernel_rfl) (.bool true) (by go_simp) ?_
                simp only [Act.put, List.setIfInBounds_toArray, List.set_cons_zero, List.set_cons_succ]
                refine WL.val (by kernel_rfl) (.bool true) (by go_simp) ?_
                simp only [Act.put, List.setIfInBounds_toArray, List.set_cons_zero, List.set_cons_succ]
                refine WL.nil ?_
                refine hK12 _ _ ?_
                refine wp_cond_true rfl ?_
                refine wp_seq_k fun K15 hK15 => ?_
                refine wp_region_list (WL.out ?_)
                refine WL.val (by kernel_rfl) (.bool false) (by go_simp) ?_
                simp only [Act.put, List.setIfInBounds_toArray, List.set_cons_zero, List.set_cons_succ]
                refine WL.nil ?_
                refine hK15 _ _ ?_
                refine wp_ret ?_
                go_ret
                have hk : okC c = false := by unfold okC; simp; omega
                have h := JA.out
                rw [hnx.out, hk, Bool.false_and] at h
                unfold rgt
                rw [h, Bool.and_false]
                exact ⟨rfl, rfl⟩
            · skip
              refine WL.val (by kernel_rfl) (.bool false) (by go_simp) ?_
              simp only [Act.put, List.setIfInBounds_toArray, List.set_cons_zero, List.set_cons_succ]
              refine WL.val (by kernel_rfl) (.bool false) (by go_simp) ?_
              simp only [Act.put, List.setIfInBounds_toArray, List.set_cons_zero, List.set_cons_succ]
              refine WL.val (by kernel_rfl) (.int .u8 c) (by go_simp) ?_
              simp only [Act.put, List.setIfInBounds_toArray, List.set_cons_zero, List.set_cons_succ]
              by_cases h7_11 : 57 < c
              · skip
                refine WL.val (by kernel_rfl) (.bool true) (by go_simp) ?_
                simp only [Act.put, List.setIfInBounds_toArray, List.set_cons_zero, List.set_cons_succ]
                refine WL.val (by kernel_rfl) (.bool true) (by go_simp) ?_
                simp only [Act.put, List.setIfInBounds_toArray, List.set_cons_zero, List.set_cons_succ]
                refine WL.val (by kernel_rfl) (.bool true) (by go_simp) ?_
                simp only [Act.put, List.setIfInBounds_toArray, List.set_cons_zero, List.set_cons_succ]
                refine WL.val (by kernel_rfl) (.bool true) (by go_simp) ?_
                simp only [Act.put, List.setIfInBounds_toArray, List.set_cons_zero, List.set_cons_succ]
                refine WL.val (by kernel_rfl) (.int .u8 c) (by go_simp) ?_
                simp only [Act.put, List.setIfInBounds_toArray, List.set_cons_zero, List.set_cons_succ]
                by_cases h7_16 : c = 46
                · skip
                  refine WL.val (by kernel_rfl) (.bool false) (by go_simp) ?_
                  simp only [Act.put, List.setIfInBounds_toArray, List.set_cons_zero, List.set_cons_succ]
                  refine WL.val (by kernel_rfl) (.bool false) (by go_simp) ?_
                  simp only [Act.put, List.setIfInBounds_toArray, List.set_cons_zero, List.set_cons_succ]
                  refine WL.nil ?_
                  refine hK12 _ _ ?_
                  refine wp_cond_false rfl ?_
                  refine wp_skip ?_
                  refine hK10 _ _ ?_
                  refine wp_region_list (WL.out ?_)
                  refine WL.val (by kernel_rfl) (.int .i64 (t : Int)) (by go_simp) ?_
                  simp only [Act.put, List.setIfInBounds_toArray, List.set_cons_zero, List.set_cons_succ]
                  refine WL.val (by kernel_rfl) (.int .i64 ((t : Int) + 1)) (by go_simp) ?_
                  simp only [Act.put, List.setIfInBounds_toArray, List.set_cons_zero, List.set_cons_succ]
                  refine WL.val (by kernel_rfl) (.int .i64 ((t : Int) + 1)) (by go_simp) ?_
                  simp only [Act.put, List.setIfInBounds_toArray, List.set_cons_zero, List.set_cons_succ]
                  refine WL.nil ?_
                  have hk : okC c = true := by unfold okC; simp; omega
                  have h := JA.out
                  rw [hnx.out, hk, Bool.true_and] at h
                  refine ⟨⟨t + 1, fun i => [.string n, undef, f 2, .int .i64 ((t : Int) + 1), .int .u8 c, .string n, .int .i64 (n.size : Int), .bool false, .bool false, .string n, .int .i64 (n.size : Int), .bool false, .bool false, .int .i64 (t : Int), .string n, .int .i64 (n.size : Int), .bool true, .int .i64 (t : Int), .int .i64 ((t : Int) + 1), .string n, .int .i64 (t : Int), .int .u8 c, .int .u8 c, .bool false, .bool false, .int .u8 c, .bool true, .bool true, .bool true, .int .u8 c, .bool false, .bool false, .int .u8 c, .bool true, .bool true, .bool true, .bool true, .int .u8 c, .bool false, .bool false].getD i undef, rfl, by omega, rfl, h⟩, ?_⟩
                  simp only [intOf]; show n.size - ((t : Int) + 1).toNat < n.size - ((t : Int)).toNat; omega
                · skip
                  refine WL.val (by kernel_rfl) (.bool true) (by go_simp) ?_
                  simp only [Act.put, List.setIfInBounds_toArray, List.set_cons_zero, List.set_cons_succ]
                  refine WL.val (by kernel_rfl) (.bool true) (by go_simp) ?_
                  simp only [Act.put, List.setIfInBounds_toArray, List.set_cons_zero, List.set_cons_succ]
                  refine WL.nil ?_
                  refine hK12 _ _ ?_
                  refine wp_cond_true rfl ?_
                  refine wp_seq_k fun K16 hK16 => ?_
                  refine wp_region_list (WL.out ?_)
                  refine WL.val (by kernel_rfl) (.bool false) (by go_simp) ?_
                  simp only [Act.put, List.setIfInBounds_toArray, List.set_cons_zero, List.set_cons_succ]
                  refine WL.nil ?_
                  refine hK16 _ _ ?_
                  refine wp_ret ?_
                  go_ret
                  have hk : okC c = false := by unfold okC; simp; omega
                  have h := JA.out
                  rw [hnx.out, hk, Bool.false_and] at h
                  unfold rgt
                  rw [h, Bool.and_false]
                  exact ⟨rfl, rfl⟩
              · skip
                refine WL.val (by kernel_rfl) (.bool false) (by go_simp) ?_
                simp only [Act.put, List.setIfInBounds_toArray, List.set_cons_zero, List.set_cons_succ]
                refine WL.val (by kernel_rfl) (.bool false) (by go_simp) ?_
                simp only [Act.put, List.setIfInBounds_toArray, List.set_cons_zero, List.set_cons_succ]
                refine WL.val (by kernel_rfl) (.bool false) (by go_simp) ?_
                simp only [Act.put, List.setIfInBounds_toArray, List.set_cons_zero, List.set_cons_succ]
                refine WL.val (by kernel_rfl) (.bool false) (by go_simp) ?_
                simp only [Act.put, List.setIfInBounds_toArray, List.set_cons_zero, List.set_cons_succ]
                refine WL.skip (by kernel_rfl) ?_
                simp only [Act.put, List.setIfInBounds_toArray, List.set_cons_zero, List.set_cons_succ]
                refine WL.skip (by kernel_rfl) ?_
                simp only [Act.put, List.setIfInBounds_toArray, List.set_cons_zero, List.set_cons_succ]
                refine WL.val (by kernel_rfl) (.bool false) (by go_simp) ?_
                simp only [Act.put, List.setIfInBounds_toArray, List.set_cons_zero, List.set_cons_succ]
                refine WL.nil ?_
                refine hK12 _ _ ?_
                refine wp_cond_false rfl ?_
                refine wp_skip ?_
                refine hK10 _ _ ?_
                refine wp_region_list (WL.out ?_)
                refine WL.val (by kernel_rfl) (.int .i64 (t : Int)) (by go_simp) ?_
                simp only [Act.put, List.setIfInBounds_toArray, List.set_cons_zero, List.set_cons_succ]
                refine WL.val (by kernel_rfl) (.int .i64 ((t : Int) + 1)) (by go_simp) ?_
                simp only [Act.put, List.setIfInBounds_toArray, List.set_cons_zero, List.set_cons_succ]
                refine WL.val (by kernel_rfl) (.int .i64 ((t : Int) + 1)) (by go_simp) ?_
                simp only [Act.put, List.setIfInBounds_toArray, List.set_cons_zero, List.set_cons_succ]
                refine WL.nil ?_
                have hk : okC c = true := by unfold okC; simp; omega
                have h := JA.out
                rw [hnx.out, hk, Bool.true_and] at h
                refine ⟨⟨t + 1, fun i => [.string n, undef, f 2, .int .i64 ((t : Int) + 1), .int .u8 c, .string n, .int .i64 (n.size : Int), .bool false, .bool false, .string n, .int .i64 (n.size : Int), .bool false, .bool false, .int .i64 (t : Int), .string n, .int .i64 (n.size : Int), .bool true, .int .i64 (t : Int), .int .i64 ((t : Int) + 1), .string n, .int .i64 (t : Int), .int .u8 c, .int .u8 c, .bool false, .bool false, .int .u8 c, .bool true, .bool true, .bool true, .int .u8 c, .bool false, .bool false, .int .u8 c, .bool false, .bool false, .bool false, .bool false, undef, undef, .bool false].getD i undef, rfl, by omega, rfl, h⟩, ?_⟩
                simp only [intOf]; show n.size - ((t : Int) + 1).toNat < n.size - ((t : Int)).toNat; omega
          · skip
            refine WL.val (by kernel_rfl) (.bool false) (by go_simp) ?_
            simp only [Act.put, List.setIfInBounds_toArray, List.set_cons_zero, List.set_cons_succ]
            refine WL.val (by kernel_rfl) (.bool false) (by go_simp) ?_
            simp only [Act.put, List.setIfInBounds_toArray, List.set_cons_zero, List.set_cons_succ]
            refine WL.val (by kernel_rfl) (.bool false) (by go_simp) ?_
            simp only [Act.put, List.setIfInBounds_toArray, List.set_cons_zero, List.set_cons_succ]
            refine WL.skip (by kernel_rfl) ?_
            simp only [Act.put, List.setIfInBounds_toArray, List.set_cons_zero, List.set_cons_succ]
            refine WL.skip (by kernel_rfl) ?_
            simp only [Act.put, List.setIfInBounds_toArray, List.set_cons_zero, List.set_cons_succ]
            refine WL.skip (by kernel_rfl) ?_
            simp only [Act.put, List.setIfInBounds_toArray, List.set_cons_zero, List.set_cons_succ]
            refine WL.skip (by kernel_rfl) ?_
            simp only [Act.put, List.setIfInBounds_toArray, List.set_cons_zero, List.set_cons_succ]
            refine WL.skip (by kernel_rfl) ?_
            simp only [Act.put, List.setIfInBounds_toArray, List.set_cons_zero, List.set_cons_succ]
            refine WL.skip (by kernel_rfl) ?_
            simp only [Act.put, List.setIfInBounds_toArray, List.set_cons_zero, List.set_cons_succ]
            refine WL.val (by kernel_rfl) (.bool false) (by go_simp) ?_
            simp only [Act.put, List.setIfInBounds_toArray, List.set_cons_zero, List.set_cons_succ]
            refine WL.val (by kernel_rfl) (.bool false) (by go_simp) ?_
            simp only [Act.put, List.setIfInBounds_toArray, List.set_cons_zero, List.set_cons_succ]
            refine WL.skip (by kernel_rfl) ?_
            simp only [Act.put, List.setIfInBounds_toArray, List.set_cons_zero, List.set_cons_succ]
            refine WL.skip (by kernel_rfl) ?_
            simp only [Act.put, List.setIfInBounds_toArray, List.set_cons_zero, List.set_cons_succ]
            refine WL.val (by kernel_rfl) (.bool false) (by go_simp) ?_
            simp only [Act.put, List.setIfInBounds_toArray, List.set_cons_zero, List.set_cons_succ]
            refine WL.nil ?_
            refine hK12 _ _ ?_
            refine wp_cond_false rfl ?_
            refine wp_skip ?_
            refine hK10 _ _ ?_
            refine wp_region_list (WL.out ?_)
            refine WL.val (by kernel_rfl) (.int .i64 (t : Int)) (by go_simp) ?_
            simp only [Act.put, List.setIfInBounds_toArray, List.set_cons_zero, List.set_cons_succ]
            refine WL.val (by kernel_rfl) (.int .i64 ((t : Int) + 1)) (by go_simp) ?_
            simp only [Act.put, List.setIfInBounds_toArray, List.set_cons_zero, List.set_cons_succ]
            refine WL.val (by kernel_rfl) (.int .i64 ((t : Int) + 1)) (by go_simp) ?_
            simp only [Act.put, List.setIfInBounds_toArray, List.set_cons_zero, List.set_cons_succ]
            refine WL.nil ?_
            have hk : okC c = true := by unfold okC; simp; omega
            have h := JA.out
            rw [hnx.out, hk, Bool.true_and] at h
            refine ⟨⟨t + 1, fun i => [.string n, undef, f 2, .int .i64 ((t : Int) + 1), .int .u8 c, .string n, .int .i64 (n.size : Int), .bool false, .bool false, .string n, .int .i64 (n.size : Int), .bool false, .bool false, .int .i64 (t : Int), .string n, .int .i64 (n.size : Int), .bool true, .int .i64 (t : Int), .int .i64 ((t : Int) + 1), .string n, .int .i64 (t : Int), .int .u8 c, .int .u8 c, .bool false, .bool false, .int .u8 c, .bool false, .bool false, .bool false, undef, undef, undef, undef, undef, undef, .bool false, .bool false, undef, undef, .bool false].getD i undef, rfl, by omega, rfl, h⟩, ?_⟩
            simp only [intOf]; show n.size - ((t : Int) + 1).toNat < n.size - ((t : Int)).toNat; omega
      · have hlt' : ¬ (t : Int) < (n.size : Int) := by omega
        refine wp_seq_k fun K17 hK17 => ?_
        refine wp_seq_k fun K18 hK18 => ?_
        refine wp_region_list (WL.out ?_)
        refine WL.val (by kernel_rfl) (.int .i64 (t : Int)) (by go_simp) ?_
        simp only [Act.put, List.setIfInBounds_toArray, List.set_cons_zero, List.set_cons_succ]
        refine WL.val (by kernel_rfl) (.string n) (by go_simp) ?_
        simp only [Act.put, List.setIfInBounds_toArray, List.set_cons_zero, List.set_cons_succ]
        refine WL.val (by kernel_rfl) (.int .i64 (n.size : Int)) (by go_simp) ?_
        simp only [Act.put, List.setIfInBounds_toArray, List.set_cons_zero, List.set_cons_succ]
        refine WL.val (by kernel_rfl) (.bool false) (by go_simp) ?_
        simp only [Act.put, List.setIfInBounds_toArray, List.set_cons_zero, List.set_cons_succ]
        refine WL.nil ?_
        refine hK18 _ _ ?_
        refine wp_cond_false rfl ?_
        refine wp_exit ?_
        refine hK6 _ _ ?_
        refine wp_seq_k fun K19 hK19 => ?_
        refine wp_region_list (WL.out ?_)
        refine WL.val (by kernel_rfl) (.bool true) (by go_simp) ?_
        simp only [Act.put, List.setIfInBounds_toArray, List.set_cons_zero, List.set_cons_succ]
        refine WL.nil ?_
        refine hK19 _ _ ?_
        refine wp_ret ?_
        go_ret
        have h := JA.out
        rw [List.drop_eq_nil_of_le (by rw [lst_len]; omega)] at h
        unfold rgt
        rw [h, decide_eq_true (by omega), decide_eq_true (by omega)]
        exact ⟨rfl, rfl⟩
/-- A file's bytes are safe. -/
def PF.sync (f : PF) : PF := { f with sf := (f.bs.length : Int) }
def DV.sync (D : DV) (i : Nat) : DV := { D with fs := D.fs.modify i PF.sync }
theorem FcsAt.sync {w w' : World} {cs : List FC} {fs : List PF} (h : FcsAt w cs fs) {i : Nat} {x : FC} {f : PF} (hx : cs[i]? = some x) (hf : fs[i]? = some f) (hg : ∀ y l, Own w y l → Own w' y l) : FcsAt w' (cs.set i { x with sf := (f.bs.length : Int) }) (fs.modify i PF.sync) := by
  have hi := (List.getElem?_eq_some_iff.1 hx).1
  refine ⟨by rw [List.length_set, List.length_modify]; exact h.len, fun j y g hy hg' => ?_, fun j k y z hy hz hne b hb => ?_⟩
  · rw [List.getElem?_modify] at hg'
    by_cases hij : i = j
    · subst hij
      rw [List.getElem?_set_self hi] at hy
      rw [hf] at hg'
      simp at hy hg'
      subst hy hg'
      have := h.each i x f hx hf
      exact ⟨this.1, rfl, hg _ _ this.2.2⟩
    · rw [List.getElem?_set_ne hij] at hy
      simp only [if_neg hij] at hg'
      simp at hg'
      have := h.each j y g hy hg'
      exact ⟨this.1, this.2.1, hg _ _ this.2.2⟩
  · have hs : ∀ (m : Nat) (u : FC), (cs.set i { x with sf := (f.bs.length : Int) })[m]? = some u → ∃ u', cs[m]? = some u' ∧ u'.b = u.b := fun m u hu => by
      by_cases hm : i = m
      · subst hm
        rw [List.getElem?_set_self hi] at hu
        simp at hu
        exact ⟨x, hx, by rw [← hu]⟩
      · rw [List.getElem?_set_ne hm] at hu
        exact ⟨u, hu, rfl⟩
    obtain ⟨y', h1, h2⟩ := hs j y hy
    obtain ⟨z', h3, h4⟩ := hs k z hz
    rw [← h4]
    exact h.apart j k y' z' h1 h3 hne b (by rw [h2]; exact hb)
theorem fnd_at (n : ByteArray) : ∀ (l : List PF) (i : Nat), (fnd n l i).2 = true → ∃ j f, (fnd n l i).1 = i + j ∧ l[j]? = some f
  | [], i, h => by simp [fnd] at h
  | f :: r, i, h => by
    unfold fnd at h ⊢
    split at h
    · rename_i hc
      rw [if_pos hc]
      obtain ⟨j, g, h1, h2⟩ := fnd_at n r (i + 1) h
      exact ⟨j + 1, g, by rw [h1]; omega, by simpa using h2⟩
    · rename_i hc
      rw [if_neg hc]
      exact ⟨0, f, rfl, rfl⟩
end Go.Proofs.YtennogmeeefopaaDoor
namespace Go.Proofs.YtennogmeeefopaaDoor
open Go.RowKit
set_option linter.unusedSimpArgs false
set_option linter.unusedVariables false

theorem Tryd.in29 (w : World) (vs : Array Value) : (callFunc 29 vs).run Tryd.prog w = .ok (.enter 29 vs) w := by kernel_rfl
theorem Tryd.in26 (w : World) (vs : Array Value) : (callFunc 26 vs).run Tryd.prog w = .ok (.enter 26 vs) w := by kernel_rfl
theorem Tryd.in27 (w : World) (vs : Array Value) : (callFunc 27 vs).run Tryd.prog w = .ok (.enter 27 vs) w := by kernel_rfl
theorem Tryd.in44 (w : World) (vs : Array Value) : (callFunc 44 vs).run Tryd.prog w = .ok (.enter 44 vs) w := by kernel_rfl
theorem Tryd.in21 (w : World) (vs : Array Value) : (callFunc 21 vs).run Tryd.prog w = .ok (.enter 21 vs) w := by kernel_rfl
theorem Tryd.in23 (w : World) (vs : Array Value) : (callFunc 23 vs).run Tryd.prog w = .ok (.enter 23 vs) w := by kernel_rfl
theorem Tryd.in22 (w : World) (vs : Array Value) : (callFunc 22 vs).run Tryd.prog w = .ok (.enter 22 vs) w := by kernel_rfl
theorem Tryd.in7 (w : World) (vs : Array Value) : (callFunc 7 vs).run Tryd.prog w = .ok (.enter 7 vs) w := by kernel_rfl
theorem Tryd.in39 (w : World) (vs : Array Value) : (callFunc 39 vs).run Tryd.prog w = .ok (.enter 39 vs) w := by kernel_rfl
/-- A journal's cells. -/
def jA (d : Nat) (vf : Value) (pr sz : Int) (la de : Bool) : Array Value := #[ptr d, vf, .int .i64 pr, .int .i64 sz, .bool la, .bool de]
theorem bsSE (w : World) : (Instr.buildSlice 56 0 #[]).run Tryd.prog w = .ok (.slice (some ⟨w.heap.size, 0, none⟩) 0 0) (w.alloc (.cells #[] 9)) := by kernel_rfl
theorem bsRE (w : World) : (Instr.buildSlice 23 0 #[]).run Tryd.prog w = .ok (.slice (some ⟨w.heap.size, 0, none⟩) 0 0) (w.alloc (.cells #[] 37)) := by kernel_rfl
theorem j_built (d : Nat) : Tryd.prog.built 61 [(0, ptr d), (2, .int .i64 (-1))] = some (jA d (.slice none 0 0) (-1) 0 false false) := by kernel_rfl
set_option maxRecDepth 8000 in
theorem told_ok (g : Nat) (e : Int) (he : ¬ e = 7) (w : World) : Calls Tryd.prog 29 #[ptr g, .int .i64 e] w fun r w' => r = .returned (.int .i64 e) ∧ w' = w := by
  go_enter Tryd.func29, Tryd.ntmps29
  refine wp_seq_k fun K1 hK1 => ?_
  refine wp_region_list (WL.out ?_)
  refine WL.val (by kernel_rfl) (.int .i64 0) (by go_simp) ?_
  simp only [Act.put, List.setIfInBounds_toArray, List.set_cons_zero, List.set_cons_succ]
  refine WL.nil ?_
  refine hK1 _ _ ?_
  refine wp_seq_k fun K2 hK2 => ?_
  refine wp_seq_k fun K3 hK3 => ?_
  refine wp_region_list (WL.out ?_)
  refine WL.val (by kernel_rfl) (.int .i64 e) (by go_simp) ?_
  simp only [Act.put, List.setIfInBounds_toArray, List.set_cons_zero, List.set_cons_succ]
  refine WL.val (by kernel_rfl) (.bool false) (by go_simp) ?_
  simp only [Act.put, List.setIfInBounds_toArray, List.set_cons_zero, List.set_cons_succ]
  refine WL.nil ?_
  refine hK3 _ _ ?_
  refine wp_cond_false rfl ?_
  refine wp_skip ?_
  refine hK2 _ _ ?_
  refine wp_seq_k fun K4 hK4 => ?_
  refine wp_region_list (WL.out ?_)
  refine WL.val (by kernel_rfl) (.int .i64 e) (by go_simp) ?_
  simp only [Act.put, List.setIfInBounds_toArray, List.set_cons_zero, List.set_cons_succ]
  refine WL.val (by kernel_rfl) (.int .i64 e) (by go_simp) ?_
  simp only [Act.put, List.setIfInBounds_toArray, List.set_cons_zero, List.set_cons_succ]
  refine WL.nil ?_
  refine hK4 _ _ ?_
  refine wp_ret ?_
  go_ret
  exact ⟨rfl, rfl⟩
set_option maxRecDepth 8000 in
theorem len_any (g : Nat) (va : Option Addr) (n vc : Nat) (w : World) (c1 : w.cell? ⟨g, 1, none⟩ = some (.slice va n vc)) : Calls Tryd.prog 26 #[ptr g] w fun r w' => r = .returned (.int .i64 (n : Int)) ∧ w' = w := by
  go_enter Tryd.func26, Tryd.ntmps26
  refine wp_seq_k fun K1 hK1 => ?_
  refine wp_region_list (WL.out ?_)
  refine WL.val (by kernel_rfl) (.int .i64 0) (by go_simp) ?_
  simp only [Act.put, List.setIfInBounds_toArray, List.set_cons_zero, List.set_cons_succ]
  refine WL.nil ?_
  refine hK1 _ _ ?_
  refine wp_seq_k fun K2 hK2 => ?_
  refine wp_region_list (WL.out ?_)
  refine WL.val (by kernel_rfl) (.pointer (some ⟨g, 0, none⟩)) (by go_simp) ?_
  simp only [Act.put, List.setIfInBounds_toArray, List.set_cons_zero, List.set_cons_succ]
  refine WL.val (by kernel_rfl) (.pointer (some ⟨g, 0, none⟩)) (by go_simp) ?_
  simp only [Act.put, List.setIfInBounds_toArray, List.set_cons_zero, List.set_cons_succ]
  refine WL.val (by kernel_rfl) (.pointer (some ⟨g, 1, none⟩)) (by go_simp) ?_
  simp only [Act.put, List.setIfInBounds_toArray, List.set_cons_zero, List.set_cons_succ]
  refine WL.val (by kernel_rfl) (.slice va n vc) (by go_simp) ?_
  simp only [Act.put, List.setIfInBounds_toArray, List.set_cons_zero, List.set_cons_succ]
  refine WL.val (by kernel_rfl) (.int .i64 (n : Int)) (by go_simp) ?_
  simp only [Act.put, List.setIfInBounds_toArray, List.set_cons_zero, List.set_cons_succ]
  refine WL.val (by kernel_rfl) (.int .i64 (n : Int)) (by go_simp) ?_
  simp only [Act.put, List.setIfInBounds_toArray, List.set_cons_zero, List.set_cons_succ]
  refine WL.nil ?_
  refine hK2 _ _ ?_
  refine wp_ret ?_
  go_ret
  exact ⟨rfl, rfl⟩
set_option maxRecDepth 8000 in
theorem acts_any (h p : Nat) (n : Int) (w : World) (c0 : w.cell? ⟨h, 0, none⟩ = some (ptr p)) (c5 : w.cell? ⟨p, 5, none⟩ = some (.int .i64 n)) : Calls Tryd.prog 27 #[ptr h] w fun r w' => r = .returned (.int .i64 n) ∧ w' = w := by
  go_enter Tryd.func27, Tryd.ntmps27
  refine wp_seq_k fun K1 hK1 => ?_
  refine wp_region_list (WL.out ?_)
  refine WL.val (by kernel_rfl) (.int .i64 0) (by go_simp) ?_
  simp only [Act.put, List.setIfInBounds_toArray, List.set_cons_zero, List.set_cons_succ]
  refine WL.nil ?_
  refine hK1 _ _ ?_
  refine wp_seq_k fun K2 hK2 => ?_
  refine wp_region_list (WL.out ?_)
  refine WL.val (by kernel_rfl) (.pointer (some ⟨h, 0, none⟩)) (by go_simp) ?_
  simp only [Act.put, List.setIfInBounds_toArray, List.set_cons_zero, List.set_cons_succ]
  refine WL.val (by kernel_rfl) (.pointer (some ⟨h, 0, none⟩)) (by go_simp) ?_
  simp only [Act.put, List.setIfInBounds_toArray, List.set_cons_zero, List.set_cons_succ]
  refine WL.val (by kernel_rfl) (.pointer (some ⟨h, 0, none⟩)) (by go_simp) ?_
  simp only [Act.put, List.setIfInBounds_toArray, List.set_cons_zero, List.set_cons_succ]
  refine WL.val (by kernel_rfl) (.pointer (some ⟨p, 0, none⟩)) (by go_simp) ?_
  simp only [Act.put, List.setIfInBounds_toArray, List.set_cons_zero, List.set_cons_succ]
  refine WL.val (by kernel_rfl) (.pointer (some ⟨p, 0, none⟩)) (by go_simp) ?_
  simp only [Act.put, List.setIfInBounds_toArray, List.set_cons_zero, List.set_cons_succ]
  refine WL.val (by kernel_rfl) (.pointer (some ⟨p, 5, none⟩)) (by go_simp) ?_
  simp only [Act.put, List.setIfInBounds_toArray, List.set_cons_zero, List.set_cons_succ]
  refine WL.val (by kernel_rfl) (.int .i64 n) (by go_simp) ?_
  simp only [Act.put, List.setIfInBounds_toArray, List.set_cons_zero, List.set_cons_succ]
  refine WL.val (by kernel_rfl) (.int .i64 n) (by go_simp) ?_
  simp only [Act.put, List.setIfInBounds_toArray, List.set_cons_zero, List.set_cons_succ]
  refine WL.nil ?_
  refine hK2 _ _ ?_
  refine wp_ret ?_
  go_ret
  exact ⟨rfl, rfl⟩
set_option maxRecDepth 8000 in
theorem names_none (d p : Nat) (w : World) (cd : w.cell? ⟨d, 0, none⟩ = some (ptr p)) (c4 : w.cell? ⟨p, 4, none⟩ = some (.bool false)) (c0 : w.cell? ⟨p, 0, none⟩ = some (.slice none 0 0)) : Calls Tryd.prog 21 #[ptr d] w fun r w' => ∃ g, r = .returned (.tuple #[.slice (some ⟨g, 0, none⟩) 0 0, .int .i64 0]) ∧ Below w.heap.size w w' := by
  go_enter Tryd.func21, Tryd.ntmps21
  refine wp_seq_k fun K1 hK1 => ?_
  refine wp_region_list (WL.out ?_)
  refine WL.val (by kernel_rfl) (.slice none 0 0) (by go_simp) ?_
  simp only [Act.put, List.setIfInBounds_toArray, List.set_cons_zero, List.set_cons_succ]
  refine WL.val (by kernel_rfl) (.int .i64 0) (by go_simp) ?_
  simp only [Act.put, List.setIfInBounds_toArray, List.set_cons_zero, List.set_cons_succ]
  refine WL.nil ?_
  refine hK1 _ _ ?_
  refine wp_seq_k fun K2 hK2 => ?_
  refine wp_region_list (WL.out ?_)
  refine WL.val (by kernel_rfl) (.pointer (some ⟨d, 0, none⟩)) (by go_simp) ?_
  simp only [Act.put, List.setIfInBounds_toArray, List.set_cons_zero, List.set_cons_succ]
  refine WL.val (by kernel_rfl) (.pointer (some ⟨d, 0, none⟩)) (by go_simp) ?_
  simp only [Act.put, List.setIfInBounds_toArray, List.set_cons_zero, List.set_cons_succ]
  refine WL.val (by kernel_rfl) (.pointer (some ⟨d, 0, none⟩)) (by go_simp) ?_
  simp only [Act.put, List.setIfInBounds_toArray, List.set_cons_zero, List.set_cons_succ]
  refine WL.val (by kernel_rfl) (.pointer (some ⟨p, 0, none⟩)) (by go_simp) ?_
  simp only [Act.put, List.setIfInBounds_toArray, List.set_cons_zero, List.set_cons_succ]
  refine WL.val (by kernel_rfl) (.pointer (some ⟨p, 0, none⟩)) (by go_simp) ?_
  simp only [Act.put, List.setIfInBounds_toArray, List.set_cons_zero, List.set_cons_succ]
  refine WL.nil ?_
  refine hK2 _ _ ?_
  refine wp_seq_k fun K3 hK3 => ?_
  refine wp_seq_k fun K4 hK4 => ?_
  refine wp_region_list (WL.out ?_)
  refine WL.val (by kernel_rfl) (.pointer (some ⟨p, 0, none⟩)) (by go_simp) ?_
  simp only [Act.put, List.setIfInBounds_toArray, List.set_cons_zero, List.set_cons_succ]
  refine WL.val (by kernel_rfl) (.pointer (some ⟨p, 0, none⟩)) (by go_simp) ?_
  simp only [Act.put, List.setIfInBounds_toArray, List.set_cons_zero, List.set_cons_succ]
  refine WL.val (by kernel_rfl) (.pointer (some ⟨p, 4, none⟩)) (by go_simp) ?_
  simp only [Act.put, List.setIfInBounds_toArray, List.set_cons_zero, List.set_cons_succ]
  refine WL.val (by kernel_rfl) (.bool false) (by go_simp) ?_
  simp only [Act.put, List.setIfInBounds_toArray, List.set_cons_zero, List.set_cons_succ]
  refine WL.nil ?_
  refine hK4 _ _ ?_
  refine wp_cond_false rfl ?_
  refine wp_skip ?_
  refine hK3 _ _ ?_
  refine wp_seq_k fun K5 hK5 => ?_
  refine wp_region_list (WL.out ?_)
  refine WL.bs (by kernel_rfl) 56 0 _ rfl #[] (by simp) _ _ (bsSE w) ?_
  have c0' : (w.alloc (.cells #[] 9)).cell? ⟨p, 0, none⟩ = some (.slice none 0 0) := by rw [World.cell?_alloc_lt _ _ _ (cell_lt c0)]; exact c0
  have B1 := Keep.mk (below_new w (.cells #[] 9))
  clear c0 c4 cd
  generalize w.alloc (.cells #[] 9) = w1 at *
  generalize w.heap.size = g1 at *
  simp only [Act.put, List.setIfInBounds_toArray, List.set_cons_zero, List.set_cons_succ]
  refine WL.val (by kernel_rfl) (.slice (some ⟨g1, 0, none⟩) 0 0) (by go_simp) ?_
  simp only [Act.put, List.setIfInBounds_toArray, List.set_cons_zero, List.set_cons_succ]
  refine WL.nil ?_
  refine hK5 _ _ ?_
  refine wp_seq_k fun K6 hK6 => ?_
  refine wp_seq_k fun K7 hK7 => ?_
  refine wp_region_list (WL.out ?_)
  refine WL.val (by kernel_rfl) (.pointer (some ⟨p, 0, none⟩)) (by go_simp) ?_
  simp only [Act.put, List.setIfInBounds_toArray, List.set_cons_zero, List.set_cons_succ]
  refine WL.val (by kernel_rfl) (.pointer (some ⟨p, 0, none⟩)) (by go_simp) ?_
  simp only [Act.put, List.setIfInBounds_toArray, List.set_cons_zero, List.set_cons_succ]
  refine WL.val (by kernel_rfl) (.pointer (some ⟨p, 0, none⟩)) (by go_simp) ?_
  simp only [Act.put, List.setIfInBounds_toArray, List.set_cons_zero, List.set_cons_succ]
  refine WL.val (by kernel_rfl) (.slice none 0 0) (by go_simp) ?_
  simp only [Act.put, List.setIfInBounds_toArray, List.set_cons_zero, List.set_cons_succ]
  refine WL.val (by kernel_rfl) (.int .i64 0) (by go_simp) ?_
  simp only [Act.put, List.setIfInBounds_toArray, List.set_cons_zero, List.set_cons_succ]
  refine WL.val (by kernel_rfl) (.int .i64 0) (by go_simp) ?_
  simp only [Act.put, List.setIfInBounds_toArray, List.set_cons_zero, List.set_cons_succ]
  refine WL.nil ?_
  refine hK7 _ _ ?_
  refine wp_block ?_
  refine wp_loop (fun ac wr => ac = { tmps := #[.pointer (some ⟨d, 0, none⟩), undef, .slice none 0 0, .int .i64 0, .pointer (some ⟨p, 0, none⟩), .slice (some ⟨g1, 0, none⟩) 0 0, undef, undef, .pointer (some ⟨d, 0, none⟩), .pointer (some ⟨d, 0, none⟩), .pointer (some ⟨d, 0, none⟩), .pointer (some ⟨p, 0, none⟩), .pointer (some ⟨p, 0, none⟩), .pointer (some ⟨p, 0, none⟩), .pointer (some ⟨p, 4, none⟩), .bool false, .slice (some ⟨g1, 0, none⟩) 0 0, .pointer (some ⟨p, 0, none⟩), .pointer (some ⟨p, 0, none⟩), .pointer (some ⟨p, 0, none⟩), .slice none 0 0, .int .i64 0, .int .i64 0, undef, undef, undef, undef, undef, undef, undef, undef, undef, undef], defers := [] } ∧ wr = w1) (fun _ _ => 0) ⟨rfl, rfl⟩ ?_
  rintro ac wr ⟨rfl, rfl⟩
  refine wp_seq_k fun K8 hK8 => ?_
  refine wp_region_list (WL.out ?_)
  refine WL.val (by kernel_rfl) (.bool false) (by go_simp) ?_
  simp only [Act.put, List.setIfInBounds_toArray, List.set_cons_zero, List.set_cons_succ]
  refine WL.nil ?_
  refine hK8 _ _ ?_
  refine wp_seq_k fun K9 hK9 => ?_
  refine wp_cond_false rfl ?_
  refine wp_exit ?_
  refine hK6 _ _ ?_
  refine wp_seq_k fun K10 hK10 => ?_
  refine wp_region_list (WL.out ?_)
  refine WL.val (by kernel_rfl) (.slice (some ⟨g1, 0, none⟩) 0 0) (by go_simp) ?_
  simp only [Act.put, List.setIfInBounds_toArray, List.set_cons_zero, List.set_cons_succ]
  refine WL.val (by kernel_rfl) (.slice (some ⟨g1, 0, none⟩) 0 0) (by go_simp) ?_
  simp only [Act.put, List.setIfInBounds_toArray, List.set_cons_zero, List.set_cons_succ]
  refine WL.val (by kernel_rfl) (.int .i64 0) (by go_simp) ?_
  simp only [Act.put, List.setIfInBounds_toArray, List.set_cons_zero, List.set_cons_succ]
  refine WL.nil ?_
  refine hK10 _ _ ?_
  refine wp_ret ?_
  go_ret2
  exact ⟨g1, rfl, B1.out⟩
end Go.Proofs.YtennogmeeefopaaDoor
namespace Go.Proofs.YtennogmeeefopaaDoor
open Go.RowKit
set_option linter.unusedSimpArgs false
set_option linter.unusedVariables false

theorem bcell {B : Nat} {a b : World} (h : Below B a b) {k j : Nat} {v : Value} (hk : k < B ∧ a.cell? ⟨k, j, none⟩ = some v) : b.cell? ⟨k, j, none⟩ = some v := by
  have : b.cell? ⟨k, j, none⟩ = a.cell? ⟨k, j, none⟩ := by simp only [World.cell?, h.block k hk.1]
  rw [this]; exact hk.2
set_option maxRecDepth 8000 in
theorem mend_none (g ng : Nat) (w : World) (hT : Tab w) (c2 : w.cell? ⟨g, 2, none⟩ = some (.int .i64 (-1))) : Calls Tryd.prog 23 #[ptr g, .slice (some ⟨ng, 0, none⟩) 0 0, .bool false] w fun r w' => r = .returned (.int .i64 0) ∧ Below w.heap.size w w' := by
  have HT := Keep.mk hT
  have HC : Keep (g < w.heap.size ∧ w.cell? ⟨g, 2, none⟩ = some (.int .i64 (-1))) := ⟨cell_lt c2, c2⟩
  have HZ : Keep (0 < w.heap.size) := ⟨Nat.lt_of_le_of_lt (Nat.zero_le _) (cell_lt c2)⟩
  clear hT c2
  go_enter Tryd.func23, Tryd.ntmps23
  refine wp_seq_k fun K1 hK1 => ?_
  refine wp_region_list (WL.out ?_)
  refine WL.val (by kernel_rfl) (.int .i64 0) (by go_simp) ?_
  simp only [Act.put, List.setIfInBounds_toArray, List.set_cons_zero, List.set_cons_succ]
  refine WL.nil ?_
  refine hK1 _ _ ?_
  refine wp_seq_k fun K2 hK2 => ?_
  refine wp_seq_k fun K3 hK3 => ?_
  refine wp_region_list (WL.out ?_)
  refine WL.val (by kernel_rfl) (.int .i64 255) (by go_simp) ?_
  simp only [Act.put, List.setIfInBounds_toArray, List.set_cons_zero, List.set_cons_succ]
  refine WL.nil ?_
  refine hK3 _ _ ?_
  refine wp_block ?_
  refine wp_loop (fun ac wr => ∃ (t : Nat) (f : Nat → Value), ac = { tmps := #[.pointer (some ⟨g, 0, none⟩), .slice (some ⟨ng, 0, none⟩) 0 0, .bool false, undef, undef, undef, f 6, .int .i64 (255 - (t : Int)), f 8, undef, f 10, f 11, f 12, f 13, f 14, f 15, f 16, f 17, f 18, f 19, f 20, f 21, f 22, f 23, f 24, f 25, f 26, f 27, f 28, f 29, f 30, f 31, f 32, undef, undef, undef, undef, undef, undef, undef, undef, undef, undef, undef, undef, undef, undef, undef, undef, undef, undef, undef, undef, undef, undef, undef, undef, undef, undef, undef, undef, undef, undef, undef, undef, undef], defers := [] } ∧ t ≤ 256 ∧ Below w.heap.size w wr) (fun a _ => (intOf (a.tmps.getD 7 undef) + 1).toNat) ⟨0, fun i => [.pointer (some ⟨g, 0, none⟩), .slice (some ⟨ng, 0, none⟩) 0 0, .bool false, undef, undef, undef, .int .i64 0, .int .i64 255, undef, undef, undef, undef, undef, undef, undef, undef, undef, undef, undef, undef, undef, undef, undef, undef, undef, undef, undef, undef, undef, undef, undef, undef, undef, undef, undef, undef, undef, undef, undef, undef, undef, undef, undef, undef, undef, undef, undef, undef, undef, undef, undef, undef, undef, undef, undef, undef, undef, undef, undef, undef, undef, undef, undef, undef, undef, undef].getD i undef, rfl, by omega, Below.refl _ _⟩ ?_
  rintro ac wr ⟨t, f, rfl, ht, hB⟩
  have JB := Keep.mk hB
  clear hB
  have c2 : wr.cell? ⟨g, 2, none⟩ = some (.int .i64 (-1)) := bcell JB.out HC.out
  have JT : Keep (Tab wr) := ⟨HT.out.below JB.out HZ.out⟩
  by_cases hlt : t < 256
  · obtain ⟨k, hk⟩ : ∃ k : Nat, Keep (255 - (t : Int) = (k : Int) ∧ k < 10000) := ⟨255 - t, ⟨by omega, by omega⟩⟩
    rw [hk.out.1]
    have hgt : (-1 : Int) < (k : Int) := by omega
    have hwk : IntKind.i64.wrap ((k : Int) - 1) = (k : Int) - 1 := by rw [IntKind.wrap_i64]; have := hk.out; omega
    refine wp_seq_k fun K4 hK4 => ?_
    refine wp_seq_k fun K5 hK5 => ?_
    refine wp_region_list (WL.out ?_)
    refine WL.val (by kernel_rfl) (.int .i64 (k : Int)) (by go_simp) ?_
    simp only [Act.put, List.setIfInBounds_toArray, List.set_cons_zero, List.set_cons_succ]
    refine WL.val (by kernel_rfl) (.pointer (some ⟨g, 0, none⟩)) (by go_simp) ?_
    simp only [Act.put, List.setIfInBounds_toArray, List.set_cons_zero, List.set_cons_succ]
    refine WL.val (by kernel_rfl) (.pointer (some ⟨g, 0, none⟩)) (by go_simp) ?_
    simp only [Act.put, List.setIfInBounds_toArray, List.set_cons_zero, List.set_cons_succ]
    refine WL.val (by kernel_rfl) (.pointer (some ⟨g, 2, none⟩)) (by go_simp) ?_
    simp only [Act.put, List.setIfInBounds_toArray, List.set_cons_zero, List.set_cons_succ]
    refine WL.val (by kernel_rfl) (.int .i64 (-1)) (by go_simp) ?_
    simp only [Act.put, List.setIfInBounds_toArray, List.set_cons_zero, List.set_cons_succ]
    refine WL.val (by kernel_rfl) (.bool true) (by go_simp) ?_
    simp only [Act.put, List.setIfInBounds_toArray, List.set_cons_zero, List.set_cons_succ]
    refine WL.nil ?_
    refine hK5 _ _ ?_
    refine wp_cond_true rfl ?_
    refine wp_skip ?_
    refine hK4 _ _ ?_
    refine wp_seq_k fun K6 hK6 => ?_
    refine wp_block ?_
    refine wp_seq_k fun K7 hK7 => ?_
    refine wp_seq_k fun K8 hK8 => ?_
    refine wp_region_list (WL.out ?_)
    refine WL.val (by kernel_rfl) (.slice (some ⟨ng, 0, none⟩) 0 0) (by go_simp) ?_
    simp only [Act.put, List.setIfInBounds_toArray, List.set_cons_zero, List.set_cons_succ]
    refine WL.val (by kernel_rfl) (.int .i64 (k : Int)) (by go_simp) ?_
    simp only [Act.put, List.setIfInBounds_toArray, List.set_cons_zero, List.set_cons_succ]
    refine WL.callF (by kernel_rfl) 31 _ _ rfl Tryd.in31 #[.int .i64 (k : Int)] (by simp [Act.eval]) ?_
    refine (name_any k hk.out.2 wr JT.out).mono ?_
    rintro e w1 ⟨rfl, hb1⟩
    refine ⟨_, rfl, ?_⟩
    have B1 : Keep (Below w.heap.size w w1) := ⟨JB.out.trans (hb1.mono JB.out.size)⟩
    clear hb1 c2
    obtain ⟨nn, hnn⟩ : ∃ s, Keep (s = nmS k) := ⟨_, ⟨rfl⟩⟩
    rw [← hnn.out]
    simp only [Act.put, List.setIfInBounds_toArray, List.set_cons_zero, List.set_cons_succ]
    refine WL.callF (by kernel_rfl) 39 _ _ rfl Tryd.in39 #[.slice (some ⟨ng, 0, none⟩) 0 0, .string nn] (by simp [Act.eval]) ?_
    refine (Tryd.slices_Contains_string_empty _ _ _ w1).mono ?_
    rintro e w2 ⟨rfl, hw⟩
    refine ⟨_, rfl, ?_⟩
    subst hw
    simp only [Act.put, List.setIfInBounds_toArray, List.set_cons_zero, List.set_cons_succ]
    refine WL.val (by kernel_rfl) (.bool true) (by go_simp) ?_
    simp only [Act.put, List.setIfInBounds_toArray, List.set_cons_zero, List.set_cons_succ]
    refine WL.nil ?_
    refine hK8 _ _ ?_
    refine wp_cond_true rfl ?_
    refine wp_exit ?_
    refine hK6 _ _ ?_
    refine wp_region_list (WL.out ?_)
    refine WL.val (by kernel_rfl) (.int .i64 (k : Int)) (by go_simp) ?_
    simp only [Act.put, List.setIfInBounds_toArray, List.set_cons_zero, List.set_cons_succ]
    refine WL.val (by kernel_rfl) (.int .i64 ((k : Int) - 1)) (by go_simp) ?_
    simp only [Act.put, List.setIfInBounds_toArray, List.set_cons_zero, List.set_cons_succ]
    refine WL.val (by kernel_rfl) (.int .i64 ((k : Int) - 1)) (by go_simp) ?_
    simp only [Act.put, List.setIfInBounds_toArray, List.set_cons_zero, List.set_cons_succ]
    refine WL.nil ?_
    refine ⟨⟨t + 1, fun i => [.pointer (some ⟨g, 0, none⟩), .slice (some ⟨ng, 0, none⟩) 0 0, .bool false, undef, undef, undef, f 6, .int .i64 ((k : Int) - 1), f 8, undef, .int .i64 (k : Int), .pointer (some ⟨g, 0, none⟩), .pointer (some ⟨g, 0, none⟩), .pointer (some ⟨g, 2, none⟩), .int .i64 (-1), .bool true, .int .i64 (k : Int), .int .i64 ((k : Int) - 1), .slice (some ⟨ng, 0, none⟩) 0 0, .int .i64 (k : Int), .string nn, .bool false, .bool true, f 23, f 24, f 25, f 26, f 27, f 28, f 29, f 30, f 31, f 32, undef, undef, undef, undef, undef, undef, undef, undef, undef, undef, undef, undef, undef, undef, undef, undef, undef, undef, undef, undef, undef, undef, undef, undef, undef, undef, undef, undef, undef, undef, undef, undef, undef].getD i undef, ?_, by omega, B1.out⟩, ?_⟩
    · have e : (255 : Int) - ((t + 1 : Nat) : Int) = (k : Int) - 1 := by have := hk.out.1; omega
      rw [e]; rfl
    · simp only [intOf]; show ((k : Int) - 1 + 1).toNat < ((k : Int) + 1).toNat; omega
  · have e : (255 : Int) - (t : Int) = -1 := by omega
    rw [e]
    refine wp_seq_k fun K9 hK9 => ?_
    refine wp_seq_k fun K10 hK10 => ?_
    refine wp_region_list (WL.out ?_)
    refine WL.val (by kernel_rfl) (.int .i64 (-1)) (by go_simp) ?_
    simp only [Act.put, List.setIfInBounds_toArray, List.set_cons_zero, List.set_cons_succ]
    refine WL.val (by kernel_rfl) (.pointer (some ⟨g, 0, none⟩)) (by go_simp) ?_
    simp only [Act.put, List.setIfInBounds_toArray, List.set_cons_zero, List.set_cons_succ]
    refine WL.val (by kernel_rfl) (.pointer (some ⟨g, 0, none⟩)) (by go_simp) ?_
    simp only [Act.put, List.setIfInBounds_toArray, List.set_cons_zero, List.set_cons_succ]
    refine WL.val (by kernel_rfl) (.pointer (some ⟨g, 2, none⟩)) (by go_simp) ?_
    simp only [Act.put, List.setIfInBounds_toArray, List.set_cons_zero, List.set_cons_succ]
    refine WL.val (by kernel_rfl) (.int .i64 (-1)) (by go_simp) ?_
    simp only [Act.put, List.setIfInBounds_toArray, List.set_cons_zero, List.set_cons_succ]
    refine WL.val (by kernel_rfl) (.bool false) (by go_simp) ?_
    simp only [Act.put, List.setIfInBounds_toArray, List.set_cons_zero, List.set_cons_succ]
    refine WL.nil ?_
    refine hK10 _ _ ?_
    refine wp_cond_false rfl ?_
    refine wp_exit ?_
    refine hK2 _ _ ?_
    refine wp_seq_k fun K11 hK11 => ?_
    refine wp_seq_k fun K12 hK12 => ?_
    refine wp_region_list (WL.out ?_)
    refine WL.val (by kernel_rfl) (.bool false) (by go_simp) ?_
    simp only [Act.put, List.setIfInBounds_toArray, List.set_cons_zero, List.set_cons_succ]
    refine WL.nil ?_
    refine hK12 _ _ ?_
    refine wp_cond_false rfl ?_
    refine wp_skip ?_
    refine hK11 _ _ ?_
    refine wp_seq_k fun K13 hK13 => ?_
    refine wp_seq_k fun K14 hK14 => ?_
    refine wp_region_list (WL.out ?_)
    refine WL.val (by kernel_rfl) (.pointer (some ⟨g, 0, none⟩)) (by go_simp) ?_
    simp only [Act.put, List.setIfInBounds_toArray, List.set_cons_zero, List.set_cons_succ]
    refine WL.val (by kernel_rfl) (.pointer (some ⟨g, 0, none⟩)) (by go_simp) ?_
    simp only [Act.put, List.setIfInBounds_toArray, List.set_cons_zero, List.set_cons_succ]
    refine WL.val (by kernel_rfl) (.pointer (some ⟨g, 2, none⟩)) (by go_simp) ?_
    simp only [Act.put, List.setIfInBounds_toArray, List.set_cons_zero, List.set_cons_succ]
    refine WL.val (by kernel_rfl) (.int .i64 (-1)) (by go_simp) ?_
    simp only [Act.put, List.setIfInBounds_toArray, List.set_cons_zero, List.set_cons_succ]
    refine WL.val (by kernel_rfl) (.bool true) (by go_simp) ?_
    simp only [Act.put, List.setIfInBounds_toArray, List.set_cons_zero, List.set_cons_succ]
    refine WL.nil ?_
    refine hK14 _ _ ?_
    refine wp_cond_true rfl ?_
    refine wp_seq_k fun K15 hK15 => ?_
    refine wp_region_list (WL.out ?_)
    refine WL.val (by kernel_rfl) (.int .i64 0) (by go_simp) ?_
    simp only [Act.put, List.setIfInBounds_toArray, List.set_cons_zero, List.set_cons_succ]
    refine WL.nil ?_
    refine hK15 _ _ ?_
    refine wp_ret ?_
    go_ret
    exact ⟨rfl, JB.out⟩
set_option maxRecDepth 8000 in
theorem read_none (g ng : Nat) (w : World) (hT : Tab w) (hg : 0 < w.heap.size) : Calls Tryd.prog 22 #[ptr g, .slice (some ⟨ng, 0, none⟩) 0 0] w fun r w' => ∃ pg, r = .returned (.tuple #[.slice (some ⟨pg, 0, none⟩) 0 0, .bool false, .int .i64 0]) ∧ Below w.heap.size w w' := by
  have HT := Keep.mk hT
  have HZ := Keep.mk hg
  clear hT hg
  go_enter Tryd.func22, Tryd.ntmps22
  refine wp_seq_k fun K1 hK1 => ?_
  refine wp_region_list (WL.out ?_)
  refine WL.val (by kernel_rfl) (.slice none 0 0) (by go_simp) ?_
  simp only [Act.put, List.setIfInBounds_toArray, List.set_cons_zero, List.set_cons_succ]
  refine WL.val (by kernel_rfl) (.bool false) (by go_simp) ?_
  simp only [Act.put, List.setIfInBounds_toArray, List.set_cons_zero, List.set_cons_succ]
  refine WL.val (by kernel_rfl) (.int .i64 0) (by go_simp) ?_
  simp only [Act.put, List.setIfInBounds_toArray, List.set_cons_zero, List.set_cons_succ]
  refine WL.nil ?_
  refine hK1 _ _ ?_
  refine wp_scope_straight ?_
  refine wp_seq_k fun K2 hK2 => ?_
  refine wp_region_list (WL.out ?_)
  refine WL.bs (by kernel_rfl) 23 0 _ rfl #[] (by simp) _ _ (bsRE w) ?_
  have B1 := Keep.mk (below_new w (.cells #[] 37))
  have HT1 : Keep (Tab (w.alloc (.cells #[] 37))) := ⟨HT.out.below B1.out HZ.out⟩
  clear HT
  generalize w.alloc (.cells #[] 37) = w1 at *
  obtain ⟨pg, hpg⟩ : ∃ p, Keep (p = w.heap.size) := ⟨_, ⟨rfl⟩⟩
  rw [← hpg.out]
  simp only [Act.put, List.setIfInBounds_toArray, List.set_cons_zero, List.set_cons_succ]
  refine WL.val (by kernel_rfl) (.slice (some ⟨pg, 0, none⟩) 0 0) (by go_simp) ?_
  simp only [Act.put, List.setIfInBounds_toArray, List.set_cons_zero, List.set_cons_succ]
  refine WL.nil ?_
  refine hK2 _ _ ?_
  refine wp_seq_k fun K3 hK3 => ?_
  refine wp_region_list (WL.out ?_)
  refine WL.val (by kernel_rfl) (.bool false) (by go_simp) ?_
  simp only [Act.put, List.setIfInBounds_toArray, List.set_cons_zero, List.set_cons_succ]
  refine WL.nil ?_
  refine hK3 _ _ ?_
  refine wp_seq_k fun K4 hK4 => ?_
  refine wp_label ?_
  refine hK4 _ _ ?_
  refine wp_seq_k fun K5 hK5 => ?_
  refine wp_seq_k fun K6 hK6 => ?_
  refine wp_region_list (WL.out ?_)
  refine WL.val (by kernel_rfl) (.int .i64 0) (by go_simp) ?_
  simp only [Act.put, List.setIfInBounds_toArray, List.set_cons_zero, List.set_cons_succ]
  refine WL.nil ?_
  refine hK6 _ _ ?_
  refine wp_block ?_
  refine wp_loop (fun ac wr => ac = { tmps := #[.pointer (some ⟨g, 0, none⟩), .slice (some ⟨ng, 0, none⟩) 0 0, undef, undef, .slice none 0 0, .bool false, .int .i64 0, .slice (some ⟨pg, 0, none⟩) 0 0, .bool false, undef, undef, undef, undef, .slice (some ⟨pg, 0, none⟩) 0 0, .int .i64 0, undef, undef, undef, undef, undef, undef, undef, undef, undef, undef, undef, undef, undef, undef, undef, undef, undef, undef, undef, undef, undef, undef, undef, undef, undef, undef, undef, undef, undef, undef, undef, undef, undef, undef, undef, undef, undef, undef, undef, undef, undef, undef, undef, undef, undef, undef, undef, undef, undef, undef, undef, undef, undef, undef, undef, undef, undef, undef, undef, undef, undef, undef, undef, undef, undef, undef, undef, undef, undef, undef, undef, undef], defers := [] } ∧ w1 = wr) (fun _ _ => 0) ⟨rfl, rfl⟩ ?_
  rintro ac wr ⟨rfl, rfl⟩
  refine wp_seq_k fun K7 hK7 => ?_
  refine wp_region_list (WL.out ?_)
  refine WL.val (by kernel_rfl) (.bool true) (by go_simp) ?_
  simp only [Act.put, List.setIfInBounds_toArray, List.set_cons_zero, List.set_cons_succ]
  refine WL.nil ?_
  refine hK7 _ _ ?_
  refine wp_seq_k fun K8 hK8 => ?_
  refine wp_cond_true rfl ?_
  refine wp_skip ?_
  refine hK8 _ _ ?_
  refine wp_seq_k fun K9 hK9 => ?_
  refine wp_block ?_
  refine wp_seq_k fun K10 hK10 => ?_
  refine wp_region_list (WL.out ?_)
  refine WL.val (by kernel_rfl) (.int .i64 0) (by go_simp) ?_
  simp only [Act.put, List.setIfInBounds_toArray, List.set_cons_zero, List.set_cons_succ]
  refine WL.val (by kernel_rfl) (.int .i64 0) (by go_simp) ?_
  simp only [Act.put, List.setIfInBounds_toArray, List.set_cons_zero, List.set_cons_succ]
  refine WL.nil ?_
  refine hK10 _ _ ?_
  refine wp_seq_k fun K11 hK11 => ?_
  refine wp_seq_k fun K12 hK12 => ?_
  refine wp_region_list (WL.out ?_)
  refine WL.val (by kernel_rfl) (.slice (some ⟨ng, 0, none⟩) 0 0) (by go_simp) ?_
  simp only [Act.put, List.setIfInBounds_toArray, List.set_cons_zero, List.set_cons_succ]
  refine WL.val (by kernel_rfl) (.int .i64 0) (by go_simp) ?_
  simp only [Act.put, List.setIfInBounds_toArray, List.set_cons_zero, List.set_cons_succ]
  refine WL.callF (by kernel_rfl) 31 _ _ rfl Tryd.in31 #[.int .i64 ((0 : Nat) : Int)] (by simp [Act.eval]) ?_
  refine (name_any 0 (by omega) w1 HT1.out).mono ?_
  rintro e w2 ⟨rfl, hb1⟩
  refine ⟨_, rfl, ?_⟩
  have B2 : Keep (Below w.heap.size w w2) := ⟨B1.out.trans (hb1.mono B1.out.size)⟩
  clear hb1
  obtain ⟨nn, hnn⟩ : ∃ s, Keep (s = nmS 0) := ⟨_, ⟨rfl⟩⟩
  rw [← hnn.out]
  simp only [Act.put, List.setIfInBounds_toArray, List.set_cons_zero, List.set_cons_succ]
  refine WL.callF (by kernel_rfl) 39 _ _ rfl Tryd.in39 #[.slice (some ⟨ng, 0, none⟩) 0 0, .string nn] (by simp [Act.eval]) ?_
  refine (Tryd.slices_Contains_string_empty _ _ _ w2).mono ?_
  rintro e w3 ⟨rfl, hw⟩
  refine ⟨_, rfl, ?_⟩
  subst hw
  simp only [Act.put, List.setIfInBounds_toArray, List.set_cons_zero, List.set_cons_succ]
  refine WL.val (by kernel_rfl) (.bool true) (by go_simp) ?_
  simp only [Act.put, List.setIfInBounds_toArray, List.set_cons_zero, List.set_cons_succ]
  refine WL.nil ?_
  refine hK12 _ _ ?_
  refine wp_cond_true rfl ?_
  refine wp_exit ?_
  refine hK5 _ _ ?_
  refine wp_seq_k fun K13 hK13 => ?_
  refine wp_region_list (WL.out ?_)
  refine WL.val (by kernel_rfl) (.slice (some ⟨pg, 0, none⟩) 0 0) (by go_simp) ?_
  simp only [Act.put, List.setIfInBounds_toArray, List.set_cons_zero, List.set_cons_succ]
  refine WL.val (by kernel_rfl) (.bool false) (by go_simp) ?_
  simp only [Act.put, List.setIfInBounds_toArray, List.set_cons_zero, List.set_cons_succ]
  refine WL.val (by kernel_rfl) (.slice (some ⟨pg, 0, none⟩) 0 0) (by go_simp) ?_
  simp only [Act.put, List.setIfInBounds_toArray, List.set_cons_zero, List.set_cons_succ]
  refine WL.val (by kernel_rfl) (.bool false) (by go_simp) ?_
  simp only [Act.put, List.setIfInBounds_toArray, List.set_cons_zero, List.set_cons_succ]
  refine WL.val (by kernel_rfl) (.int .i64 0) (by go_simp) ?_
  simp only [Act.put, List.setIfInBounds_toArray, List.set_cons_zero, List.set_cons_succ]
  refine WL.nil ?_
  refine hK13 _ _ ?_
  refine wp_ret ?_
  try rw [Exit.noGoto_ret]
  go_ret3
  exact ⟨pg, rfl, B2.out⟩
set_option maxRecDepth 8000 in
theorem open_none (d p : Nat) (w : World) (hT : Tab w) (cd : w.cell? ⟨d, 0, none⟩ = some (ptr p)) (c4 : w.cell? ⟨p, 4, none⟩ = some (.bool false)) (c0 : w.cell? ⟨p, 0, none⟩ = some (.slice none 0 0)) : Calls Tryd.prog 7 #[ptr d] w fun r w' => ∃ g pg, r = .returned (.tuple #[ptr g, .slice (some ⟨pg, 0, none⟩) 0 0, .int .i64 0]) ∧ Blk w' g 61 (jA d (.slice none 0 0) (-1) 0 false false) ∧ w.heap.size ≤ g ∧ Below w.heap.size w w' := by
  have HT := Keep.mk hT
  have HZ : Keep (0 < w.heap.size) := ⟨Nat.lt_of_le_of_lt (Nat.zero_le _) (cell_lt cd)⟩
  clear hT
  go_enter Tryd.func7, Tryd.ntmps7
  refine wp_seq_k fun K1 hK1 => ?_
  refine wp_region_list (WL.out ?_)
  refine WL.val (by kernel_rfl) (.pointer none) (by go_simp) ?_
  simp only [Act.put, List.setIfInBounds_toArray, List.set_cons_zero, List.set_cons_succ]
  refine WL.val (by kernel_rfl) (.slice none 0 0) (by go_simp) ?_
  simp only [Act.put, List.setIfInBounds_toArray, List.set_cons_zero, List.set_cons_succ]
  refine WL.val (by kernel_rfl) (.int .i64 0) (by go_simp) ?_
  simp only [Act.put, List.setIfInBounds_toArray, List.set_cons_zero, List.set_cons_succ]
  refine WL.nil ?_
  refine hK1 _ _ ?_
  refine wp_seq_k fun K2 hK2 => ?_
  refine wp_seq_k fun K3 hK3 => ?_
  refine wp_region_list (WL.out ?_)
  refine WL.val (by kernel_rfl) (.pointer (some ⟨d, 0, none⟩)) (by go_simp) ?_
  simp only [Act.put, List.setIfInBounds_toArray, List.set_cons_zero, List.set_cons_succ]
  refine WL.val (by kernel_rfl) (.bool false) (by go_simp) ?_
  simp only [Act.put, List.setIfInBounds_toArray, List.set_cons_zero, List.set_cons_succ]
  refine WL.nil ?_
  refine hK3 _ _ ?_
  refine wp_cond_false rfl ?_
  refine wp_skip ?_
  refine hK2 _ _ ?_
  refine wp_seq_k fun K4 hK4 => ?_
  refine wp_region_list (WL.out ?_)
  refine WL.val (by kernel_rfl) (.pointer (some ⟨d, 0, none⟩)) (by go_simp) ?_
  simp only [Act.put, List.setIfInBounds_toArray, List.set_cons_zero, List.set_cons_succ]
  refine WL.callF (by kernel_rfl) 21 _ _ rfl Tryd.in21 #[.pointer (some ⟨d, 0, none⟩)] (by simp [Act.eval]) ?_
  refine (names_none d p w cd c4 c0).mono ?_
  rintro e w1 ⟨ng, rfl, hb1⟩
  refine ⟨_, rfl, ?_⟩
  have B1 := Keep.mk hb1
  have HT1 : Keep (Tab w1) := ⟨HT.out.below hb1 HZ.out⟩
  clear hb1 cd c4 c0 HT
  simp only [Act.put, List.setIfInBounds_toArray, List.set_cons_zero, List.set_cons_succ]
  refine WL.val (by kernel_rfl) (.tuple #[.slice (some ⟨ng, 0, none⟩) 0 0, .int .i64 0]) (by go_simp) ?_
  simp only [Act.put, List.setIfInBounds_toArray, List.set_cons_zero, List.set_cons_succ]
  refine WL.val (by kernel_rfl) (.slice (some ⟨ng, 0, none⟩) 0 0) (by go_simp) ?_
  simp only [Act.put, List.setIfInBounds_toArray, List.set_cons_zero, List.set_cons_succ]
  refine WL.val (by kernel_rfl) (.int .i64 0) (by go_simp) ?_
  simp only [Act.put, List.setIfInBounds_toArray, List.set_cons_zero, List.set_cons_succ]
  refine WL.val (by kernel_rfl) (.slice (some ⟨ng, 0, none⟩) 0 0) (by go_simp) ?_
  simp only [Act.put, List.setIfInBounds_toArray, List.set_cons_zero, List.set_cons_succ]
  refine WL.val (by kernel_rfl) (.int .i64 0) (by go_simp) ?_
  simp only [Act.put, List.setIfInBounds_toArray, List.set_cons_zero, List.set_cons_succ]
  refine WL.nil ?_
  refine hK4 _ _ ?_
  refine wp_seq_k fun K5 hK5 => ?_
  refine wp_seq_k fun K6 hK6 => ?_
  refine wp_region_list (WL.out ?_)
  refine WL.val (by kernel_rfl) (.int .i64 0) (by go_simp) ?_
  simp only [Act.put, List.setIfInBounds_toArray, List.set_cons_zero, List.set_cons_succ]
  refine WL.val (by kernel_rfl) (.bool false) (by go_simp) ?_
  simp only [Act.put, List.setIfInBounds_toArray, List.set_cons_zero, List.set_cons_succ]
  refine WL.nil ?_
  refine hK6 _ _ ?_
  refine wp_cond_false rfl ?_
  refine wp_skip ?_
  refine hK5 _ _ ?_
  refine wp_seq_k fun K7 hK7 => ?_
  refine wp_region_list (WL.out ?_)
  refine WL.val (by kernel_rfl) (.pointer (some ⟨d, 0, none⟩)) (by go_simp) ?_
  simp only [Act.put, List.setIfInBounds_toArray, List.set_cons_zero, List.set_cons_succ]
  refine WL.bld (by kernel_rfl) 61 _ rfl [(0, ptr d), (2, .int .i64 (-1))] (by simp [Act.eval]) _ (j_built _) ?_
  simp only [Act.put, List.setIfInBounds_toArray, List.set_cons_zero, List.set_cons_succ]
  refine WL.box (by kernel_rfl) 61 (.tmp 22) rfl _ rfl ?_
  have HJ := Keep.mk (Blk.new w1 61 (jA d (.slice none 0 0) (-1) 0 false false))
  have hbx := below_new w1 (.cells (jA d (.slice none 0 0) (-1) 0 false false) 61)
  have B2 : Keep (Below w.heap.size w (w1.alloc (.cells (jA d (.slice none 0 0) (-1) 0 false false) 61))) := ⟨B1.out.trans (hbx.mono B1.out.size)⟩
  have HT2 : Keep (Tab (w1.alloc (.cells (jA d (.slice none 0 0) (-1) 0 false false) 61))) := ⟨HT1.out.below hbx (Nat.lt_of_lt_of_le HZ.out B1.out.size)⟩
  clear hbx HT1
  generalize w1.alloc (.cells (jA d (.slice none 0 0) (-1) 0 false false) 61) = w2 at *
  obtain ⟨g, hg⟩ : ∃ p, Keep (p = w1.heap.size) := ⟨_, ⟨rfl⟩⟩
  rw [← hg.out] at HJ ⊢
  have hlt2 : Keep (g < w2.heap.size ∧ w.heap.size ≤ g) := ⟨HJ.out.lt, by rw [hg.out]; exact B1.out.size⟩
  simp only [Act.put, List.setIfInBounds_toArray, List.set_cons_zero, List.set_cons_succ]
  refine WL.val (by kernel_rfl) (.pointer (some ⟨g, 0, none⟩)) (by go_simp) ?_
  simp only [Act.put, List.setIfInBounds_toArray, List.set_cons_zero, List.set_cons_succ]
  refine WL.nil ?_
  refine hK7 _ _ ?_
  refine wp_seq_k fun K8 hK8 => ?_
  refine wp_region_list (WL.out ?_)
  refine WL.val (by kernel_rfl) (.pointer (some ⟨g, 0, none⟩)) (by go_simp) ?_
  simp only [Act.put, List.setIfInBounds_toArray, List.set_cons_zero, List.set_cons_succ]
  refine WL.val (by kernel_rfl) (.slice (some ⟨ng, 0, none⟩) 0 0) (by go_simp) ?_
  simp only [Act.put, List.setIfInBounds_toArray, List.set_cons_zero, List.set_cons_succ]
  refine WL.callF (by kernel_rfl) 22 _ _ rfl Tryd.in22 #[ptr g, .slice (some ⟨ng, 0, none⟩) 0 0] (by simp [Act.eval]) ?_
  refine (read_none g ng w2 HT2.out (Nat.lt_of_le_of_lt (Nat.zero_le _) hlt2.out.1)).mono ?_
  rintro e w3 ⟨pg, rfl, hb3⟩
  refine ⟨_, rfl, ?_⟩
  have B3 : Keep (Below w.heap.size w w3) := ⟨B2.out.trans (hb3.mono B2.out.size)⟩
  have HJ3 := Keep.mk (HJ.out.below hb3 hlt2.out.1)
  have HT3 : Keep (Tab w3) := ⟨HT2.out.below hb3 (Nat.lt_of_le_of_lt (Nat.zero_le _) hlt2.out.1)⟩
  clear hb3 HT2 HJ
  simp only [Act.put, List.setIfInBounds_toArray, List.set_cons_zero, List.set_cons_succ]
  refine WL.val (by kernel_rfl) (.tuple #[.slice (some ⟨pg, 0, none⟩) 0 0, .bool false, .int .i64 0]) (by go_simp) ?_
  simp only [Act.put, List.setIfInBounds_toArray, List.set_cons_zero, List.set_cons_succ]
  refine WL.val (by kernel_rfl) (.slice (some ⟨pg, 0, none⟩) 0 0) (by go_simp) ?_
  simp only [Act.put, List.setIfInBounds_toArray, List.set_cons_zero, List.set_cons_succ]
  refine WL.val (by kernel_rfl) (.bool false) (by go_simp) ?_
  simp only [Act.put, List.setIfInBounds_toArray, List.set_cons_zero, List.set_cons_succ]
  refine WL.val (by kernel_rfl) (.int .i64 0) (by go_simp) ?_
  simp only [Act.put, List.setIfInBounds_toArray, List.set_cons_zero, List.set_cons_succ]
  refine WL.val (by kernel_rfl) (.slice (some ⟨pg, 0, none⟩) 0 0) (by go_simp) ?_
  simp only [Act.put, List.setIfInBounds_toArray, List.set_cons_zero, List.set_cons_succ]
  refine WL.val (by kernel_rfl) (.bool false) (by go_simp) ?_
  simp only [Act.put, List.setIfInBounds_toArray, List.set_cons_zero, List.set_cons_succ]
  refine WL.val (by kernel_rfl) (.int .i64 0) (by go_simp) ?_
  simp only [Act.put, List.setIfInBounds_toArray, List.set_cons_zero, List.set_cons_succ]
  refine WL.nil ?_
  refine hK8 _ _ ?_
  refine wp_seq_k fun K9 hK9 => ?_
  refine wp_seq_k fun K10 hK10 => ?_
  refine wp_region_list (WL.out ?_)
  refine WL.val (by kernel_rfl) (.int .i64 0) (by go_simp) ?_
  simp only [Act.put, List.setIfInBounds_toArray, List.set_cons_zero, List.set_cons_succ]
  refine WL.val (by kernel_rfl) (.bool false) (by go_simp) ?_
  simp only [Act.put, List.setIfInBounds_toArray, List.set_cons_zero, List.set_cons_succ]
  refine WL.nil ?_
  refine hK10 _ _ ?_
  refine wp_cond_false rfl ?_
  refine wp_skip ?_
  refine hK9 _ _ ?_
  refine wp_seq_k fun K11 hK11 => ?_
  refine wp_seq_k fun K12 hK12 => ?_
  refine wp_region_list (WL.out ?_)
  refine WL.val (by kernel_rfl) (.pointer (some ⟨g, 0, none⟩)) (by go_simp) ?_
  simp only [Act.put, List.setIfInBounds_toArray, List.set_cons_zero, List.set_cons_succ]
  refine WL.val (by kernel_rfl) (.slice (some ⟨ng, 0, none⟩) 0 0) (by go_simp) ?_
  simp only [Act.put, List.setIfInBounds_toArray, List.set_cons_zero, List.set_cons_succ]
  refine WL.val (by kernel_rfl) (.bool false) (by go_simp) ?_
  simp only [Act.put, List.setIfInBounds_toArray, List.set_cons_zero, List.set_cons_succ]
  refine WL.callF (by kernel_rfl) 23 _ _ rfl Tryd.in23 #[ptr g, .slice (some ⟨ng, 0, none⟩) 0 0, .bool false] (by simp [Act.eval]) ?_
  refine (mend_none g ng w3 HT3.out (HJ3.out.c 2 rfl)).mono ?_
  rintro e w4 ⟨rfl, hb4⟩
  refine ⟨_, rfl, ?_⟩
  have B4 : Keep (Below w.heap.size w w4) := ⟨B3.out.trans (hb4.mono B3.out.size)⟩
  have HJ4 := Keep.mk (HJ3.out.below hb4 HJ3.out.lt)
  clear hb4 HT3 HJ3
  simp only [Act.put, List.setIfInBounds_toArray, List.set_cons_zero, List.set_cons_succ]
  refine WL.val (by kernel_rfl) (.int .i64 0) (by go_simp) ?_
  simp only [Act.put, List.setIfInBounds_toArray, List.set_cons_zero, List.set_cons_succ]
  refine WL.nil ?_
  refine hK12 _ _ ?_
  refine wp_seq_k fun K13 hK13 => ?_
  refine wp_region_list (WL.out ?_)
  refine WL.val (by kernel_rfl) (.int .i64 0) (by go_simp) ?_
  simp only [Act.put, List.setIfInBounds_toArray, List.set_cons_zero, List.set_cons_succ]
  refine WL.val (by kernel_rfl) (.bool false) (by go_simp) ?_
  simp only [Act.put, List.setIfInBounds_toArray, List.set_cons_zero, List.set_cons_succ]
  refine WL.nil ?_
  refine hK13 _ _ ?_
  refine wp_cond_false rfl ?_
  refine wp_skip ?_
  refine hK11 _ _ ?_
  refine wp_seq_k fun K14 hK14 => ?_
  refine wp_region_list (WL.out ?_)
  refine WL.val (by kernel_rfl) (.pointer (some ⟨g, 0, none⟩)) (by go_simp) ?_
  simp only [Act.put, List.setIfInBounds_toArray, List.set_cons_zero, List.set_cons_succ]
  refine WL.val (by kernel_rfl) (.slice (some ⟨pg, 0, none⟩) 0 0) (by go_simp) ?_
  simp only [Act.put, List.setIfInBounds_toArray, List.set_cons_zero, List.set_cons_succ]
  refine WL.val (by kernel_rfl) (.pointer (some ⟨g, 0, none⟩)) (by go_simp) ?_
  simp only [Act.put, List.setIfInBounds_toArray, List.set_cons_zero, List.set_cons_succ]
  refine WL.val (by kernel_rfl) (.slice (some ⟨pg, 0, none⟩) 0 0) (by go_simp) ?_
  simp only [Act.put, List.setIfInBounds_toArray, List.set_cons_zero, List.set_cons_succ]
  refine WL.val (by kernel_rfl) (.int .i64 0) (by go_simp) ?_
  simp only [Act.put, List.setIfInBounds_toArray, List.set_cons_zero, List.set_cons_succ]
  refine WL.nil ?_
  refine hK14 _ _ ?_
  refine wp_ret ?_
  go_ret3
  exact ⟨g, pg, rfl, HJ4.out, hlt2.out.2, B4.out⟩
set_option maxRecDepth 8000 in
theorem open_nil (w : World) : Calls Tryd.prog 7 #[.pointer none] w fun r w' => r = .returned (.tuple #[.pointer none, .slice none 0 0, .int .i64 1]) ∧ w' = w := by
  go_enter Tryd.func7, Tryd.ntmps7
  refine wp_seq_k fun K1 hK1 => ?_
  refine wp_region_list (WL.out ?_)
  refine WL.val (by kernel_rfl) (.pointer none) (by go_simp) ?_
  simp only [Act.put, List.setIfInBounds_toArray, List.set_cons_zero, List.set_cons_succ]
  refine WL.val (by kernel_rfl) (.slice none 0 0) (by go_simp) ?_
  simp only [Act.put, List.setIfInBounds_toArray, List.set_cons_zero, List.set_cons_succ]
  refine WL.val (by kernel_rfl) (.int .i64 0) (by go_simp) ?_
  simp only [Act.put, List.setIfInBounds_toArray, List.set_cons_zero, List.set_cons_succ]
  refine WL.nil ?_
  refine hK1 _ _ ?_
  refine wp_seq_k fun K2 hK2 => ?_
  refine wp_seq_k fun K3 hK3 => ?_
  refine wp_region_list (WL.out ?_)
  refine WL.val (by kernel_rfl) (.pointer none) (by go_simp) ?_
  simp only [Act.put, List.setIfInBounds_toArray, List.set_cons_zero, List.set_cons_succ]
  refine WL.val (by kernel_rfl) (.bool true) (by go_simp) ?_
  simp only [Act.put, List.setIfInBounds_toArray, List.set_cons_zero, List.set_cons_succ]
  refine WL.nil ?_
  refine hK3 _ _ ?_
  refine wp_cond_true rfl ?_
  refine wp_seq_k fun K4 hK4 => ?_
  refine wp_region_list (WL.out ?_)
  refine WL.val (by kernel_rfl) (.pointer none) (by go_simp) ?_
  simp only [Act.put, List.setIfInBounds_toArray, List.set_cons_zero, List.set_cons_succ]
  refine WL.val (by kernel_rfl) (.slice none 0 0) (by go_simp) ?_
  simp only [Act.put, List.setIfInBounds_toArray, List.set_cons_zero, List.set_cons_succ]
  refine WL.val (by kernel_rfl) (.int .i64 1) (by go_simp) ?_
  simp only [Act.put, List.setIfInBounds_toArray, List.set_cons_zero, List.set_cons_succ]
  refine WL.nil ?_
  refine hK4 _ _ ?_
  refine wp_ret ?_
  go_ret3
  exact ⟨rfl, rfl⟩
theorem Tryd.newPl (w : World) : (Instr.alloc 79 true (.tuple #[])).run Tryd.prog w = .ok (.pointer (some ⟨w.heap.size, 0, none⟩)) (w.alloc (.cells #[.int .i64 0, .int .i64 0] 79)) := by kernel_rfl
set_option maxRecDepth 8000 in
theorem next_none (g : Nat) (n : Int) (w : World) (c2 : w.cell? ⟨g, 2, none⟩ = some (.int .i64 (-1))) : Calls Tryd.prog 44 #[ptr g, .int .i64 n] w fun r w' => r = .returned (.agg #[.int .i64 0, .int .i64 0]) ∧ Below w.heap.size w w' := by
  go_enter Tryd.func44, Tryd.ntmps44
  refine wp_seq_k fun K1 hK1 => ?_
  refine wp_region_list (WL.out ?_)
  refine WL.new (by kernel_rfl) 79 rfl _ Tryd.newPl ?_
  have HP := Keep.mk (Blk.new w 79 #[.int .i64 0, .int .i64 0])
  have B1 := Keep.mk (below_new w (.cells #[.int .i64 0, .int .i64 0] 79))
  have c2' : (w.alloc (.cells #[.int .i64 0, .int .i64 0] 79)).cell? ⟨g, 2, none⟩ = some (.int .i64 (-1)) := by rw [World.cell?_alloc_lt _ _ _ (cell_lt c2)]; exact c2
  clear c2
  have hw0 : IntKind.i64.wrap 0 = 0 := by rw [IntKind.wrap_i64]; rfl
  generalize w.alloc (.cells #[.int .i64 0, .int .i64 0] 79) = w1 at *
  obtain ⟨q, hq⟩ : ∃ p, Keep (p = w.heap.size) := ⟨_, ⟨rfl⟩⟩
  rw [← hq.out] at HP ⊢
  simp only [Act.put, List.setIfInBounds_toArray, List.set_cons_zero, List.set_cons_succ]
  refine WL.nil ?_
  refine hK1 _ _ ?_
  refine wp_seq_k fun K2 hK2 => ?_
  refine wp_seq_k fun K3 hK3 => ?_
  refine wp_region_list (WL.out ?_)
  refine WL.val (by kernel_rfl) (.pointer (some ⟨g, 0, none⟩)) (by go_simp) ?_
  simp only [Act.put, List.setIfInBounds_toArray, List.set_cons_zero, List.set_cons_succ]
  refine WL.val (by kernel_rfl) (.pointer (some ⟨g, 0, none⟩)) (by go_simp) ?_
  simp only [Act.put, List.setIfInBounds_toArray, List.set_cons_zero, List.set_cons_succ]
  refine WL.val (by kernel_rfl) (.pointer (some ⟨g, 2, none⟩)) (by go_simp) ?_
  simp only [Act.put, List.setIfInBounds_toArray, List.set_cons_zero, List.set_cons_succ]
  refine WL.val (by kernel_rfl) (.int .i64 (-1)) (by go_simp) ?_
  simp only [Act.put, List.setIfInBounds_toArray, List.set_cons_zero, List.set_cons_succ]
  refine WL.val (by kernel_rfl) (.bool true) (by go_simp) ?_
  simp only [Act.put, List.setIfInBounds_toArray, List.set_cons_zero, List.set_cons_succ]
  refine WL.val (by kernel_rfl) (.bool true) (by go_simp) ?_
  simp only [Act.put, List.setIfInBounds_toArray, List.set_cons_zero, List.set_cons_succ]
  refine WL.skip (by kernel_rfl) ?_
  simp only [Act.put, List.setIfInBounds_toArray, List.set_cons_zero, List.set_cons_succ]
  refine WL.skip (by kernel_rfl) ?_
  simp only [Act.put, List.setIfInBounds_toArray, List.set_cons_zero, List.set_cons_succ]
  refine WL.skip (by kernel_rfl) ?_
  simp only [Act.put, List.setIfInBounds_toArray, List.set_cons_zero, List.set_cons_succ]
  refine WL.skip (by kernel_rfl) ?_
  simp only [Act.put, List.setIfInBounds_toArray, List.set_cons_zero, List.set_cons_succ]
  refine WL.skip (by kernel_rfl) ?_
  simp only [Act.put, List.setIfInBounds_toArray, List.set_cons_zero, List.set_cons_succ]
  refine WL.skip (by kernel_rfl) ?_
  simp only [Act.put, List.setIfInBounds_toArray, List.set_cons_zero, List.set_cons_succ]
  refine WL.skip (by kernel_rfl) ?_
  simp only [Act.put, List.setIfInBounds_toArray, List.set_cons_zero, List.set_cons_succ]
  refine WL.skip (by kernel_rfl) ?_
  simp only [Act.put, List.setIfInBounds_toArray, List.set_cons_zero, List.set_cons_succ]
  refine WL.skip (by kernel_rfl) ?_
  simp only [Act.put, List.setIfInBounds_toArray, List.set_cons_zero, List.set_cons_succ]
  refine WL.skip (by kernel_rfl) ?_
  simp only [Act.put, List.setIfInBounds_toArray, List.set_cons_zero, List.set_cons_succ]
  refine WL.skip (by kernel_rfl) ?_
  simp only [Act.put, List.setIfInBounds_toArray, List.set_cons_zero, List.set_cons_succ]
  refine WL.skip (by kernel_rfl) ?_
  simp only [Act.put, List.setIfInBounds_toArray, List.set_cons_zero, List.set_cons_succ]
  refine WL.skip (by kernel_rfl) ?_
  simp only [Act.put, List.setIfInBounds_toArray, List.set_cons_zero, List.set_cons_succ]
  refine WL.skip (by kernel_rfl) ?_
  simp only [Act.put, List.setIfInBounds_toArray, List.set_cons_zero, List.set_cons_succ]
  refine WL.val (by kernel_rfl) (.bool true) (by go_simp) ?_
  simp only [Act.put, List.setIfInBounds_toArray, List.set_cons_zero, List.set_cons_succ]
  refine WL.nil ?_
  refine hK3 _ _ ?_
  refine wp_cond_true rfl ?_
  refine wp_seq_k fun K4 hK4 => ?_
  refine wp_region_list (WL.out ?_)
  refine WL.val (by kernel_rfl) (.pointer (some ⟨g, 0, none⟩)) (by go_simp) ?_
  simp only [Act.put, List.setIfInBounds_toArray, List.set_cons_zero, List.set_cons_succ]
  refine WL.val (by kernel_rfl) (.pointer (some ⟨g, 0, none⟩)) (by go_simp) ?_
  simp only [Act.put, List.setIfInBounds_toArray, List.set_cons_zero, List.set_cons_succ]
  refine WL.val (by kernel_rfl) (.pointer (some ⟨g, 2, none⟩)) (by go_simp) ?_
  simp only [Act.put, List.setIfInBounds_toArray, List.set_cons_zero, List.set_cons_succ]
  refine WL.val (by kernel_rfl) (.int .i64 (-1)) (by go_simp) ?_
  simp only [Act.put, List.setIfInBounds_toArray, List.set_cons_zero, List.set_cons_succ]
  refine WL.val (by kernel_rfl) (.int .i64 0) (by go_simp) ?_
  simp only [Act.put, List.setIfInBounds_toArray, List.set_cons_zero, List.set_cons_succ]
  refine WL.bld (by kernel_rfl) 79 _ rfl [(0, .int .i64 0)] (by simp [Act.eval]) #[.int .i64 0, .int .i64 0] (by kernel_rfl) ?_
  simp only [Act.put, List.setIfInBounds_toArray, List.set_cons_zero, List.set_cons_succ]
  refine WL.storeR (by kernel_rfl) 79 (.tmp 4) (.tmp 31) rfl q #[.int .i64 0, .int .i64 0] rfl rfl 79 #[.int .i64 0, .int .i64 0] HP.out (by kernel_rfl) rfl (by kernel_rfl) ?_
  have HP2 := Keep.mk (HP.out.setRow #[.int .i64 0, .int .i64 0])
  have B2 : Keep (Below w.heap.size w (w1.setRow q #[.int .i64 0, .int .i64 0])) := ⟨below_setRow B1.out (by rw [hq.out]; exact Nat.le_refl _) _⟩
  clear HP
  generalize w1.setRow q #[.int .i64 0, .int .i64 0] = w2 at *
  simp only [Act.put]
  refine WL.nil ?_
  refine hK4 _ _ ?_
  refine wp_ret ?_
  try simp only [Exit.inBlock, Exit.then]
  refine bodyPost_ret (v := .agg #[.int .i64 0, .int .i64 0]) (results_cell1_row Tryd.results44 _ _ q 79 _ (0, 0) _ rfl HP2.out Tryd.underlying79 rfl (by kernel_rfl)) rfl ?_
  exact ⟨rfl, B2.out⟩
end Go.Proofs.YtennogmeeefopaaDoor
namespace Go.Proofs.YtennogmeeefopaaDoor
open Go.RowKit
set_option linter.unusedSimpArgs false
set_option linter.unusedVariables false

theorem OwnF.cells {w : World} {g n c : Nat} {l : List FC} (h : OwnF w (.slice (some ⟨g, 0, none⟩) n c) l) {j : Nat} {u : Value} (hj : (fL l)[j]? = some u) : w.cell? ⟨g, j, none⟩ = some u := by
  rcases h.form with ⟨e, _⟩ | ⟨g', cap, cur, e, hb, h3, h4, h5, h6⟩
  · cases e
  · injection e with e1 e2 e3
    injection e1 with e1
    injection e1 with e1
    subst e1 e2 e3
    rw [hb.cell]
    rw [← h6, List.getElem?_take] at hj
    split at hj
    · rw [← hj]; simp
    · cases hj
/-- Where files stand that are to be appended. -/
def SrcF (w : World) (v : Value) (m : List FC) : Prop :=
  (v = .slice none 0 0 ∧ m = []) ∨ ∃ g off c, v = .slice (some ⟨g, off, none⟩) m.length c ∧ ∀ j u, (fL m)[j]? = some u → w.cell? ⟨g, off + j, none⟩ = some u
theorem Tryd.elemFs : Tryd.prog.elem 44 = 70 := by kernel_rfl
theorem Tryd.sizeOfF (w : World) : (sizeOf 70).run Tryd.prog w = .ok 3 w := by kernel_rfl
theorem slF_hi {w : World} {a : Option Addr} {n c : Nat} {l : List FC} (h : OwnF w (.slice a n c) l) (i : Nat) (hi : i ≤ l.length) : ∃ vs, (∀ wx : World, (Instr.sliceAt 44 (.slice a n c) none (some (.int .i64 (i : Int))) none).run Tryd.prog wx = .ok vs wx) ∧ ∀ wx, OwnF wx (.slice a n c) l → SrcF wx vs (l.take i) := by
  have hu : Tryd.prog.underlying 44 = some (.slice (Tryd.prog.elem 44)) := by rw [Tryd.elemFs]; exact Tryd.underlying44
  have hc : i ≤ c := by
    rcases h.form with ⟨e, hl⟩ | ⟨g', cap, cur, e, hb, h3, h4, h5, h6⟩
    · subst hl; simp at hi; omega
    · injection e with e1 e2 e3; subst e3; omega
  refine ⟨sliced a 0 i c 3, fun wx => ?_, fun wx hx => ?_⟩
  · have h1 := run_slice_h (P := Tryd.prog) (w := wx) 44 a n c hu .i64 (i : Int) (by omega) (by omega)
    rw [run_sliceAt_slice (P := Tryd.prog) (w := wx) 44 (.slice a n c) none (some (.int .i64 (i : Int))) none hu, h1, Tryd.elemFs]
    refine (congrArg (fun z => Result.andThen z fun s w => Result.ok (sliced a 0 (i : Int).toNat c s) w) (Tryd.sizeOfF wx)).trans ?_
    show Result.ok (sliced a 0 (i : Int).toNat c 3) wx = _
    rw [Int.toNat_natCast]
  · rcases hx.form with ⟨e, hl⟩ | ⟨g', cap, cur, e, hb, h3, h4, h5, h6⟩
    · injection e with e1 e2 e3
      subst e1 e2 e3 hl
      obtain rfl : i = 0 := by simpa using hi
      exact .inl ⟨rfl, by simp⟩
    · injection e with e1 e2 e3
      subst e1 e2 e3
      refine .inr ⟨g', 0, c, ?_, fun j u hj => ?_⟩
      · unfold sliced
        rw [List.length_take, Nat.min_eq_left hi]
        split <;> simp [Addr.add]
      · rw [fL_take, List.getElem?_take] at hj
        split at hj
        · rw [Nat.zero_add]; exact hx.cells hj
        · cases hj
theorem slF_lo {w : World} {a : Option Addr} {n c : Nat} {l : List FC} (h : OwnF w (.slice a n c) l) (i : Nat) (hi : i ≤ l.length) : ∃ vs, (∀ wx : World, (Instr.sliceAt 44 (.slice a n c) (some (.int .i64 (i : Int))) none none).run Tryd.prog wx = .ok vs wx) ∧ ∀ wx, OwnF wx (.slice a n c) l → SrcF wx vs (l.drop i) := by
  have hu : Tryd.prog.underlying 44 = some (.slice (Tryd.prog.elem 44)) := by rw [Tryd.elemFs]; exact Tryd.underlying44
  have hc : i ≤ n ∧ n = l.length := by
    rcases h.form with ⟨e, hl⟩ | ⟨g', cap, cur, e, hb, h3, h4, h5, h6⟩
    · injection e with e1 e2 e3; subst hl e2; simp at hi; subst hi; exact ⟨Nat.le_refl _, rfl⟩
    · injection e with e1 e2 e3; subst e2; exact ⟨hi, rfl⟩
  refine ⟨sliced a i n c 3, fun wx => ?_, fun wx hx => ?_⟩
  · have h1 := run_slice_l (P := Tryd.prog) (w := wx) 44 a n c hu .i64 (i : Int) (by omega) (by omega)
    rw [run_sliceAt_slice (P := Tryd.prog) (w := wx) 44 (.slice a n c) (some (.int .i64 (i : Int))) none none hu, h1, Tryd.elemFs]
    refine (congrArg (fun z => Result.andThen z fun s w => Result.ok (sliced a (i : Int).toNat n c s) w) (Tryd.sizeOfF wx)).trans ?_
    show Result.ok (sliced a (i : Int).toNat n c 3) wx = _
    rw [Int.toNat_natCast]
  · rcases hx.form with ⟨e, hl⟩ | ⟨g', cap, cur, e, hb, h3, h4, h5, h6⟩
    · injection e with e1 e2 e3
      subst e1 e2 e3 hl
      obtain rfl : i = 0 := by simpa using hi
      exact .inl ⟨rfl, by simp⟩
    · injection e with e1 e2 e3
      subst e1 e2 e3
      unfold sliced
      by_cases hci : c = i
      · have hd : l.drop i = [] := List.drop_eq_nil_of_le (by omega)
        rw [if_pos hci, hd]
        refine .inr ⟨g', 0, c - i, ?_, fun j u hj => by simp [fL] at hj⟩
        rw [show l.length - i = 0 by omega]; rfl
      · rw [if_neg hci]
        refine .inr ⟨g', i * 3, c - i, ?_, fun j u hj => ?_⟩
        · rw [List.length_drop]; simp [Addr.add]; try omega
        · rw [fL_drop, List.getElem?_drop] at hj
          exact hx.cells hj
theorem run_appS (w : World) (ty : TypeId) (v vs : Value) (l m : List FC) (hown : OwnF w v l) (hm : ∀ x ∈ m, SlF x) (hs : SrcF w vs m) (hb : l.length + m.length ≤ 1000000000000) :
    ∃ v' w', (Builtin.append_ #[44, 44] ty #[v, vs]).run Tryd.prog w = .ok v' w' ∧ OwnF w' v' (l ++ m) ∧ (Grown w w' fun k => v.ownBlock = some k) ∧ Moved w v v' := by
  rcases hs with ⟨rfl, rfl⟩ | ⟨g, off, c, rfl, hg⟩
  · obtain ⟨i, hi, _⟩ := Option.map_eq_some_iff.1 Tryd.infoF
    exact ⟨v, w, run_append_owned_none (P := Tryd.prog) (w := w) 0 44 ty 70 i 3 Tryd.underlying44 hi v l.length (fL l) hown, by rw [List.append_nil]; exact hown, Grown.refl _ _, Moved.refl _ _⟩
  · exact run_appF w ty v l hown g off c m hm hg hb
theorem WL.appS {ops : Array Oper} {rest : List Oper} {o : Oper} {a : Act} {w : World} {Q : Exit → Act → World → Prop} (hw : Region.wanted o (yielded ops a.tmps) = true) (s x : Operand)
    (ho : o.op = .call { callee := .builtin .append, args := #[s, x], argTypes := #[44, 44] }) (v vs : Value) (l m : List FC) (hm : ∀ x ∈ m, SlF x)
    (hs : a.eval s = v) (hx : a.eval x = vs) (hown : OwnF w v l) (hsrc : SrcF w vs m) (hb : l.length + m.length ≤ 1000000000000)
    (h : ∀ v' w', OwnF w' v' (l ++ m) → (Grown w w' fun k => v.ownBlock = some k) → Moved w v v' → WL Tryd.prog ops Q rest (a.put o.dst v') w') : WL Tryd.prog ops Q (o :: rest) a w :=
  ⟨wpList_wanted hw fun K hK => by
    obtain ⟨v', w', hr, h1, h2, h3⟩ := run_appS w o.type v vs l m hown hm hsrc hb
    unfold Oper.wp execOp
    simp only [ho, resolve, invoke, builtin, Sem.run_bind, Sem.run_pure, Result.andThen_ok, List.map_toArray, List.map_cons, List.map_nil, hs, hx, hr]
    exact hK _ _ (h v' w' h1 h2 h3).out⟩
theorem WL.slHi {ops : Array Oper} {rest : List Oper} {o : Oper} {a : Act} {w : World} {Q : Exit → Act → World → Prop} (hw : Region.wanted o (yielded ops a.tmps) = true) (x hi : Operand) (ho : o.op = .slice 44 x none (some hi) none)
    (vx vh vs : Value) (hx : a.eval x = vx) (hh : a.eval hi = vh) (hr : (Instr.sliceAt 44 vx none (some vh) none).run Tryd.prog w = .ok vs w) (h : WL Tryd.prog ops Q rest (a.put o.dst vs) w) : WL Tryd.prog ops Q (o :: rest) a w :=
  WL.val hw vs (by unfold execOp; simp only [ho, hx, hh, Option.map_some, Option.map_none, Sem.run_bind, hr, Result.andThen_ok, Sem.run_pure]) h
theorem WL.slLo {ops : Array Oper} {rest : List Oper} {o : Oper} {a : Act} {w : World} {Q : Exit → Act → World → Prop} (hw : Region.wanted o (yielded ops a.tmps) = true) (x lo : Operand) (ho : o.op = .slice 44 x (some lo) none none)
    (vx vh vs : Value) (hx : a.eval x = vx) (hh : a.eval lo = vh) (hr : (Instr.sliceAt 44 vx (some vh) none none).run Tryd.prog w = .ok vs w) (h : WL Tryd.prog ops Q rest (a.put o.dst vs) w) : WL Tryd.prog ops Q (o :: rest) a w :=
  WL.val hw vs (by unfold execOp; simp only [ho, hx, hh, Option.map_some, Option.map_none, Sem.run_bind, hr, Result.andThen_ok, Sem.run_pure]) h
/-- One more in a list. -/
theorem ins_get {α : Type} (l : List α) (x : α) (i j : Nat) (hi : i ≤ l.length) : (l.take i ++ [x] ++ l.drop i)[j]? = if j < i then l[j]? else if j = i then some x else l[j - 1]? := by
  rw [List.append_assoc, List.getElem?_append, List.length_take, Nat.min_eq_left hi]
  by_cases h : j < i
  · rw [if_pos h, if_pos h, List.getElem?_take, if_pos h]
  · rw [if_neg h, if_neg h]
    by_cases h2 : j = i
    · subst h2; simp
    · rw [if_neg h2, List.singleton_append, show j - i = (j - 1 - i) + 1 by omega, List.getElem?_cons_succ, List.getElem?_drop, show i + (j - 1 - i) = j - 1 by omega]
theorem FcsAt.ins {w : World} {cs : List FC} {fs : List PF} (h : FcsAt w cs fs) (i : Nat) (hi : i ≤ cs.length) (n : ByteArray) : FcsAt w (cs.take i ++ [⟨n, .slice none 0 0, 0⟩] ++ cs.drop i) (fs.take i ++ [⟨n, [], 0⟩] ++ fs.drop i) := by
  have hl := h.len
  refine ⟨by simp; omega, fun j x f hx hf => ?_, fun j k x y hx hy hne b hb => ?_⟩
  · rw [ins_get _ _ _ _ hi] at hx
    rw [ins_get _ _ _ _ (by omega)] at hf
    by_cases h1 : j < i
    · rw [if_pos h1] at hx hf; exact h.each j x f hx hf
    · rw [if_neg h1] at hx hf
      by_cases h2 : j = i
      · rw [if_pos h2] at hx hf
        injection hx with hx; injection hf with hf; subst hx hf
        exact ⟨rfl, rfl, own_nil w⟩
      · rw [if_neg h2] at hx hf; exact h.each _ x f hx hf
  · have hold : ∀ m z, (cs.take i ++ [⟨n, .slice none 0 0, 0⟩] ++ cs.drop i)[m]? = some z → (∃ q, z.b.ownBlock = some q) → m ≠ i ∧ cs[if m < i then m else m - 1]? = some z := fun m z hz ⟨q, hq⟩ => by
      rw [ins_get _ _ _ _ hi] at hz
      by_cases h1 : m < i
      · rw [if_pos h1] at hz ⊢; exact ⟨by omega, hz⟩
      · rw [if_neg h1] at hz ⊢
        by_cases h2 : m = i
        · rw [if_pos h2] at hz; injection hz with hz; subst hz; cases hq
        · rw [if_neg h2] at hz; exact ⟨h2, hz⟩
    intro hyb
    obtain ⟨n1, h1⟩ := hold j x hx ⟨b, hb⟩
    obtain ⟨n2, h2⟩ := hold k y hy ⟨b, hyb⟩
    refine h.apart _ _ x y h1 h2 ?_ b hb hyb
    split <;> split <;> omega
theorem ins_set {α : Type} (l : List α) (x y : α) (i : Nat) (hi : i ≤ l.length) : (l.take i ++ [x] ++ l.drop i).set i y = l.take i ++ [y] ++ l.drop i := by
  rw [List.append_assoc, List.set_append, List.length_take, Nat.min_eq_left hi, if_neg (Nat.lt_irrefl i), Nat.sub_self, List.append_assoc]
  rfl
theorem FcsAt.set {w w' : World} {cs : List FC} {fs : List PF} (h : FcsAt w cs fs) {i : Nat} {x : FC} {f : PF} (hi : i < cs.length) (hnew : FcAt w' x f)
    (hold : ∀ (j : Nat) (y : FC) (g : PF), j ≠ i → cs[j]? = some y → fs[j]? = some g → FcAt w' y g) (hap : ∀ (j : Nat) (y : FC) (k : Nat), j ≠ i → cs[j]? = some y → x.b.ownBlock = some k → y.b.ownBlock ≠ some k) : FcsAt w' (cs.set i x) (fs.set i f) := by
  have hl := h.len
  have hg : ∀ (m : Nat) (z : FC), (cs.set i x)[m]? = some z → (m = i ∧ z = x) ∨ (m ≠ i ∧ cs[m]? = some z) := fun m z hz => by
    by_cases e : i = m
    · subst e; rw [List.getElem?_set_self hi] at hz; injection hz with hz; exact .inl ⟨rfl, hz.symm⟩
    · rw [List.getElem?_set_ne e] at hz; exact .inr ⟨fun e' => e e'.symm, hz⟩
  refine ⟨by simp; exact hl, fun j y g hy hg' => ?_, fun j k y z hy hz hne b hb hzb => ?_⟩
  · rcases hg j y hy with ⟨rfl, rfl⟩ | ⟨hn, hy⟩
    · rw [List.getElem?_set_self (by omega)] at hg'; injection hg' with hg'; subst hg'; exact hnew
    · rw [List.getElem?_set_ne (fun e => hn e.symm)] at hg'; exact hold j y g hn hy hg'
  · rcases hg j y hy with ⟨e1, e2⟩ | ⟨hn, hy2⟩
    · rcases hg k z hz with ⟨e3, e4⟩ | ⟨hn2, hz2⟩
      · exact hne (e1.trans e3.symm)
      · rw [e2] at hb; exact hap k z b hn2 hz2 hb hzb
    · rcases hg k z hz with ⟨e3, e4⟩ | ⟨hn2, hz2⟩
      · rw [e4] at hzb; exact hap j y b hn hy2 hzb hb
      · exact h.apart j k y z hy2 hz2 hne b hb hzb
/-- The blocks of a disk. -/
def DskS (p : Nat) (vf : Value) (cs : List FC) (k : Nat) : Prop := k = p ∨ vf.ownBlock = some k ∨ ∃ (i : Nat) (x : FC), cs[i]? = some x ∧ x.b.ownBlock = some k
theorem DskAt.sTyp {w : World} {p : Nat} {vf : Value} {cs : List FC} {D : DV} (h : DskAt w p vf cs D) {k : Nat} (hk : DskS p vf cs k) : Typ w k 5 ∨ Typ w k 70 ∨ Typ w k 73 := by
  rcases hk with rfl | hk | ⟨i, x, hi, hk⟩
  · exact .inr (.inr h.blk.typ)
  · exact .inr (.inl (h.own.typ hk))
  · have hl := (List.getElem?_eq_some_iff.1 hi).1
    rw [h.fcs.len] at hl
    exact .inl ((h.fcs.each i x _ hi (List.getElem?_eq_getElem hl)).2.2.typ hk)
end Go.Proofs.YtennogmeeefopaaDoor
