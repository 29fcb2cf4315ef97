import Derived.Test.YtlogkojhcccogaaB05
import Derived.Test.YtlogkojhcccogaaB06
import Derived.Test.YtlogkojhcccogaaB07
import Derived.Test.YtlogkojhcccogaaB04
import Derived.Deep.RegionHeld3
import Derived.ProofKit
import Derived.OpenShut
import Derived.ShutString
import Derived.ChangeOld
import Derived.Below
import Derived.SizedLaws
import Derived.Deep.Slices
import Derived.Deep.Strs
namespace Go.Proofs.Ytlogkojhcccogaa
open Go.RowKit
set_option linter.unusedSimpArgs false
set_option linter.unusedVariables false

theorem Try.in49 (w : World) (vs : Array Value) : (callFunc 49 vs).run Try.prog w = .ok (.enter 49 vs) w := by kernel_rfl
set_option maxRecDepth 8000 in
theorem row_any (v : Value) (l : List Int) (w : World) (h : RowAt w v l) (hl : l.length ≤ 140737488355328) : Calls Try.prog 49 #[v] w fun e w' => e = .returned (.bool (decide (0 < l.length ∧ l.length ≤ 1048576))) ∧ w' = w := by
  obtain ⟨a, c, rfl⟩ := row_form h
  generalize l.length = n at *
  clear h
  go_enter Try.func49, Try.ntmps49
  by_cases h1 : (1 : Int) ≤ (n : Int)
  · by_cases h2 : (n : Int) ≤ 1048576
    · rw [decide_eq_true (show 0 < n ∧ n ≤ 1048576 by omega)]
      go_wp2
      go_ret
      exact ⟨rfl, rfl⟩
    · rw [decide_eq_false (show ¬ (0 < n ∧ n ≤ 1048576) by omega)]
      go_wp2
      go_ret
      exact ⟨rfl, rfl⟩
  · rw [decide_eq_false (show ¬ (0 < n ∧ n ≤ 1048576) by omega)]
    go_wp2
    go_ret
    exact ⟨rfl, rfl⟩
theorem Try.in50 (w : World) (vs : Array Value) : (callFunc 50 vs).run Try.prog w = .ok (.enter 50 vs) w := by kernel_rfl
theorem Try.in18 (w : World) (vs : Array Value) : (callFunc 18 vs).run Try.prog w = .ok (.enter 18 vs) w := by kernel_rfl
def AL (rs : List (List Int)) (k : Nat) : Nat := ((rs.take k).flatMap bform).length
theorem AL_0 (rs : List (List Int)) : AL rs 0 = 0 := by simp [AL]
theorem AL_next {rs : List (List Int)} {k : Nat} {x : List Int} (h : rs[k]? = some x) : AL rs (k + 1) = AL rs k + (numL x.length).length + x.length := by
  unfold AL
  rw [List.take_add_one, h, List.flatMap_append, List.length_append]
  simp [bform]
  omega
theorem AL_le {rs : List (List Int)} (h : okR rs = true) : ∀ k, AL rs k ≤ k * 1048586
  | 0 => by simp [AL]
  | k + 1 => by
    have ih := AL_le h k
    cases hx : rs[k]? with
    | none =>
      have hl : rs.length ≤ k := List.getElem?_eq_none_iff.1 hx
      have : AL rs (k + 1) = AL rs k := by unfold AL; rw [List.take_of_length_le (by omega), List.take_of_length_le hl]
      omega
    | some x =>
      have hk := (List.getElem?_eq_some_iff.1 hx).1
      have h1 := (okR_iff rs).1 h k hk
      rw [List.getD_eq_getElem?_getD, hx] at h1
      simp at h1
      have h2 := numL_len x.length
      rw [AL_next hx]
      omega
theorem fitG_next {rs : List (List Int)} {k : Nat} {x : List Int} (h : rs[k]? = some x) : fitG (rs.drop k) k (AL rs k) = if k = 256 ∨ 2097152 < 1 + (numL (k + 1)).length + AL rs (k + 1) then k else fitG (rs.drop (k + 1)) (k + 1) (AL rs (k + 1)) := by
  have hk := (List.getElem?_eq_some_iff.1 h).1
  have hx : rs[k] = x := (List.getElem?_eq_some_iff.1 h).2
  rw [List.drop_eq_getElem_cons hk, fitG, hx, AL_next h]
  simp only [bform, List.length_append, Nat.add_assoc]
theorem fitG_end {rs : List (List Int)} {k : Nat} (h : rs.length ≤ k) (a : Nat) : fitG (rs.drop k) k a = k := by
  rw [List.drop_of_length_le h, fitG]
def RBlkPost (ls : List (List Int)) (w : World) (e : Ending) (w' : World) : Prop :=
  Below w.heap.size w w' ∧ ((okR ls = false ∧ e = .returned (.tuple #[noS, .int .i64 4])) ∨ (okR ls = true ∧ ∃ v D cs, e = .returned (.tuple #[v, .int .i64 0]) ∧ OwnM w' v cs ∧ isCh ls D ∧ MsgsOf (RwsAt w) cs D))
set_option maxRecDepth 8000 in
set_option maxHeartbeats 4000000 in
theorem rblocks_any (v : Value) (ls : List (List Int)) (w : World) (hr : RwsAt w v ls) (hn : ls.length ≤ 1000000000000) (hrl : ∀ i, i < ls.length → (ls.getD i []).length ≤ 140737488355328) : Calls Try.prog 18 #[v] w (RBlkPost ls w) := by
  obtain ⟨pa, pc, rfl⟩ := hr.form
  have HR := Keep.mk hr
  have HRl := Keep.mk hrl
  clear hr hrl
  go_enter Try.func18, Try.ntmps18
  refine wp_seq_k fun K1 hK1 => ?_
  refine wp_region_list (WL.out ?_)
  refine WL.val (by kernel_rfl) (.slice none 0 0) (by go_simp) ?_
  simp only [Act.put, List.setIfInBounds_toArray, List.set_cons_zero, List.set_cons_succ]
  refine WL.val (by kernel_rfl) (.int .i64 0) (by go_simp) ?_
  simp only [Act.put, List.setIfInBounds_toArray, List.set_cons_zero, List.set_cons_succ]
  refine WL.nil ?_
  refine hK1 _ _ ?_
  refine wp_seq_k fun K2 hK2 => ?_
  refine wp_seq_k fun K3 hK3 => ?_
  refine wp_region_list (WL.out ?_)
  refine WL.val (by kernel_rfl) (.int .i64 0) (by go_simp) ?_
  simp only [Act.put, List.setIfInBounds_toArray, List.set_cons_zero, List.set_cons_succ]
  refine WL.nil ?_
  refine hK3 _ _ ?_
  refine wp_block ?_
  refine wp_loop (fun ac wr => ∃ (t : Nat) (u2 u3 u5 u11 u12 u13 u14 u15 u16 u17 u18 u19 u20 u21 u22 u23 : Value), ac = { tmps := #[.slice pa ls.length pc, undef, u2, u3, .int .i64 (t : Int), u5, undef, undef, undef, undef, undef, u11, u12, u13, u14, u15, u16, u17, u18, u19, u20, u21, u22, u23, undef, undef, undef, undef, undef, undef, undef, undef, undef, undef, undef, undef, undef, undef, undef, undef, undef, undef, undef, undef, undef, undef, undef, undef, undef, undef, undef, undef, undef, undef, undef, undef, undef, undef, undef, undef, undef, undef, undef, undef, undef, undef, undef, undef, undef, undef, undef, undef, undef, undef, undef, undef, undef, undef, undef, undef, undef, undef, undef], defers := [] } ∧ t ≤ ls.length ∧ wr = w ∧ ∀ i, i < t → 0 < (ls.getD i []).length ∧ (ls.getD i []).length ≤ 1048576) (fun a _ => ls.length - (intOf (a.tmps.getD 4 undef)).toNat) ⟨0, .slice none 0 0, .int .i64 0, undef, undef, undef, undef, undef, undef, undef, undef, undef, undef, undef, undef, undef, undef, rfl, by omega, rfl, fun i hi => absurd hi (Nat.not_lt_zero _)⟩ ?_
  rintro ac wr ⟨t, u2, u3, u5, u11, u12, u13, u14, u15, u16, u17, u18, u19, u20, u21, u22, u23, rfl, ht, hwr, hall⟩
  obtain rfl := hwr
  by_cases hlt : t < ls.length
  · have hlt' : (t : Int) < (ls.length : Int) := by omega
    have hnt : ¬ (t : Int) < 0 := by omega
    have hwt : IntKind.i64.wrap ((t : Int) + 1) = (t : Int) + 1 := by rw [IntKind.wrap_i64]; omega
    obtain ⟨qb, ob, ya, yc, hxa, _, hcl, hrow⟩ := HR.out.at t hlt
    subst hxa
    have hrl := HRl.out t hlt
    obtain ⟨x, hx⟩ : ∃ x, x = ls.getD t [] := ⟨_, rfl⟩
    rw [← hx] at hcl hrow hrl
    have Hx := Keep.mk hx
    have HCr := Keep.mk (row_any _ x wr hrow hrl)
    clear hx hrow
    by_cases hro : 0 < x.length ∧ x.length ≤ 1048576
    · rw [decide_eq_true hro] at HCr
      have Hro := Keep.mk hro
      clear hro
      refine wp_seq_k fun K4 hK4 => ?_
      refine wp_seq_k fun K5 hK5 => ?_
      refine wp_region_list (WL.out ?_)
      refine WL.val (by kernel_rfl) (.int .i64 (t : Int)) (by go_simp) ?_
      simp only [Act.put, List.setIfInBounds_toArray, List.set_cons_zero, List.set_cons_succ]
      refine WL.val (by kernel_rfl) (.slice (some ⟨qb, ob, none⟩) ls.length pc) (by go_simp) ?_
      simp only [Act.put, List.setIfInBounds_toArray, List.set_cons_zero, List.set_cons_succ]
      refine WL.val (by kernel_rfl) (.int .i64 (ls.length : Int)) (by go_simp) ?_
      simp only [Act.put, List.setIfInBounds_toArray, List.set_cons_zero, List.set_cons_succ]
      refine WL.val (by kernel_rfl) (.bool true) (by go_simp) ?_
      simp only [Act.put, List.setIfInBounds_toArray, List.set_cons_zero, List.set_cons_succ]
      refine WL.nil ?_
      refine hK5 _ _ ?_
      refine wp_cond_true rfl ?_
      refine wp_skip ?_
      refine hK4 _ _ ?_
      refine wp_seq_k fun K6 hK6 => ?_
      refine wp_block ?_
      refine wp_seq_k fun K7 hK7 => ?_
      refine wp_region_list (WL.out ?_)
      refine WL.val (by kernel_rfl) (.slice (some ⟨qb, ob, none⟩) ls.length pc) (by go_simp) ?_
      simp only [Act.put, List.setIfInBounds_toArray, List.set_cons_zero, List.set_cons_succ]
      refine WL.val (by kernel_rfl) (.int .i64 (t : Int)) (by go_simp) ?_
      simp only [Act.put, List.setIfInBounds_toArray, List.set_cons_zero, List.set_cons_succ]
      refine WL.val (by kernel_rfl) (.pointer (some ⟨qb, ob + t, none⟩)) (by go_simp) ?_
      simp only [Act.put, List.setIfInBounds_toArray, List.set_cons_zero, List.set_cons_succ]
      refine WL.val (by kernel_rfl) (.slice ya x.length yc) (by go_simp) ?_
      simp only [Act.put, List.setIfInBounds_toArray, List.set_cons_zero, List.set_cons_succ]
      refine WL.callF (by kernel_rfl) 49 _ _ rfl Try.in49 #[.slice ya x.length yc] (by simp [Act.eval]) ?_
      refine (HCr.out).mono ?_
      rintro e w0 ⟨rfl, hw0⟩
      rw [hw0]
      clear hw0 w0
      refine ⟨_, rfl, ?_⟩
      simp only [Act.put, List.setIfInBounds_toArray, List.set_cons_zero, List.set_cons_succ]
      refine WL.val (by kernel_rfl) (.bool true) (by go_simp) ?_
      simp only [Act.put, List.setIfInBounds_toArray, List.set_cons_zero, List.set_cons_succ]
      refine WL.nil ?_
      refine hK7 _ _ ?_
      refine wp_seq_k fun K8 hK8 => ?_
      refine wp_region_list (WL.out ?_)
      refine WL.val (by kernel_rfl) (.bool true) (by go_simp) ?_
      simp only [Act.put, List.setIfInBounds_toArray, List.set_cons_zero, List.set_cons_succ]
      refine WL.val (by kernel_rfl) (.bool false) (by go_simp) ?_
      simp only [Act.put, List.setIfInBounds_toArray, List.set_cons_zero, List.set_cons_succ]
      refine WL.nil ?_
      refine hK8 _ _ ?_
      refine wp_cond_false rfl ?_
      refine wp_skip ?_
      refine hK6 _ _ ?_
      refine wp_region_list (WL.out ?_)
      refine WL.val (by kernel_rfl) (.int .i64 (t : Int)) (by go_simp) ?_
      simp only [Act.put, List.setIfInBounds_toArray, List.set_cons_zero, List.set_cons_succ]
      refine WL.val (by kernel_rfl) (.int .i64 ((t : Int) + 1)) (by go_simp) ?_
      simp only [Act.put, List.setIfInBounds_toArray, List.set_cons_zero, List.set_cons_succ]
      refine WL.val (by kernel_rfl) (.int .i64 ((t : Int) + 1)) (by go_simp) ?_
      simp only [Act.put, List.setIfInBounds_toArray, List.set_cons_zero, List.set_cons_succ]
      refine WL.nil ?_
      refine ⟨⟨t + 1, u2, u3, .bool true, .int .i64 (t : Int), .slice (some ⟨qb, ob, none⟩) ls.length pc, .int .i64 (ls.length : Int), .bool true, .int .i64 (t : Int), .int .i64 ((t : Int) + 1), .slice (some ⟨qb, ob, none⟩) ls.length pc, .int .i64 (t : Int), .pointer (some ⟨qb, ob + t, none⟩), .slice ya x.length yc, .bool true, .bool true, .bool false, rfl, by omega, rfl, fun i hi => ?_⟩, by simp [intOf]; omega⟩
      by_cases h : i < t
      · exact hall i h
      · obtain rfl : i = t := by omega
        rw [← Hx.out]; exact Hro.out
    · rw [decide_eq_false hro] at HCr
      have Hro := Keep.mk hro
      clear hro
      refine wp_seq_k fun K9 hK9 => ?_
      refine wp_seq_k fun K10 hK10 => ?_
      refine wp_region_list (WL.out ?_)
      refine WL.val (by kernel_rfl) (.int .i64 (t : Int)) (by go_simp) ?_
      simp only [Act.put, List.setIfInBounds_toArray, List.set_cons_zero, List.set_cons_succ]
      refine WL.val (by kernel_rfl) (.slice (some ⟨qb, ob, none⟩) ls.length pc) (by go_simp) ?_
      simp only [Act.put, List.setIfInBounds_toArray, List.set_cons_zero, List.set_cons_succ]
      refine WL.val (by kernel_rfl) (.int .i64 (ls.length : Int)) (by go_simp) ?_
      simp only [Act.put, List.setIfInBounds_toArray, List.set_cons_zero, List.set_cons_succ]
      refine WL.val (by kernel_rfl) (.bool true) (by go_simp) ?_
      simp only [Act.put, List.setIfInBounds_toArray, List.set_cons_zero, List.set_cons_succ]
      refine WL.nil ?_
      refine hK10 _ _ ?_
      refine wp_cond_true rfl ?_
      refine wp_skip ?_
      refine hK9 _ _ ?_
      refine wp_seq_k fun K11 hK11 => ?_
      refine wp_block ?_
      refine wp_seq_k fun K12 hK12 => ?_
      refine wp_region_list (WL.out ?_)
      refine WL.val (by kernel_rfl) (.slice (some ⟨qb, ob, none⟩) ls.length pc) (by go_simp) ?_
      simp only [Act.put, List.setIfInBounds_toArray, List.set_cons_zero, List.set_cons_succ]
      refine WL.val (by kernel_rfl) (.int .i64 (t : Int)) (by go_simp) ?_
      simp only [Act.put, List.setIfInBounds_toArray, List.set_cons_zero, List.set_cons_succ]
      refine WL.val (by kernel_rfl) (.pointer (some ⟨qb, ob + t, none⟩)) (by go_simp) ?_
      simp only [Act.put, List.setIfInBounds_toArray, List.set_cons_zero, List.set_cons_succ]
      refine WL.val (by kernel_rfl) (.slice ya x.length yc) (by go_simp) ?_
      simp only [Act.put, List.setIfInBounds_toArray, List.set_cons_zero, List.set_cons_succ]
      refine WL.callF (by kernel_rfl) 49 _ _ rfl Try.in49 #[.slice ya x.length yc] (by simp [Act.eval]) ?_
      refine (HCr.out).mono ?_
      rintro e w0 ⟨rfl, hw0⟩
      rw [hw0]
      clear hw0 w0
      refine ⟨_, rfl, ?_⟩
      simp only [Act.put, List.setIfInBounds_toArray, List.set_cons_zero, List.set_cons_succ]
      refine WL.val (by kernel_rfl) (.bool false) (by go_simp) ?_
      simp only [Act.put, List.setIfInBounds_toArray, List.set_cons_zero, List.set_cons_succ]
      refine WL.nil ?_
      refine hK12 _ _ ?_
      refine wp_seq_k fun K13 hK13 => ?_
      refine wp_region_list (WL.out ?_)
      refine WL.val (by kernel_rfl) (.bool false) (by go_simp) ?_
      simp only [Act.put, List.setIfInBounds_toArray, List.set_cons_zero, List.set_cons_succ]
      refine WL.val (by kernel_rfl) (.bool true) (by go_simp) ?_
      simp only [Act.put, List.setIfInBounds_toArray, List.set_cons_zero, List.set_cons_succ]
      refine WL.nil ?_
      refine hK13 _ _ ?_
      refine wp_cond_true rfl ?_
      refine wp_seq_k fun K14 hK14 => ?_
      refine wp_region_list (WL.out ?_)
      refine WL.val (by kernel_rfl) (.slice none 0 0) (by go_simp) ?_
      simp only [Act.put, List.setIfInBounds_toArray, List.set_cons_zero, List.set_cons_succ]
      refine WL.val (by kernel_rfl) (.int .i64 4) (by go_simp) ?_
      simp only [Act.put, List.setIfInBounds_toArray, List.set_cons_zero, List.set_cons_succ]
      refine WL.nil ?_
      refine hK14 _ _ ?_
      refine wp_ret ?_
      go_ret2
      refine ⟨Below.refl _ _, .inl ⟨?_, rfl⟩⟩
      rcases Bool.eq_false_or_eq_true (okR ls) with h | h
      · exact absurd (by rw [Hx.out]; exact (okR_iff ls).1 h t hlt) Hro.out
      · exact h
  · have hlt' : ¬ (t : Int) < (ls.length : Int) := by omega
    have Hok : Keep (okR ls = true) := ⟨(okR_iff ls).2 fun i hi => hall i (by omega)⟩
    clear hall
    refine wp_seq_k fun K15 hK15 => ?_
    refine wp_seq_k fun K16 hK16 => ?_
    refine wp_region_list (WL.out ?_)
    refine WL.val (by kernel_rfl) (.int .i64 (t : Int)) (by go_simp) ?_
    simp only [Act.put, List.setIfInBounds_toArray, List.set_cons_zero, List.set_cons_succ]
    refine WL.val (by kernel_rfl) (.slice pa ls.length pc) (by go_simp) ?_
    simp only [Act.put, List.setIfInBounds_toArray, List.set_cons_zero, List.set_cons_succ]
    refine WL.val (by kernel_rfl) (.int .i64 (ls.length : Int)) (by go_simp) ?_
    simp only [Act.put, List.setIfInBounds_toArray, List.set_cons_zero, List.set_cons_succ]
    refine WL.val (by kernel_rfl) (.bool false) (by go_simp) ?_
    simp only [Act.put, List.setIfInBounds_toArray, List.set_cons_zero, List.set_cons_succ]
    refine WL.nil ?_
    refine hK16 _ _ ?_
    refine wp_cond_false rfl ?_
    refine wp_exit ?_
    refine hK2 _ _ ?_
    refine wp_seq_k fun K17 hK17 => ?_
    refine wp_region_list (WL.out ?_)
    refine WL.bs (by kernel_rfl) 48 0 _ rfl #[] (by simp) _ _ (bsME wr) ?_
    have HO1 := Keep.mk (ownM_empty wr)
    have HB1 := Keep.mk (below_new wr (.cells #[] 28))
    have HF1 : Keep (∀ k, (Value.slice (some ⟨wr.heap.size, 0, none⟩) 0 0).ownBlock = some k → wr.heap.size ≤ k) := ⟨fun k hk => by simp [Value.ownBlock] at hk; omega⟩
    generalize wr.alloc (.cells #[] 28) = w1 at *
    generalize Value.slice (some ⟨wr.heap.size, 0, none⟩) 0 0 = v1 at *
    have HM1 : Keep (MsgsOf (RwsAt wr) [] []) := ⟨⟨rfl, fun i d hd => by simp at hd⟩⟩
    simp only [Act.put, List.setIfInBounds_toArray, List.set_cons_zero, List.set_cons_succ]
    refine WL.val (by kernel_rfl) (v1) (by go_simp) ?_
    simp only [Act.put, List.setIfInBounds_toArray, List.set_cons_zero, List.set_cons_succ]
    refine WL.nil ?_
    refine hK17 _ _ ?_
    refine wp_seq_k fun K18 hK18 => ?_
    refine wp_seq_k fun K19 hK19 => ?_
    refine wp_region_list (WL.out ?_)
    refine WL.val (by kernel_rfl) (.int .i64 0) (by go_simp) ?_
    simp only [Act.put, List.setIfInBounds_toArray, List.set_cons_zero, List.set_cons_succ]
    refine WL.nil ?_
    refine hK19 _ _ ?_
    refine wp_block ?_
    refine wp_loop (fun ac wq => ∃ (at_ : Nat) (u6 u8 u9 u10 u25 u26 u27 u28 u29 u30 u31 u32 u33 u34 u35 u36 u37 u38 u39 u40 u41 u42 u43 u44 u45 u46 u47 u48 u49 u50 u51 u52 u53 u54 u55 u56 u57 u58 u59 u60 u61 u62 u63 u64 u65 u66 u67 u68 u69 u70 u71 u72 u73 u74 u75 u76 u77 u78 u79 u80 u81 : Value), ac = { tmps := #[.slice pa ls.length pc, undef, u2, u3, .int .i64 (t : Int), u5, u6, .int .i64 (at_ : Int), u8, u9, u10, .int .i64 (t : Int), .slice pa ls.length pc, .int .i64 (ls.length : Int), .bool false, u15, u16, u17, u18, u19, u20, u21, u22, u23, v1, u25, u26, u27, u28, u29, u30, u31, u32, u33, u34, u35, u36, u37, u38, u39, u40, u41, u42, u43, u44, u45, u46, u47, u48, u49, u50, u51, u52, u53, u54, u55, u56, u57, u58, u59, u60, u61, u62, u63, u64, u65, u66, u67, u68, u69, u70, u71, u72, u73, u74, u75, u76, u77, u78, u79, u80, u81, undef], defers := [] } ∧ at_ ≤ ls.length ∧ ∃ D cs, Keep (OwnM wq u6 cs) ∧ Keep (∀ k, u6.ownBlock = some k → wr.heap.size ≤ k) ∧ Keep (MsgsOf (RwsAt wr) cs D) ∧ Keep (∀ E, isCh (ls.drop at_) E → isCh ls (D ++ E)) ∧ Keep (Below wr.heap.size wr wq) ∧ D.length ≤ at_) (fun a _ => ls.length - (intOf (a.tmps.getD 7 undef)).toNat) ⟨0, v1, undef, undef, undef, undef, undef, undef, undef, undef, undef, undef, undef, undef, undef, undef, undef, undef, undef, undef, undef, undef, undef, undef, undef, undef, undef, undef, undef, undef, undef, undef, undef, undef, undef, undef, undef, undef, undef, undef, undef, undef, undef, undef, undef, undef, undef, undef, undef, undef, undef, undef, undef, undef, undef, undef, undef, undef, undef, undef, undef, undef, rfl, by omega, [], [], HO1, HF1, HM1, ⟨fun E hE => by simpa using hE⟩, HB1, by simp⟩ ?_
    rintro ac wq ⟨at_, u6, u8, u9, u10, u25, u26, u27, u28, u29, u30, u31, u32, u33, u34, u35, u36, u37, u38, u39, u40, u41, u42, u43, u44, u45, u46, u47, u48, u49, u50, u51, u52, u53, u54, u55, u56, u57, u58, u59, u60, u61, u62, u63, u64, u65, u66, u67, u68, u69, u70, u71, u72, u73, u74, u75, u76, u77, u78, u79, u80, u81, rfl, hat, D, cs, HOr, HFr, HMr, HCh, HBr, hdl⟩
    by_cases hlt : at_ < ls.length
    · have hlt' : (at_ : Int) < (ls.length : Int) := by omega
      obtain ⟨rs, hrs⟩ : ∃ rs, rs = ls.drop at_ := ⟨_, rfl⟩
      have hrl : rs.length = ls.length - at_ := by rw [hrs, List.length_drop]
      have HOd : Keep (okR rs = true) := ⟨okR_mem Hok.out fun r hr => by rw [hrs] at hr; exact List.mem_of_mem_drop hr⟩
      have Hrs := Keep.mk hrs
      clear hrs hlt
      refine wp_seq_k fun K20 hK20 => ?_
      refine wp_seq_k fun K21 hK21 => ?_
      refine wp_region_list (WL.out ?_)
      refine WL.val (by kernel_rfl) (.int .i64 (at_ : Int)) (by go_simp) ?_
      simp only [Act.put, List.setIfInBounds_toArray, List.set_cons_zero, List.set_cons_succ]
      refine WL.val (by kernel_rfl) (.slice pa ls.length pc) (by go_simp) ?_
      simp only [Act.put, List.setIfInBounds_toArray, List.set_cons_zero, List.set_cons_succ]
      refine WL.val (by kernel_rfl) (.int .i64 (ls.length : Int)) (by go_simp) ?_
      simp only [Act.put, List.setIfInBounds_toArray, List.set_cons_zero, List.set_cons_succ]
      refine WL.val (by kernel_rfl) (.bool true) (by go_simp) ?_
      simp only [Act.put, List.setIfInBounds_toArray, List.set_cons_zero, List.set_cons_succ]
      refine WL.nil ?_
      refine hK21 _ _ ?_
      refine wp_cond_true rfl ?_
      refine wp_skip ?_
      refine hK20 _ _ ?_
      refine wp_block ?_
      refine wp_seq_k fun K22 hK22 => ?_
      refine wp_region_list (WL.out ?_)
      refine WL.val (by kernel_rfl) (.int .i64 0) (by go_simp) ?_
      simp only [Act.put, List.setIfInBounds_toArray, List.set_cons_zero, List.set_cons_succ]
      refine WL.nil ?_
      refine hK22 _ _ ?_
      refine wp_seq_k fun K23 hK23 => ?_
      refine wp_region_list (WL.out ?_)
      refine WL.val (by kernel_rfl) (.int .i64 0) (by go_simp) ?_
      simp only [Act.put, List.setIfInBounds_toArray, List.set_cons_zero, List.set_cons_succ]
      refine WL.nil ?_
      refine hK23 _ _ ?_
      refine wp_seq_k fun K24 hK24 => ?_
      refine wp_block ?_
      refine wp_loop (fun ac wx => ∃ (k : Nat) (z10 z29 z30 z31 z32 z33 z34 z35 z36 z37 z38 z39 z40 z41 z42 z43 z44 z45 z46 z47 z48 z49 z50 z51 z52 z53 z54 z55 z56 z57 z58 z59 z60 z61 z62 z63 z64 z65 z66 z67 z68 : Value), ac = { tmps := #[.slice pa ls.length pc, undef, u2, u3, .int .i64 (t : Int), u5, u6, .int .i64 (at_ : Int), .int .i64 (k : Int), .int .i64 ((AL rs k : Nat) : Int), z10, .int .i64 (t : Int), .slice pa ls.length pc, .int .i64 (ls.length : Int), .bool false, u15, u16, u17, u18, u19, u20, u21, u22, u23, v1, .int .i64 (at_ : Int), .slice pa ls.length pc, .int .i64 (ls.length : Int), .bool true, z29, z30, z31, z32, z33, z34, z35, z36, z37, z38, z39, z40, z41, z42, z43, z44, z45, z46, z47, z48, z49, z50, z51, z52, z53, z54, z55, z56, z57, z58, z59, z60, z61, z62, z63, z64, z65, z66, z67, z68, u69, u70, u71, u72, u73, u74, u75, u76, u77, u78, u79, u80, u81, undef], defers := [] } ∧ k ≤ 256 ∧ at_ + k ≤ ls.length ∧ fitG rs 0 0 = fitG (rs.drop k) k (AL rs k) ∧ Keep (Below wq.heap.size wq wx)) (fun a _ => 256 - (intOf (a.tmps.getD 8 undef)).toNat) ⟨0, u10, u29, u30, u31, u32, u33, u34, u35, u36, u37, u38, u39, u40, u41, u42, u43, u44, u45, u46, u47, u48, u49, u50, u51, u52, u53, u54, u55, u56, u57, u58, u59, u60, u61, u62, u63, u64, u65, u66, u67, u68, rfl, by omega, by omega, by rw [AL_0]; rfl, ⟨Below.refl _ _⟩⟩ ?_
      rintro ac wx ⟨k, z10, z29, z30, z31, z32, z33, z34, z35, z36, z37, z38, z39, z40, z41, z42, z43, z44, z45, z46, z47, z48, z49, z50, z51, z52, z53, z54, z55, z56, z57, z58, z59, z60, z61, z62, z63, z64, z65, z66, z67, z68, rfl, hk, hkl, hft, HBx⟩
      have hwa : IntKind.i64.wrap ((at_ : Int) + (k : Int)) = ((at_ + k : Nat) : Int) := by rw [IntKind.wrap_i64]; omega
      by_cases hlt : at_ + k < ls.length
      · have hlt' : (at_ : Int) + (k : Int) < (ls.length : Int) := by omega
        have htn : ((at_ : Int) + (k : Int)).toNat = at_ + k := by omega
        have hnn : (0 : Int) ≤ (at_ : Int) + (k : Int) := by omega
        obtain ⟨x, hx⟩ : ∃ x, rs[k]? = some x := ⟨_, List.getElem?_eq_getElem (by omega)⟩
        have hfn := fitG_next hx
        by_cases hk6 : k < 256
        · have hk6' : (k : Int) < 256 := by omega
          have hnt : ¬ (at_ : Int) + (k : Int) < 0 := by omega
          obtain ⟨qb, ob, ya, yc, hxa, _, hcl, _⟩ := HR.out.at (at_ + k) hlt
          subst hxa
          have hxx : ls.getD (at_ + k) [] = x := by rw [List.getD_eq_getElem?_getD, ← List.getElem?_drop, ← Hrs.out, hx]; rfl
          rw [hxx] at hcl
          have hxo := (okR_iff rs).1 HOd.out k (by omega)
          rw [List.getD_eq_getElem?_getD, hx, Option.getD_some] at hxo
          have HBw0 : Below wr.heap.size wr wx := HBr.out.trans (HBx.out.mono HBr.out.size)
          have hcl2 : wx.cell? ⟨qb, ob + (at_ + k), none⟩ = some (.slice ya x.length yc) := by rw [HBw0.cell (p := ⟨qb, ob + (at_ + k), none⟩) (cell_lt hcl)]; exact hcl
          have hal := AL_next hx
          have hale := AL_le HOd.out (k + 1)
          obtain ⟨s1, hs1⟩ : ∃ s, s = (numL x.length).length := ⟨_, rfl⟩
          obtain ⟨s2, hs2⟩ : ∃ s, s = (numL (k + 1)).length := ⟨_, rfl⟩
          have hs1r := numL_len x.length
          have hs2r := numL_len (k + 1)
          have C1 := Keep.mk (rsize_any x.length wx.drew (by omega))
          have C2 := Keep.mk (rsize_any (k + 1) wx.drew (by omega))
          rw [← hs1] at C1 hal hs1r
          rw [← hs2] at C2 hs2r hfn
          obtain ⟨a0, ha0⟩ : ∃ a, a = AL rs k := ⟨_, rfl⟩
          obtain ⟨a1, ha1⟩ : ∃ a, a = AL rs (k + 1) := ⟨_, rfl⟩
          rw [← ha0, ← ha1] at hal
          rw [← ha0]
          rw [← ha1] at hfn hale
          have Ha1 := Keep.mk ha1
          have Hft := Keep.mk hft
          have Hfn := Keep.mk hfn
          clear hs1 hs2 ha0 ha1 hxx hcl hft hfn
          have e1 : IntKind.u64.wrap (x.length : Int) = (x.length : Int) := by rw [IntKind.wrap_u64]; omega
          have e2 : IntKind.i64.wrap ((a0 : Int) + (s1 : Int)) = (a0 : Int) + (s1 : Int) := by rw [IntKind.wrap_i64]; omega
          have e3 : IntKind.i64.wrap ((a0 : Int) + (s1 : Int) + (x.length : Int)) = (a1 : Int) := by rw [IntKind.wrap_i64]; omega
          have e4 : IntKind.i64.wrap ((k : Int) + 1) = ((k + 1 : Nat) : Int) := by rw [IntKind.wrap_i64]; omega
          have e5 : IntKind.u64.wrap ((k + 1 : Nat) : Int) = ((k + 1 : Nat) : Int) := by rw [IntKind.wrap_u64]; omega
          have e5' : IntKind.u64.wrap ((k : Int) + 1) = (k : Int) + 1 := by rw [IntKind.wrap_u64]; omega
          have e6 : IntKind.i64.wrap (1 + (s2 : Int)) = 1 + (s2 : Int) := by rw [IntKind.wrap_i64]; omega
          have e7 : IntKind.i64.wrap (1 + (s2 : Int) + (a1 : Int)) = 1 + (s2 : Int) + (a1 : Int) := by rw [IntKind.wrap_i64]; omega
          have hD0 : wx.drew.cell? ⟨qb, ob + (at_ + k), none⟩ = some (.slice ya x.length yc) := hcl2
          clear hal
          refine wp_seq_k fun K25 hK25 => ?_
          refine wp_seq_k fun K26 hK26 => ?_
          refine wp_region_list (WL.out ?_)
          refine WL.val (by kernel_rfl) (.int .i64 (at_ : Int)) (by go_simp) ?_
          simp only [Act.put, List.setIfInBounds_toArray, List.set_cons_zero, List.set_cons_succ]
          refine WL.val (by kernel_rfl) (.int .i64 (k : Int)) (by go_simp) ?_
          simp only [Act.put, List.setIfInBounds_toArray, List.set_cons_zero, List.set_cons_succ]
          refine WL.val (by kernel_rfl) (.int .i64 ((at_ + k : Nat) : Int)) (by go_simp) ?_
          simp only [Act.put, List.setIfInBounds_toArray, List.set_cons_zero, List.set_cons_succ]
          refine WL.val (by kernel_rfl) (.slice (some ⟨qb, ob, none⟩) ls.length pc) (by go_simp) ?_
          simp only [Act.put, List.setIfInBounds_toArray, List.set_cons_zero, List.set_cons_succ]
          refine WL.val (by kernel_rfl) (.int .i64 (ls.length : Int)) (by go_simp) ?_
          simp only [Act.put, List.setIfInBounds_toArray, List.set_cons_zero, List.set_cons_succ]
          refine WL.val (by kernel_rfl) (.bool true) (by go_simp) ?_
          simp only [Act.put, List.setIfInBounds_toArray, List.set_cons_zero, List.set_cons_succ]
          refine WL.val (by kernel_rfl) (.bool true) (by go_simp) ?_
          simp only [Act.put, List.setIfInBounds_toArray, List.set_cons_zero, List.set_cons_succ]
          refine WL.val (by kernel_rfl) (.int .i64 (k : Int)) (by go_simp) ?_
          simp only [Act.put, List.setIfInBounds_toArray, List.set_cons_zero, List.set_cons_succ]
          refine WL.val (by kernel_rfl) (.bool true) (by go_simp) ?_
          simp only [Act.put, List.setIfInBounds_toArray, List.set_cons_zero, List.set_cons_succ]
          refine WL.val (by kernel_rfl) (.bool true) (by go_simp) ?_
          simp only [Act.put, List.setIfInBounds_toArray, List.set_cons_zero, List.set_cons_succ]
          refine WL.nil ?_
          refine hK26 _ _ ?_
          refine wp_cond_true rfl ?_
          refine wp_skip ?_
          refine hK25 _ _ ?_
          refine wp_block ?_
          refine wp_seq_k fun K27 hK27 => ?_
          refine wp_region_held_drew (S := fun wy => wy.cell? ⟨qb, ob + (at_ + k), none⟩ = some (.slice ya x.length yc)) (by kernel_rfl) (hD0) (fun hHeld => ?_)
          refine wpAnyH_take (i := 0) (oi := ⟨some 39, Op.move (Operand.tmp 9), 3, _, _, none⟩) (v := .int .i64 (a0 : Int)) rfl (by kernel_rfl) (by kernel_rfl) (by kernel_rfl) (fun _ _ _ h => h) (Or.inl ⟨by rfl, fun w hS => by go_simp⟩) hHeld ?_
          simp only [Act.put, List.setIfInBounds_toArray, List.set_cons_zero, List.set_cons_succ]
          refine wpAnyH_take (i := 1) (oi := ⟨some 40, Op.move (Operand.tmp 0), 26, _, _, none⟩) (v := .slice (some ⟨qb, ob, none⟩) ls.length pc) rfl (by kernel_rfl) (by kernel_rfl) (by kernel_rfl) (fun _ _ _ h => h) (Or.inl ⟨by rfl, fun w hS => by go_simp⟩) hHeld ?_
          simp only [Act.put, List.setIfInBounds_toArray, List.set_cons_zero, List.set_cons_succ]
          refine wpAnyH_take (i := 2) (oi := ⟨some 41, Op.move (Operand.tmp 7), 3, _, _, none⟩) (v := .int .i64 (at_ : Int)) rfl (by kernel_rfl) (by kernel_rfl) (by kernel_rfl) (fun _ _ _ h => h) (Or.inl ⟨by rfl, fun w hS => by go_simp⟩) hHeld ?_
          simp only [Act.put, List.setIfInBounds_toArray, List.set_cons_zero, List.set_cons_succ]
          refine wpAnyH_take (i := 3) (oi := ⟨some 42, Op.move (Operand.tmp 8), 3, _, _, none⟩) (v := .int .i64 (k : Int)) rfl (by kernel_rfl) (by kernel_rfl) (by kernel_rfl) (fun _ _ _ h => h) (Or.inl ⟨by rfl, fun w hS => by go_simp⟩) hHeld ?_
          simp only [Act.put, List.setIfInBounds_toArray, List.set_cons_zero, List.set_cons_succ]
          refine wpAnyH_take (i := 4) (oi := ⟨some 43, Op.binOp BinOp.add 3 (Operand.tmp 41) (Operand.tmp 42) 3, 3, _, _, none⟩) (v := .int .i64 ((at_ + k : Nat) : Int)) rfl (by kernel_rfl) (by kernel_rfl) (by kernel_rfl) (fun _ _ _ h => h) (Or.inl ⟨by rfl, fun w hS => by go_simp⟩) hHeld ?_
          simp only [Act.put, List.setIfInBounds_toArray, List.set_cons_zero, List.set_cons_succ]
          refine wpAnyH_take (i := 5) (oi := ⟨some 44, Op.indexAddr 26 (Operand.tmp 40) (Operand.tmp 43), 0, _, _, none⟩) (v := .pointer (some ⟨qb, ob + (at_ + k), none⟩)) rfl (by kernel_rfl) (by kernel_rfl) (by kernel_rfl) (fun _ _ _ h => h) (Or.inl ⟨by rfl, fun w hS => by clear hS; go_simp; try omega⟩) hHeld ?_
          simp only [Act.put, List.setIfInBounds_toArray, List.set_cons_zero, List.set_cons_succ]
          refine wpAnyH_take (i := 6) (oi := ⟨some 45, Op.load 25 (Operand.tmp 44), 25, _, _, none⟩) (v := .slice ya x.length yc) rfl (by kernel_rfl) (by kernel_rfl) (by kernel_rfl) (fun _ _ _ h => h) (Or.inl ⟨by rfl, fun w hS => by go_simp⟩) hHeld ?_
          simp only [Act.put, List.setIfInBounds_toArray, List.set_cons_zero, List.set_cons_succ]
          refine wpAnyH_take (i := 7) (oi := ⟨some 46, Op.call { callee := Callee.builtin Builtin.len, args := #[Operand.tmp 45], argTypes := #[25] }, 3, _, _, none⟩) (v := .int .i64 (x.length : Int)) rfl (by kernel_rfl) (by kernel_rfl) (by kernel_rfl) (fun _ _ _ h => h) (Or.inl ⟨by rfl, fun w hS => by go_simp⟩) hHeld ?_
          simp only [Act.put, List.setIfInBounds_toArray, List.set_cons_zero, List.set_cons_succ]
          refine wpAnyH_take (i := 8) (oi := ⟨some 47, Op.convert 3 24 (Operand.tmp 46), 24, _, _, none⟩) (v := .int .u64 (x.length : Int)) rfl (by kernel_rfl) (by kernel_rfl) (by kernel_rfl) (fun _ _ _ h => h) (Or.inl ⟨by rfl, fun w hS => by go_simp⟩) hHeld ?_
          simp only [Act.put, List.setIfInBounds_toArray, List.set_cons_zero, List.set_cons_succ]
          refine wpAnyH_take (i := 11) (oi := ⟨some 50, Op.move (Operand.tmp 0), 26, _, _, none⟩) (v := .slice (some ⟨qb, ob, none⟩) ls.length pc) rfl (by kernel_rfl) (by kernel_rfl) (by kernel_rfl) (fun _ _ _ h => h) (Or.inl ⟨by rfl, fun w hS => by go_simp⟩) hHeld ?_
          simp only [Act.put, List.setIfInBounds_toArray, List.set_cons_zero, List.set_cons_succ]
          refine wpAnyH_take (i := 12) (oi := ⟨some 51, Op.move (Operand.tmp 7), 3, _, _, none⟩) (v := .int .i64 (at_ : Int)) rfl (by kernel_rfl) (by kernel_rfl) (by kernel_rfl) (fun _ _ _ h => h) (Or.inl ⟨by rfl, fun w hS => by go_simp⟩) hHeld ?_
          simp only [Act.put, List.setIfInBounds_toArray, List.set_cons_zero, List.set_cons_succ]
          refine wpAnyH_take (i := 13) (oi := ⟨some 52, Op.move (Operand.tmp 8), 3, _, _, none⟩) (v := .int .i64 (k : Int)) rfl (by kernel_rfl) (by kernel_rfl) (by kernel_rfl) (fun _ _ _ h => h) (Or.inl ⟨by rfl, fun w hS => by go_simp⟩) hHeld ?_
          simp only [Act.put, List.setIfInBounds_toArray, List.set_cons_zero, List.set_cons_succ]
          refine wpAnyH_take (i := 14) (oi := ⟨some 53, Op.binOp BinOp.add 3 (Operand.tmp 51) (Operand.tmp 52) 3, 3, _, _, none⟩) (v := .int .i64 ((at_ + k : Nat) : Int)) rfl (by kernel_rfl) (by kernel_rfl) (by kernel_rfl) (fun _ _ _ h => h) (Or.inl ⟨by rfl, fun w hS => by go_simp⟩) hHeld ?_
          simp only [Act.put, List.setIfInBounds_toArray, List.set_cons_zero, List.set_cons_succ]
          refine wpAnyH_take (i := 15) (oi := ⟨some 54, Op.indexAddr 26 (Operand.tmp 50) (Operand.tmp 53), 0, _, _, none⟩) (v := .pointer (some ⟨qb, ob + (at_ + k), none⟩)) rfl (by kernel_rfl) (by kernel_rfl) (by kernel_rfl) (fun _ _ _ h => h) (Or.inl ⟨by rfl, fun w hS => by clear hS; go_simp; try omega⟩) hHeld ?_
          simp only [Act.put, List.setIfInBounds_toArray, List.set_cons_zero, List.set_cons_succ]
          refine wpAnyH_take (i := 16) (oi := ⟨some 55, Op.load 25 (Operand.tmp 54), 25, _, _, none⟩) (v := .slice ya x.length yc) rfl (by kernel_rfl) (by kernel_rfl) (by kernel_rfl) (fun _ _ _ h => h) (Or.inl ⟨by rfl, fun w hS => by go_simp⟩) hHeld ?_
          simp only [Act.put, List.setIfInBounds_toArray, List.set_cons_zero, List.set_cons_succ]
          refine wpAnyH_take (i := 17) (oi := ⟨some 56, Op.call { callee := Callee.builtin Builtin.len, args := #[Operand.tmp 55], argTypes := #[25] }, 3, _, _, none⟩) (v := .int .i64 (x.length : Int)) rfl (by kernel_rfl) (by kernel_rfl) (by kernel_rfl) (fun _ _ _ h => h) (Or.inl ⟨by rfl, fun w hS => by go_simp⟩) hHeld ?_
          simp only [Act.put, List.setIfInBounds_toArray, List.set_cons_zero, List.set_cons_succ]
          refine wpAnyH_ready (rs := [9]) (by kernel_rfl) (by simp) ?_
          refine AllReadyH.cons (o := ⟨some 48, Op.call { callee := Callee.value (Operand.func 50), args := #[Operand.tmp 47], argTypes := #[24] }, 3, _, _, none⟩) rfl (fun K hK => ?_) AllReadyH.nil
          rw [if_pos (by rfl)]
          refine wp_callF 50 _ _ rfl Try.in50 #[.int .u64 (x.length : Int)] (by simp [Act.eval]) (fun v w' => v = .int .i64 (s1 : Int) ∧ w' = wx.drew) (C1.out.mono fun e w' h => ⟨_, h.1, rfl, h.2⟩) ?_
          rintro v w6 ⟨rfl, rfl⟩
          refine hK.out _ _ hD0 fun hHa => ?_
          clear hK
          simp only [Act.put, List.setIfInBounds_toArray, List.set_cons_zero, List.set_cons_succ]
          refine wpAnyH_take (i := 10) (oi := ⟨some 49, Op.binOp BinOp.add 3 (Operand.tmp 39) (Operand.tmp 48) 3, 3, _, _, none⟩) (v := .int .i64 ((a0 : Int) + (s1 : Int))) rfl (by kernel_rfl) (by kernel_rfl) (by kernel_rfl) (fun _ _ _ h => h) (Or.inl ⟨by rfl, fun w hS => by go_simp⟩) hHa ?_
          simp only [Act.put, List.setIfInBounds_toArray, List.set_cons_zero, List.set_cons_succ]
          refine wpAnyH_take (i := 18) (oi := ⟨some 57, Op.binOp BinOp.add 3 (Operand.tmp 49) (Operand.tmp 56) 3, 3, _, _, none⟩) (v := .int .i64 (a1 : Int)) rfl (by kernel_rfl) (by kernel_rfl) (by kernel_rfl) (fun _ _ _ h => h) (Or.inl ⟨by rfl, fun w hS => by go_simp⟩) hHa ?_
          simp only [Act.put, List.setIfInBounds_toArray, List.set_cons_zero, List.set_cons_succ]
          refine wpAnyH_take (i := 19) (oi := ⟨some 10, Op.assign (Operand.tmp 57), 3, _, _, none⟩) (v := .int .i64 (a1 : Int)) rfl (by kernel_rfl) (by kernel_rfl) (by kernel_rfl) (fun _ _ _ h => h) (Or.inl ⟨by rfl, fun w hS => by go_simp⟩) hHa ?_
          simp only [Act.put, List.setIfInBounds_toArray, List.set_cons_zero, List.set_cons_succ]
          refine wpAnyH_done (by kernel_rfl) ?_ _
          refine hK27 _ _ ?_
          refine wp_seq_k fun K28 hK28 => ?_
          refine wp_seq_k fun K29 hK29 => ?_
          have HBd : Keep (Below wq.heap.size wq wx.drew) := ⟨HBx.out.trans ((Below.refl _ _).drew.mono HBx.out.size)⟩
          by_cases hbg : (2097152 : Int) < 1 + (s2 : Int) + (a1 : Int)
          · have Hfit : Keep (k = fit rs) := ⟨by rw [fit, Hft.out, Hfn.out, if_pos (.inr (by omega))]⟩
            have hpos : 1 ≤ k := by rw [Hfit.out]; exact fit_pos HOd.out (fun h => by rw [h] at hrl; simp at hrl; omega)
            have HBw : Keep (Below wr.heap.size wr wx.drew) := ⟨HBr.out.trans (HBd.out.mono HBr.out.size)⟩
            have HOx := Keep.mk (HOr.out.below HBd.out)
            have HRs : Keep (RwsAt wr (sliced (some ⟨qb, ob, none⟩) at_ (at_ + k) pc 1) ((ls.drop at_).take k)) := ⟨by have h := HR.out.sub at_ (at_ + k) (by omega) hkl; rwa [Nat.add_sub_cancel_left] at h⟩
            obtain ⟨xa, xc, hxe⟩ := HRs.out.form
            have hs2 := sl_runR2 (some ⟨qb, ob, none⟩) ls.length pc at_ (at_ + k) (by omega) (by have h := HR.out.cap (fun h => by rw [h] at hkl; simp at hkl; omega); omega) wx.drew
            rw [hxe] at hs2 HRs
            rw [show ((at_ + k : Nat) : Int) = (at_ : Int) + (k : Int) by omega] at hs2
            clear hxe
            refine wp_region_list (WL.out ?_)
            refine WL.val (by kernel_rfl) (.int .i64 (k : Int)) (by go_simp) ?_
            simp only [Act.put, List.setIfInBounds_toArray, List.set_cons_zero, List.set_cons_succ]
            refine WL.val (by kernel_rfl) (.int .i64 ((k + 1 : Nat) : Int)) (by go_simp) ?_
            simp only [Act.put, List.setIfInBounds_toArray, List.set_cons_zero, List.set_cons_succ]
            refine WL.val (by kernel_rfl) (.int .u64 ((k + 1 : Nat) : Int)) (by go_simp) ?_
            simp only [Act.put, List.setIfInBounds_toArray, List.set_cons_zero, List.set_cons_succ]
            refine WL.callF (by kernel_rfl) 50 _ _ rfl Try.in50 #[.int .u64 ((k + 1 : Nat) : Int)] (by simp [Act.eval]) ?_
            refine (C2.out).mono ?_
            rintro e w0 ⟨rfl, hw0⟩
            rw [hw0]
            clear hw0 w0
            refine ⟨_, rfl, ?_⟩
            simp only [Act.put, List.setIfInBounds_toArray, List.set_cons_zero, List.set_cons_succ]
            refine WL.val (by kernel_rfl) (.int .i64 (1 + (s2 : Int))) (by go_simp) ?_
            simp only [Act.put, List.setIfInBounds_toArray, List.set_cons_zero, List.set_cons_succ]
            refine WL.val (by kernel_rfl) (.int .i64 (a1 : Int)) (by go_simp) ?_
            simp only [Act.put, List.setIfInBounds_toArray, List.set_cons_zero, List.set_cons_succ]
            refine WL.val (by kernel_rfl) (.int .i64 (1 + (s2 : Int) + (a1 : Int))) (by go_simp) ?_
            simp only [Act.put, List.setIfInBounds_toArray, List.set_cons_zero, List.set_cons_succ]
            refine WL.val (by kernel_rfl) (.bool true) (by go_simp) ?_
            simp only [Act.put, List.setIfInBounds_toArray, List.set_cons_zero, List.set_cons_succ]
            refine WL.nil ?_
            refine hK29 _ _ ?_
            refine wp_cond_true rfl ?_
            refine wp_exit ?_
            refine hK24 _ _ ?_
            refine wp_seq_k fun K30 hK30 => ?_
            refine wp_region_list (WL.out ?_)
            refine WL.val (by kernel_rfl) (u6) (by go_simp) ?_
            simp only [Act.put, List.setIfInBounds_toArray, List.set_cons_zero, List.set_cons_succ]
            refine WL.val (by kernel_rfl) (.slice (some ⟨qb, ob, none⟩) ls.length pc) (by go_simp) ?_
            simp only [Act.put, List.setIfInBounds_toArray, List.set_cons_zero, List.set_cons_succ]
            refine WL.val (by kernel_rfl) (.int .i64 (at_ : Int)) (by go_simp) ?_
            simp only [Act.put, List.setIfInBounds_toArray, List.set_cons_zero, List.set_cons_succ]
            refine WL.val (by kernel_rfl) (.int .i64 (at_ : Int)) (by go_simp) ?_
            simp only [Act.put, List.setIfInBounds_toArray, List.set_cons_zero, List.set_cons_succ]
            refine WL.val (by kernel_rfl) (.int .i64 (k : Int)) (by go_simp) ?_
            simp only [Act.put, List.setIfInBounds_toArray, List.set_cons_zero, List.set_cons_succ]
            refine WL.val (by kernel_rfl) (.int .i64 ((at_ + k : Nat) : Int)) (by go_simp) ?_
            simp only [Act.put, List.setIfInBounds_toArray, List.set_cons_zero, List.set_cons_succ]
            refine WL.val (by kernel_rfl) (.slice xa ((ls.drop at_).take k).length xc) (by go_simp) ?_
            clear hs2
            simp only [Act.put, List.setIfInBounds_toArray, List.set_cons_zero, List.set_cons_succ]
            refine WL.bld (by kernel_rfl) 28 _ rfl [(0, .int .i64 3), (5, .slice xa ((ls.drop at_).take k).length xc)] (by simp [Act.eval]) (msA (cB (.slice xa ((ls.drop at_).take k).length xc))) (ms_builtB _ _ _) ?_
            simp only [Act.put, List.setIfInBounds_toArray, List.set_cons_zero, List.set_cons_succ]
            refine WL.bs (by kernel_rfl) 48 1 _ rfl #[(0, .agg (msA (cB (.slice xa ((ls.drop at_).take k).length xc))))] (by simp [Act.eval]) _ _ (bsM _ _ _ wx.drew) ?_
            have HG3 := Keep.mk (Blk.new wx.drew 28 (msA (cB (.slice xa ((ls.drop at_).take k).length xc))))
            have B3 := Keep.mk (below_new wx.drew (.cells (msA (cB (.slice xa ((ls.drop at_).take k).length xc))) 28))
            generalize wx.drew.alloc (.cells (msA (cB (.slice xa ((ls.drop at_).take k).length xc))) 28) = w3 at *
            have HB3 : Keep (Below wr.heap.size wr w3) := ⟨HBw.out.trans (B3.out.mono HBw.out.size)⟩
            have HO3 := Keep.mk (HOx.out.below B3.out)
            generalize wx.drew.heap.size = g3 at HG3 ⊢
            simp only [Act.put, List.setIfInBounds_toArray, List.set_cons_zero, List.set_cons_succ]
            refine WL.appM (by kernel_rfl) (.tmp 69) (.tmp 77) rfl u6 cs g3 (cB (.slice xa ((ls.drop at_).take k).length xc)) (cB_sl _ _ _) rfl rfl HO3.out HG3.out (by have h := HMr.out.1; omega) ?_
            intro v4 w4 h1 h2 h3
            have HO4 := Keep.mk h1
            have HM4 : Keep (MsgsOf (RwsAt wr) (cs ++ [cB (.slice xa ((ls.drop at_).take k).length xc)]) (D ++ [((ls.drop at_).take k)])) := ⟨HMr.out.push HRs.out⟩
            have HB4 : Keep (Below wr.heap.size wr w4) := ⟨HB3.out.trans (h2.to_below (fun k hk e => absurd (HFr.out k e) (by omega)) HB3.out.size)⟩
            have HF4 : Keep (∀ k, v4.ownBlock = some k → wr.heap.size ≤ k) := ⟨fun k hk => by
              rcases h3 with e | ⟨j, e, hj⟩
              · rw [e] at hk; exact HFr.out k hk
              · rw [e] at hk; injection hk with hk; have := HB3.out.size; omega⟩
            clear h1 h2 h3
            simp only [Act.put, List.setIfInBounds_toArray, List.set_cons_zero, List.set_cons_succ]
            refine WL.val (by kernel_rfl) (v4) (by go_simp) ?_
            simp only [Act.put, List.setIfInBounds_toArray, List.set_cons_zero, List.set_cons_succ]
            refine WL.nil ?_
            refine hK30 _ _ ?_
            refine wp_region_list (WL.out ?_)
            refine WL.val (by kernel_rfl) (.int .i64 (at_ : Int)) (by go_simp) ?_
            simp only [Act.put, List.setIfInBounds_toArray, List.set_cons_zero, List.set_cons_succ]
            refine WL.val (by kernel_rfl) (.int .i64 (k : Int)) (by go_simp) ?_
            simp only [Act.put, List.setIfInBounds_toArray, List.set_cons_zero, List.set_cons_succ]
            refine WL.val (by kernel_rfl) (.int .i64 ((at_ + k : Nat) : Int)) (by go_simp) ?_
            simp only [Act.put, List.setIfInBounds_toArray, List.set_cons_zero, List.set_cons_succ]
            refine WL.val (by kernel_rfl) (.int .i64 ((at_ + k : Nat) : Int)) (by go_simp) ?_
            simp only [Act.put, List.setIfInBounds_toArray, List.set_cons_zero, List.set_cons_succ]
            refine WL.nil ?_
            refine ⟨⟨at_ + k, v4, .int .i64 (k : Int), .int .i64 (a0 : Int), .int .i64 (a1 : Int), .int .i64 (at_ : Int), .slice (some ⟨qb, ob, none⟩) ls.length pc, .int .i64 (ls.length : Int), .bool true, .int .i64 (at_ : Int), .int .i64 (k : Int), .int .i64 ((at_ + k : Nat) : Int), .slice (some ⟨qb, ob, none⟩) ls.length pc, .int .i64 (ls.length : Int), .bool true, .bool true, .int .i64 (k : Int), .bool true, .bool true, .int .i64 (a0 : Int), .slice (some ⟨qb, ob, none⟩) ls.length pc, .int .i64 (at_ : Int), .int .i64 (k : Int), .int .i64 ((at_ + k : Nat) : Int), .pointer (some ⟨qb, ob + (at_ + k), none⟩), .slice ya x.length yc, .int .i64 (x.length : Int), .int .u64 (x.length : Int), .int .i64 (s1 : Int), .int .i64 ((a0 : Int) + (s1 : Int)), .slice (some ⟨qb, ob, none⟩) ls.length pc, .int .i64 (at_ : Int), .int .i64 (k : Int), .int .i64 ((at_ + k : Nat) : Int), .pointer (some ⟨qb, ob + (at_ + k), none⟩), .slice ya x.length yc, .int .i64 (x.length : Int), .int .i64 (a1 : Int), .int .i64 (k : Int), .int .i64 ((k + 1 : Nat) : Int), .int .u64 ((k + 1 : Nat) : Int), .int .i64 (s2 : Int), .int .i64 (1 + (s2 : Int)), .int .i64 (a1 : Int), .int .i64 (1 + (s2 : Int) + (a1 : Int)), .bool true, z66, z67, z68, u6, .slice (some ⟨qb, ob, none⟩) ls.length pc, .int .i64 (at_ : Int), .int .i64 (at_ : Int), .int .i64 (k : Int), .int .i64 ((at_ + k : Nat) : Int), .slice xa ((ls.drop at_).take k).length xc, .agg (msA (cB (.slice xa ((ls.drop at_).take k).length xc))), .slice (some ⟨g3, 0, none⟩) 1 1, v4, .int .i64 (at_ : Int), .int .i64 (k : Int), .int .i64 ((at_ + k : Nat) : Int), rfl, by omega, D ++ [(ls.drop at_).take k], cs ++ [cB (.slice xa ((ls.drop at_).take k).length xc)], HO4, HF4, HM4, ⟨fun E hE => by have h := HCh.out ((ls.drop at_).take k :: E) ⟨fun h => by rw [← Hrs.out] at h; rw [h] at hrl; simp at hrl; omega, by rw [← Hrs.out, ← Hfit.out], by rw [← Hrs.out, ← Hfit.out, Hrs.out, List.drop_drop]; exact hE⟩; simpa [List.append_assoc] using h⟩, HB4, by rw [List.length_append]; simp; omega⟩, by simp [intOf]; omega⟩
          · skip
            refine wp_region_list (WL.out ?_)
            refine WL.val (by kernel_rfl) (.int .i64 (k : Int)) (by go_simp) ?_
            simp only [Act.put, List.setIfInBounds_toArray, List.set_cons_zero, List.set_cons_succ]
            refine WL.val (by kernel_rfl) (.int .i64 ((k + 1 : Nat) : Int)) (by go_simp) ?_
            simp only [Act.put, List.setIfInBounds_toArray, List.set_cons_zero, List.set_cons_succ]
            refine WL.val (by kernel_rfl) (.int .u64 ((k + 1 : Nat) : Int)) (by go_simp) ?_
            simp only [Act.put, List.setIfInBounds_toArray, List.set_cons_zero, List.set_cons_succ]
            refine WL.callF (by kernel_rfl) 50 _ _ rfl Try.in50 #[.int .u64 ((k + 1 : Nat) : Int)] (by simp [Act.eval]) ?_
            refine (C2.out).mono ?_
            rintro e w0 ⟨rfl, hw0⟩
            rw [hw0]
            clear hw0 w0
            refine ⟨_, rfl, ?_⟩
            simp only [Act.put, List.setIfInBounds_toArray, List.set_cons_zero, List.set_cons_succ]
            refine WL.val (by kernel_rfl) (.int .i64 (1 + (s2 : Int))) (by go_simp) ?_
            simp only [Act.put, List.setIfInBounds_toArray, List.set_cons_zero, List.set_cons_succ]
            refine WL.val (by kernel_rfl) (.int .i64 (a1 : Int)) (by go_simp) ?_
            simp only [Act.put, List.setIfInBounds_toArray, List.set_cons_zero, List.set_cons_succ]
            refine WL.val (by kernel_rfl) (.int .i64 (1 + (s2 : Int) + (a1 : Int))) (by go_simp) ?_
            simp only [Act.put, List.setIfInBounds_toArray, List.set_cons_zero, List.set_cons_succ]
            refine WL.val (by kernel_rfl) (.bool false) (by go_simp) ?_
            simp only [Act.put, List.setIfInBounds_toArray, List.set_cons_zero, List.set_cons_succ]
            refine WL.nil ?_
            refine hK29 _ _ ?_
            refine wp_cond_false rfl ?_
            refine wp_skip ?_
            refine hK28 _ _ ?_
            refine wp_seq_k fun K31 hK31 => ?_
            refine wp_region_list (WL.out ?_)
            refine WL.val (by kernel_rfl) (.int .i64 (a1 : Int)) (by go_simp) ?_
            simp only [Act.put, List.setIfInBounds_toArray, List.set_cons_zero, List.set_cons_succ]
            refine WL.val (by kernel_rfl) (.int .i64 (a1 : Int)) (by go_simp) ?_
            simp only [Act.put, List.setIfInBounds_toArray, List.set_cons_zero, List.set_cons_succ]
            refine WL.nil ?_
            refine hK31 _ _ ?_
            refine wp_region_list (WL.out ?_)
            refine WL.val (by kernel_rfl) (.int .i64 (k : Int)) (by go_simp) ?_
            simp only [Act.put, List.setIfInBounds_toArray, List.set_cons_zero, List.set_cons_succ]
            refine WL.val (by kernel_rfl) (.int .i64 ((k + 1 : Nat) : Int)) (by go_simp) ?_
            simp only [Act.put, List.setIfInBounds_toArray, List.set_cons_zero, List.set_cons_succ]
            refine WL.val (by kernel_rfl) (.int .i64 ((k + 1 : Nat) : Int)) (by go_simp) ?_
            simp only [Act.put, List.setIfInBounds_toArray, List.set_cons_zero, List.set_cons_succ]
            refine WL.nil ?_
            rw [Ha1.out]
            refine ⟨⟨k + 1, .int .i64 ((AL rs (k + 1) : Nat) : Int), .int .i64 (at_ : Int), .int .i64 (k : Int), .int .i64 ((at_ + k : Nat) : Int), .slice (some ⟨qb, ob, none⟩) ls.length pc, .int .i64 (ls.length : Int), .bool true, .bool true, .int .i64 (k : Int), .bool true, .bool true, .int .i64 (a0 : Int), .slice (some ⟨qb, ob, none⟩) ls.length pc, .int .i64 (at_ : Int), .int .i64 (k : Int), .int .i64 ((at_ + k : Nat) : Int), .pointer (some ⟨qb, ob + (at_ + k), none⟩), .slice ya x.length yc, .int .i64 (x.length : Int), .int .u64 (x.length : Int), .int .i64 (s1 : Int), .int .i64 ((a0 : Int) + (s1 : Int)), .slice (some ⟨qb, ob, none⟩) ls.length pc, .int .i64 (at_ : Int), .int .i64 (k : Int), .int .i64 ((at_ + k : Nat) : Int), .pointer (some ⟨qb, ob + (at_ + k), none⟩), .slice ya x.length yc, .int .i64 (x.length : Int), .int .i64 ((AL rs (k + 1) : Nat) : Int), .int .i64 (k : Int), .int .i64 ((k + 1 : Nat) : Int), .int .u64 ((k + 1 : Nat) : Int), .int .i64 (s2 : Int), .int .i64 (1 + (s2 : Int)), .int .i64 ((AL rs (k + 1) : Nat) : Int), .int .i64 (1 + (s2 : Int) + ((AL rs (k + 1) : Nat) : Int)), .bool false, .int .i64 ((AL rs (k + 1) : Nat) : Int), .int .i64 (k : Int), .int .i64 ((k + 1 : Nat) : Int), rfl, by omega, by omega, by rw [Hft.out, Hfn.out, if_neg (by omega), Ha1.out], HBd⟩, by simp [intOf]; omega⟩
        · have hk6' : ¬ (k : Int) < 256 := by omega
          have Hfit : Keep (k = fit rs) := ⟨by rw [fit, hft, hfn, if_pos (.inl (by omega))]⟩
          have hpos : 1 ≤ k := by rw [Hfit.out]; exact fit_pos HOd.out (fun h => by rw [h] at hrl; simp at hrl; omega)
          have HBw : Keep (Below wr.heap.size wr wx) := ⟨HBr.out.trans (HBx.out.mono HBr.out.size)⟩
          have HOx := Keep.mk (HOr.out.below HBx.out)
          have HRs : Keep (RwsAt wr (sliced pa at_ (at_ + k) pc 1) ((ls.drop at_).take k)) := ⟨by have h := HR.out.sub at_ (at_ + k) (by omega) hkl; rwa [Nat.add_sub_cancel_left] at h⟩
          obtain ⟨xa, xc, hxe⟩ := HRs.out.form
          have hs2 := sl_runR2 pa ls.length pc at_ (at_ + k) (by omega) (by have h := HR.out.cap (fun h => by rw [h] at hkl; simp at hkl; omega); omega) wx
          rw [hxe] at hs2 HRs
          rw [show ((at_ + k : Nat) : Int) = (at_ : Int) + (k : Int) by omega] at hs2
          clear hxe
          refine wp_seq_k fun K32 hK32 => ?_
          refine wp_seq_k fun K33 hK33 => ?_
          refine wp_region_list (WL.out ?_)
          refine WL.val (by kernel_rfl) (.int .i64 (at_ : Int)) (by go_simp) ?_
          simp only [Act.put, List.setIfInBounds_toArray, List.set_cons_zero, List.set_cons_succ]
          refine WL.val (by kernel_rfl) (.int .i64 (k : Int)) (by go_simp) ?_
          simp only [Act.put, List.setIfInBounds_toArray, List.set_cons_zero, List.set_cons_succ]
          refine WL.val (by kernel_rfl) (.int .i64 ((at_ + k : Nat) : Int)) (by go_simp) ?_
          simp only [Act.put, List.setIfInBounds_toArray, List.set_cons_zero, List.set_cons_succ]
          refine WL.val (by kernel_rfl) (.slice pa ls.length pc) (by go_simp) ?_
          simp only [Act.put, List.setIfInBounds_toArray, List.set_cons_zero, List.set_cons_succ]
          refine WL.val (by kernel_rfl) (.int .i64 (ls.length : Int)) (by go_simp) ?_
          simp only [Act.put, List.setIfInBounds_toArray, List.set_cons_zero, List.set_cons_succ]
          refine WL.val (by kernel_rfl) (.bool true) (by go_simp) ?_
          simp only [Act.put, List.setIfInBounds_toArray, List.set_cons_zero, List.set_cons_succ]
          refine WL.val (by kernel_rfl) (.bool true) (by go_simp) ?_
          simp only [Act.put, List.setIfInBounds_toArray, List.set_cons_zero, List.set_cons_succ]
          refine WL.val (by kernel_rfl) (.int .i64 (k : Int)) (by go_simp) ?_
          simp only [Act.put, List.setIfInBounds_toArray, List.set_cons_zero, List.set_cons_succ]
          refine WL.val (by kernel_rfl) (.bool false) (by go_simp) ?_
          simp only [Act.put, List.setIfInBounds_toArray, List.set_cons_zero, List.set_cons_succ]
          refine WL.val (by kernel_rfl) (.bool false) (by go_simp) ?_
          simp only [Act.put, List.setIfInBounds_toArray, List.set_cons_zero, List.set_cons_succ]
          refine WL.nil ?_
          refine hK33 _ _ ?_
          refine wp_cond_false rfl ?_
          refine wp_exit ?_
          refine hK24 _ _ ?_
          refine wp_seq_k fun K34 hK34 => ?_
          refine wp_region_list (WL.out ?_)
          refine WL.val (by kernel_rfl) (u6) (by go_simp) ?_
          simp only [Act.put, List.setIfInBounds_toArray, List.set_cons_zero, List.set_cons_succ]
          refine WL.val (by kernel_rfl) (.slice pa ls.length pc) (by go_simp) ?_
          simp only [Act.put, List.setIfInBounds_toArray, List.set_cons_zero, List.set_cons_succ]
          refine WL.val (by kernel_rfl) (.int .i64 (at_ : Int)) (by go_simp) ?_
          simp only [Act.put, List.setIfInBounds_toArray, List.set_cons_zero, List.set_cons_succ]
          refine WL.val (by kernel_rfl) (.int .i64 (at_ : Int)) (by go_simp) ?_
          simp only [Act.put, List.setIfInBounds_toArray, List.set_cons_zero, List.set_cons_succ]
          refine WL.val (by kernel_rfl) (.int .i64 (k : Int)) (by go_simp) ?_
          simp only [Act.put, List.setIfInBounds_toArray, List.set_cons_zero, List.set_cons_succ]
          refine WL.val (by kernel_rfl) (.int .i64 ((at_ + k : Nat) : Int)) (by go_simp) ?_
          simp only [Act.put, List.setIfInBounds_toArray, List.set_cons_zero, List.set_cons_succ]
          refine WL.val (by kernel_rfl) (.slice xa ((ls.drop at_).take k).length xc) (by go_simp) ?_
          clear hs2
          simp only [Act.put, List.setIfInBounds_toArray, List.set_cons_zero, List.set_cons_succ]
          refine WL.bld (by kernel_rfl) 28 _ rfl [(0, .int .i64 3), (5, .slice xa ((ls.drop at_).take k).length xc)] (by simp [Act.eval]) (msA (cB (.slice xa ((ls.drop at_).take k).length xc))) (ms_builtB _ _ _) ?_
          simp only [Act.put, List.setIfInBounds_toArray, List.set_cons_zero, List.set_cons_succ]
          refine WL.bs (by kernel_rfl) 48 1 _ rfl #[(0, .agg (msA (cB (.slice xa ((ls.drop at_).take k).length xc))))] (by simp [Act.eval]) _ _ (bsM _ _ _ wx) ?_
          have HG3 := Keep.mk (Blk.new wx 28 (msA (cB (.slice xa ((ls.drop at_).take k).length xc))))
          have B3 := Keep.mk (below_new wx (.cells (msA (cB (.slice xa ((ls.drop at_).take k).length xc))) 28))
          generalize wx.alloc (.cells (msA (cB (.slice xa ((ls.drop at_).take k).length xc))) 28) = w3 at *
          have HB3 : Keep (Below wr.heap.size wr w3) := ⟨HBw.out.trans (B3.out.mono HBw.out.size)⟩
          have HO3 := Keep.mk (HOx.out.below B3.out)
          generalize wx.heap.size = g3 at HG3 ⊢
          simp only [Act.put, List.setIfInBounds_toArray, List.set_cons_zero, List.set_cons_succ]
          refine WL.appM (by kernel_rfl) (.tmp 69) (.tmp 77) rfl u6 cs g3 (cB (.slice xa ((ls.drop at_).take k).length xc)) (cB_sl _ _ _) rfl rfl HO3.out HG3.out (by have h := HMr.out.1; omega) ?_
          intro v4 w4 h1 h2 h3
          have HO4 := Keep.mk h1
          have HM4 : Keep (MsgsOf (RwsAt wr) (cs ++ [cB (.slice xa ((ls.drop at_).take k).length xc)]) (D ++ [((ls.drop at_).take k)])) := ⟨HMr.out.push HRs.out⟩
          have HB4 : Keep (Below wr.heap.size wr w4) := ⟨HB3.out.trans (h2.to_below (fun k hk e => absurd (HFr.out k e) (by omega)) HB3.out.size)⟩
          have HF4 : Keep (∀ k, v4.ownBlock = some k → wr.heap.size ≤ k) := ⟨fun k hk => by
            rcases h3 with e | ⟨j, e, hj⟩
            · rw [e] at hk; exact HFr.out k hk
            · rw [e] at hk; injection hk with hk; have := HB3.out.size; omega⟩
          clear h1 h2 h3
          simp only [Act.put, List.setIfInBounds_toArray, List.set_cons_zero, List.set_cons_succ]
          refine WL.val (by kernel_rfl) (v4) (by go_simp) ?_
          simp only [Act.put, List.setIfInBounds_toArray, List.set_cons_zero, List.set_cons_succ]
          refine WL.nil ?_
          refine hK34 _ _ ?_
          refine wp_region_list (WL.out ?_)
          refine WL.val (by kernel_rfl) (.int .i64 (at_ : Int)) (by go_simp) ?_
          simp only [Act.put, List.setIfInBounds_toArray, List.set_cons_zero, List.set_cons_succ]
          refine WL.val (by kernel_rfl) (.int .i64 (k : Int)) (by go_simp) ?_
          simp only [Act.put, List.setIfInBounds_toArray, List.set_cons_zero, List.set_cons_succ]
          refine WL.val (by kernel_rfl) (.int .i64 ((at_ + k : Nat) : Int)) (by go_simp) ?_
          simp only [Act.put, List.setIfInBounds_toArray, List.set_cons_zero, List.set_cons_succ]
          refine WL.val (by kernel_rfl) (.int .i64 ((at_ + k : Nat) : Int)) (by go_simp) ?_
          simp only [Act.put, List.setIfInBounds_toArray, List.set_cons_zero, List.set_cons_succ]
          refine WL.nil ?_
          refine ⟨⟨at_ + k, v4, .int .i64 (k : Int), .int .i64 ((AL rs k : Nat) : Int), z10, .int .i64 (at_ : Int), .slice pa ls.length pc, .int .i64 (ls.length : Int), .bool true, .int .i64 (at_ : Int), .int .i64 (k : Int), .int .i64 ((at_ + k : Nat) : Int), .slice pa ls.length pc, .int .i64 (ls.length : Int), .bool true, .bool true, .int .i64 (k : Int), .bool false, .bool false, z39, z40, z41, z42, z43, z44, z45, z46, z47, z48, z49, z50, z51, z52, z53, z54, z55, z56, z57, z58, z59, z60, z61, z62, z63, z64, z65, z66, z67, z68, u6, .slice pa ls.length pc, .int .i64 (at_ : Int), .int .i64 (at_ : Int), .int .i64 (k : Int), .int .i64 ((at_ + k : Nat) : Int), .slice xa ((ls.drop at_).take k).length xc, .agg (msA (cB (.slice xa ((ls.drop at_).take k).length xc))), .slice (some ⟨g3, 0, none⟩) 1 1, v4, .int .i64 (at_ : Int), .int .i64 (k : Int), .int .i64 ((at_ + k : Nat) : Int), rfl, by omega, D ++ [(ls.drop at_).take k], cs ++ [cB (.slice xa ((ls.drop at_).take k).length xc)], HO4, HF4, HM4, ⟨fun E hE => by have h := HCh.out ((ls.drop at_).take k :: E) ⟨fun h => by rw [← Hrs.out] at h; rw [h] at hrl; simp at hrl; omega, by rw [← Hrs.out, ← Hfit.out], by rw [← Hrs.out, ← Hfit.out, Hrs.out, List.drop_drop]; exact hE⟩; simpa [List.append_assoc] using h⟩, HB4, by rw [List.length_append]; simp; omega⟩, by simp [intOf]; omega⟩
      · have hlt' : ¬ (at_ : Int) + (k : Int) < (ls.length : Int) := by omega
        have hlt'' : (ls.length : Int) ≤ (at_ : Int) + (k : Int) := by omega
        have Hfit : Keep (k = fit rs) := ⟨by rw [fit, hft, fitG_end (by omega)]⟩
        have hpos : 1 ≤ k := by rw [Hfit.out]; exact fit_pos HOd.out (fun h => by rw [h] at hrl; simp at hrl; omega)
        have HBw : Keep (Below wr.heap.size wr wx) := ⟨HBr.out.trans (HBx.out.mono HBr.out.size)⟩
        have HOx := Keep.mk (HOr.out.below HBx.out)
        have HRs : Keep (RwsAt wr (sliced pa at_ (at_ + k) pc 1) ((ls.drop at_).take k)) := ⟨by have h := HR.out.sub at_ (at_ + k) (by omega) hkl; rwa [Nat.add_sub_cancel_left] at h⟩
        obtain ⟨xa, xc, hxe⟩ := HRs.out.form
        have hs2 := sl_runR2 pa ls.length pc at_ (at_ + k) (by omega) (by have h := HR.out.cap (fun h => by rw [h] at hkl; simp at hkl; omega); omega) wx
        rw [hxe] at hs2 HRs
        rw [show ((at_ + k : Nat) : Int) = (at_ : Int) + (k : Int) by omega] at hs2
        clear hxe
        refine wp_seq_k fun K35 hK35 => ?_
        refine wp_seq_k fun K36 hK36 => ?_
        refine wp_region_list (WL.out ?_)
        refine WL.val (by kernel_rfl) (.int .i64 (at_ : Int)) (by go_simp) ?_
        simp only [Act.put, List.setIfInBounds_toArray, List.set_cons_zero, List.set_cons_succ]
        refine WL.val (by kernel_rfl) (.int .i64 (k : Int)) (by go_simp) ?_
        simp only [Act.put, List.setIfInBounds_toArray, List.set_cons_zero, List.set_cons_succ]
        refine WL.val (by kernel_rfl) (.int .i64 ((at_ + k : Nat) : Int)) (by go_simp) ?_
        simp only [Act.put, List.setIfInBounds_toArray, List.set_cons_zero, List.set_cons_succ]
        refine WL.val (by kernel_rfl) (.slice pa ls.length pc) (by go_simp) ?_
        simp only [Act.put, List.setIfInBounds_toArray, List.set_cons_zero, List.set_cons_succ]
        refine WL.val (by kernel_rfl) (.int .i64 (ls.length : Int)) (by go_simp) ?_
        simp only [Act.put, List.setIfInBounds_toArray, List.set_cons_zero, List.set_cons_succ]
        refine WL.val (by kernel_rfl) (.bool false) (by go_simp) ?_
        simp only [Act.put, List.setIfInBounds_toArray, List.set_cons_zero, List.set_cons_succ]
        refine WL.val (by kernel_rfl) (.bool false) (by go_simp) ?_
        simp only [Act.put, List.setIfInBounds_toArray, List.set_cons_zero, List.set_cons_succ]
        refine WL.skip (by kernel_rfl) ?_
        simp only [Act.put, List.setIfInBounds_toArray, List.set_cons_zero, List.set_cons_succ]
        refine WL.skip (by kernel_rfl) ?_
        simp only [Act.put, List.setIfInBounds_toArray, List.set_cons_zero, List.set_cons_succ]
        refine WL.val (by kernel_rfl) (.bool false) (by go_simp) ?_
        simp only [Act.put, List.setIfInBounds_toArray, List.set_cons_zero, List.set_cons_succ]
        refine WL.nil ?_
        refine hK36 _ _ ?_
        refine wp_cond_false rfl ?_
        refine wp_exit ?_
        refine hK24 _ _ ?_
        refine wp_seq_k fun K37 hK37 => ?_
        refine wp_region_list (WL.out ?_)
        refine WL.val (by kernel_rfl) (u6) (by go_simp) ?_
        simp only [Act.put, List.setIfInBounds_toArray, List.set_cons_zero, List.set_cons_succ]
        refine WL.val (by kernel_rfl) (.slice pa ls.length pc) (by go_simp) ?_
        simp only [Act.put, List.setIfInBounds_toArray, List.set_cons_zero, List.set_cons_succ]
        refine WL.val (by kernel_rfl) (.int .i64 (at_ : Int)) (by go_simp) ?_
        simp only [Act.put, List.setIfInBounds_toArray, List.set_cons_zero, List.set_cons_succ]
        refine WL.val (by kernel_rfl) (.int .i64 (at_ : Int)) (by go_simp) ?_
        simp only [Act.put, List.setIfInBounds_toArray, List.set_cons_zero, List.set_cons_succ]
        refine WL.val (by kernel_rfl) (.int .i64 (k : Int)) (by go_simp) ?_
        simp only [Act.put, List.setIfInBounds_toArray, List.set_cons_zero, List.set_cons_succ]
        refine WL.val (by kernel_rfl) (.int .i64 ((at_ + k : Nat) : Int)) (by go_simp) ?_
        simp only [Act.put, List.setIfInBounds_toArray, List.set_cons_zero, List.set_cons_succ]
        refine WL.val (by kernel_rfl) (.slice xa ((ls.drop at_).take k).length xc) (by go_simp) ?_
        clear hs2
        simp only [Act.put, List.setIfInBounds_toArray, List.set_cons_zero, List.set_cons_succ]
        refine WL.bld (by kernel_rfl) 28 _ rfl [(0, .int .i64 3), (5, .slice xa ((ls.drop at_).take k).length xc)] (by simp [Act.eval]) (msA (cB (.slice xa ((ls.drop at_).take k).length xc))) (ms_builtB _ _ _) ?_
        simp only [Act.put, List.setIfInBounds_toArray, List.set_cons_zero, List.set_cons_succ]
        refine WL.bs (by kernel_rfl) 48 1 _ rfl #[(0, .agg (msA (cB (.slice xa ((ls.drop at_).take k).length xc))))] (by simp [Act.eval]) _ _ (bsM _ _ _ wx) ?_
        have HG3 := Keep.mk (Blk.new wx 28 (msA (cB (.slice xa ((ls.drop at_).take k).length xc))))
        have B3 := Keep.mk (below_new wx (.cells (msA (cB (.slice xa ((ls.drop at_).take k).length xc))) 28))
        generalize wx.alloc (.cells (msA (cB (.slice xa ((ls.drop at_).take k).length xc))) 28) = w3 at *
        have HB3 : Keep (Below wr.heap.size wr w3) := ⟨HBw.out.trans (B3.out.mono HBw.out.size)⟩
        have HO3 := Keep.mk (HOx.out.below B3.out)
        generalize wx.heap.size = g3 at HG3 ⊢
        simp only [Act.put, List.setIfInBounds_toArray, List.set_cons_zero, List.set_cons_succ]
        refine WL.appM (by kernel_rfl) (.tmp 69) (.tmp 77) rfl u6 cs g3 (cB (.slice xa ((ls.drop at_).take k).length xc)) (cB_sl _ _ _) rfl rfl HO3.out HG3.out (by have h := HMr.out.1; omega) ?_
        intro v4 w4 h1 h2 h3
        have HO4 := Keep.mk h1
        have HM4 : Keep (MsgsOf (RwsAt wr) (cs ++ [cB (.slice xa ((ls.drop at_).take k).length xc)]) (D ++ [((ls.drop at_).take k)])) := ⟨HMr.out.push HRs.out⟩
        have HB4 : Keep (Below wr.heap.size wr w4) := ⟨HB3.out.trans (h2.to_below (fun k hk e => absurd (HFr.out k e) (by omega)) HB3.out.size)⟩
        have HF4 : Keep (∀ k, v4.ownBlock = some k → wr.heap.size ≤ k) := ⟨fun k hk => by
          rcases h3 with e | ⟨j, e, hj⟩
          · rw [e] at hk; exact HFr.out k hk
          · rw [e] at hk; injection hk with hk; have := HB3.out.size; omega⟩
        clear h1 h2 h3
        simp only [Act.put, List.setIfInBounds_toArray, List.set_cons_zero, List.set_cons_succ]
        refine WL.val (by kernel_rfl) (v4) (by go_simp) ?_
        simp only [Act.put, List.setIfInBounds_toArray, List.set_cons_zero, List.set_cons_succ]
        refine WL.nil ?_
        refine hK37 _ _ ?_
        refine wp_region_list (WL.out ?_)
        refine WL.val (by kernel_rfl) (.int .i64 (at_ : Int)) (by go_simp) ?_
        simp only [Act.put, List.setIfInBounds_toArray, List.set_cons_zero, List.set_cons_succ]
        refine WL.val (by kernel_rfl) (.int .i64 (k : Int)) (by go_simp) ?_
        simp only [Act.put, List.setIfInBounds_toArray, List.set_cons_zero, List.set_cons_succ]
        refine WL.val (by kernel_rfl) (.int .i64 ((at_ + k : Nat) : Int)) (by go_simp) ?_
        simp only [Act.put, List.setIfInBounds_toArray, List.set_cons_zero, List.set_cons_succ]
        refine WL.val (by kernel_rfl) (.int .i64 ((at_ + k : Nat) : Int)) (by go_simp) ?_
        simp only [Act.put, List.setIfInBounds_toArray, List.set_cons_zero, List.set_cons_succ]
        refine WL.nil ?_
        refine ⟨⟨at_ + k, v4, .int .i64 (k : Int), .int .i64 ((AL rs k : Nat) : Int), z10, .int .i64 (at_ : Int), .slice pa ls.length pc, .int .i64 (ls.length : Int), .bool true, .int .i64 (at_ : Int), .int .i64 (k : Int), .int .i64 ((at_ + k : Nat) : Int), .slice pa ls.length pc, .int .i64 (ls.length : Int), .bool false, .bool false, undef, undef, .bool false, z39, z40, z41, z42, z43, z44, z45, z46, z47, z48, z49, z50, z51, z52, z53, z54, z55, z56, z57, z58, z59, z60, z61, z62, z63, z64, z65, z66, z67, z68, u6, .slice pa ls.length pc, .int .i64 (at_ : Int), .int .i64 (at_ : Int), .int .i64 (k : Int), .int .i64 ((at_ + k : Nat) : Int), .slice xa ((ls.drop at_).take k).length xc, .agg (msA (cB (.slice xa ((ls.drop at_).take k).length xc))), .slice (some ⟨g3, 0, none⟩) 1 1, v4, .int .i64 (at_ : Int), .int .i64 (k : Int), .int .i64 ((at_ + k : Nat) : Int), rfl, by omega, D ++ [(ls.drop at_).take k], cs ++ [cB (.slice xa ((ls.drop at_).take k).length xc)], HO4, HF4, HM4, ⟨fun E hE => by have h := HCh.out ((ls.drop at_).take k :: E) ⟨fun h => by rw [← Hrs.out] at h; rw [h] at hrl; simp at hrl; omega, by rw [← Hrs.out, ← Hfit.out], by rw [← Hrs.out, ← Hfit.out, Hrs.out, List.drop_drop]; exact hE⟩; simpa [List.append_assoc] using h⟩, HB4, by rw [List.length_append]; simp; omega⟩, by simp [intOf]; omega⟩
    · have hlt' : ¬ (at_ : Int) < (ls.length : Int) := by omega
      have hde : ls.drop at_ = [] := List.drop_of_length_le (by omega)
      refine wp_seq_k fun K38 hK38 => ?_
      refine wp_seq_k fun K39 hK39 => ?_
      refine wp_region_list (WL.out ?_)
      refine WL.val (by kernel_rfl) (.int .i64 (at_ : Int)) (by go_simp) ?_
      simp only [Act.put, List.setIfInBounds_toArray, List.set_cons_zero, List.set_cons_succ]
      refine WL.val (by kernel_rfl) (.slice pa ls.length pc) (by go_simp) ?_
      simp only [Act.put, List.setIfInBounds_toArray, List.set_cons_zero, List.set_cons_succ]
      refine WL.val (by kernel_rfl) (.int .i64 (ls.length : Int)) (by go_simp) ?_
      simp only [Act.put, List.setIfInBounds_toArray, List.set_cons_zero, List.set_cons_succ]
      refine WL.val (by kernel_rfl) (.bool false) (by go_simp) ?_
      simp only [Act.put, List.setIfInBounds_toArray, List.set_cons_zero, List.set_cons_succ]
      refine WL.nil ?_
      refine hK39 _ _ ?_
      refine wp_cond_false rfl ?_
      refine wp_exit ?_
      refine hK18 _ _ ?_
      refine wp_seq_k fun K40 hK40 => ?_
      refine wp_region_list (WL.out ?_)
      refine WL.val (by kernel_rfl) (u6) (by go_simp) ?_
      simp only [Act.put, List.setIfInBounds_toArray, List.set_cons_zero, List.set_cons_succ]
      refine WL.val (by kernel_rfl) (u6) (by go_simp) ?_
      simp only [Act.put, List.setIfInBounds_toArray, List.set_cons_zero, List.set_cons_succ]
      refine WL.val (by kernel_rfl) (.int .i64 0) (by go_simp) ?_
      simp only [Act.put, List.setIfInBounds_toArray, List.set_cons_zero, List.set_cons_succ]
      refine WL.nil ?_
      refine hK40 _ _ ?_
      refine wp_ret ?_
      go_ret2
      exact ⟨HBr.out, .inr ⟨Hok.out, _, D, cs, rfl, HOr.out, by have h := HCh.out [] (by rw [hde]; rfl); rwa [List.append_nil] at h, HMr.out⟩⟩
theorem Try.in19 (w : World) (vs : Array Value) : (callFunc 19 vs).run Try.prog w = .ok (.enter 19 vs) w := by kernel_rfl
def mB (d : List (List Int)) : MsgV := { zeroM with k := 3, bk := d }
theorem mB_at {w : World} {a : Option Addr} {n c : Nat} {d : List (List Int)} (h : RwsAt w (.slice a n c) d) : MsAt w (mB d) (cB (.slice a n c)) := ⟨rfl, rfl, hrow_nil w, .inl ⟨rfl, rfl⟩, hrow_nil w, h⟩
theorem mB_ok {ls d : List (List Int)} (hl : d.length ≤ 140737488355328) (hr : ∀ r ∈ d, r.length ≤ 140737488355328) (hB : ∀ r ∈ d, Byts r) : MsOk (mB d) :=
  ⟨⟨by simp [mB, zeroM], by simp [mB, zeroM]⟩, ⟨by simp [mB, zeroM], by simp [mB, zeroM]⟩, by simp [mB, zeroM], by simp [mB, zeroM], by simp [mB, zeroM], hl, fun c hc => by simp [mB, zeroM] at hc, fun i hi => by
    have hi' : i < d.length := hi
    show (d.getD i []).length ≤ _
    rw [List.getD_eq_getElem?_getD, List.getElem?_eq_getElem hi']
    exact hr _ (List.getElem_mem hi'), hB⟩
theorem rangeAt_below {w w' : World} {b o : Nat} {C : List Value} (h : w.rangeAt b o C) (hb : Below w.heap.size w w') : w'.rangeAt b o C := fun j v hv => by
  have h1 := h j v hv
  rw [hb.cell (p := ⟨b, o + j, none⟩) (cell_lt h1)]
  exact h1
set_option maxRecDepth 8000 in
set_option maxHeartbeats 4000000 in
theorem sameMsgs_any (va vb : Value) (cs ds : List MC) (D : List (List (List Int))) (w : World) (hA : OwnM w va cs) (hB : OwnM w vb ds) (mA : MsgsOf (RwsAt w) cs D) (mB_ : MsgsOf (RwsAt w) ds D) (hok : ∀ d ∈ D, MsOk (mB d)) (hn : D.length ≤ 1000000000000) : Calls Try.prog 19 #[va, vb] w fun e w' => e = .returned (.bool true) ∧ Below w.heap.size w w' := by
  obtain ⟨aa, acp, rfl⟩ := hA.sl
  obtain ⟨ba, bc, rfl⟩ := hB.sl
  rw [mA.1] at hA ⊢
  rw [mB_.1] at hB ⊢
  have HA := Keep.mk hA
  have HB := Keep.mk hB
  have HMA := Keep.mk mA
  have HMB := Keep.mk mB_
  have HOk := Keep.mk hok
  have hni : (D.length : Int) ≤ 1000000000000 := by omega
  clear hA hB mA mB_ hok
  go_enter Try.func19, Try.ntmps19
  refine wp_seq_k fun K1 hK1 => ?_
  refine wp_region_list (WL.out ?_)
  refine WL.val (by kernel_rfl) (.bool false) (by go_simp) ?_
  simp only [Act.put, List.setIfInBounds_toArray, List.set_cons_zero, List.set_cons_succ]
  refine WL.nil ?_
  refine hK1 _ _ ?_
  refine wp_seq_k fun K2 hK2 => ?_
  refine wp_seq_k fun K3 hK3 => ?_
  refine wp_region_list (WL.out ?_)
  refine WL.val (by kernel_rfl) (.slice aa D.length acp) (by go_simp) ?_
  simp only [Act.put, List.setIfInBounds_toArray, List.set_cons_zero, List.set_cons_succ]
  refine WL.val (by kernel_rfl) (.int .i64 (D.length : Int)) (by go_simp) ?_
  simp only [Act.put, List.setIfInBounds_toArray, List.set_cons_zero, List.set_cons_succ]
  refine WL.val (by kernel_rfl) (.slice ba D.length bc) (by go_simp) ?_
  simp only [Act.put, List.setIfInBounds_toArray, List.set_cons_zero, List.set_cons_succ]
  refine WL.val (by kernel_rfl) (.int .i64 (D.length : Int)) (by go_simp) ?_
  simp only [Act.put, List.setIfInBounds_toArray, List.set_cons_zero, List.set_cons_succ]
  refine WL.val (by kernel_rfl) (.bool false) (by go_simp) ?_
  simp only [Act.put, List.setIfInBounds_toArray, List.set_cons_zero, List.set_cons_succ]
  refine WL.nil ?_
  refine hK3 _ _ ?_
  refine wp_cond_false rfl ?_
  refine wp_skip ?_
  refine hK2 _ _ ?_
  refine wp_seq_k fun K4 hK4 => ?_
  refine wp_seq_k fun K5 hK5 => ?_
  refine wp_region_list (WL.out ?_)
  refine WL.val (by kernel_rfl) (.int .i64 0) (by go_simp) ?_
  simp only [Act.put, List.setIfInBounds_toArray, List.set_cons_zero, List.set_cons_succ]
  refine WL.nil ?_
  refine hK5 _ _ ?_
  refine wp_block ?_
  refine wp_loop (fun ac wr => ∃ (t : Nat) (u4 u6 u12 u13 u14 u15 u16 u17 u18 u19 u20 u21 u22 u23 u24 u25 u26 u27 u28 : Value), ac = { tmps := #[.slice aa D.length acp, .slice ba D.length bc, undef, undef, u4, .int .i64 (t : Int), u6, .slice aa D.length acp, .int .i64 (D.length : Int), .slice ba D.length bc, .int .i64 (D.length : Int), .bool false, u12, u13, u14, u15, u16, u17, u18, u19, u20, u21, u22, u23, u24, u25, u26, u27, u28], defers := [] } ∧ t ≤ D.length ∧ Keep (Below w.heap.size w wr)) (fun a _ => D.length - (intOf (a.tmps.getD 5 undef)).toNat) ⟨0, .bool false, undef, undef, undef, undef, undef, undef, undef, undef, undef, undef, undef, undef, undef, undef, undef, undef, undef, undef, rfl, by omega, ⟨Below.refl _ _⟩⟩ ?_
  rintro ac wr ⟨t, u4, u6, u12, u13, u14, u15, u16, u17, u18, u19, u20, u21, u22, u23, u24, u25, u26, u27, u28, rfl, ht, HBr⟩
  by_cases hlt : t < D.length
  · have hlt' : (t : Int) < (D.length : Int) := by omega
    have hnt : ¬ (t : Int) < 0 := by omega
    have hwt : IntKind.i64.wrap ((t : Int) + 1) = (t : Int) + 1 := by rw [IntKind.wrap_i64]; omega
    obtain ⟨d, hd⟩ : ∃ d, D[t]? = some d := ⟨_, List.getElem?_eq_getElem hlt⟩
    obtain ⟨a1, c1, g1, r1⟩ := HMA.out.2 t d hd
    obtain ⟨a2, c2, g2, r2⟩ := HMB.out.2 t d hd
    obtain ⟨x, hx, k1⟩ := (HA.out.below HBr.out).at g1
    obtain ⟨y, hy, k2⟩ := (HB.out.below HBr.out).at g2
    subst hx hy
    have hok := HOk.out d (List.mem_of_getElem? hd)
    have HS := Keep.mk (same_refl (mB d) hok _ _ wr.drew (mB_at ((r1.below HBr.out).below (Below.refl _ _).drew)) (mB_at ((r2.below HBr.out).below (Below.refl _ _).drew)))
    obtain ⟨C1, hC1⟩ : ∃ C, C = (msA (cB (.slice a1 d.length c1))).toList := ⟨_, rfl⟩
    obtain ⟨C2, hC2⟩ : ∃ C, C = (msA (cB (.slice a2 d.length c2))).toList := ⟨_, rfl⟩
    have l1 : (Try.prog.info? 28).map (·.size) = some C1.length := by rw [hC1, Array.length_toList]; exact Try.size28B _
    have l2 : (Try.prog.info? 28).map (·.size) = some C2.length := by rw [hC2, Array.length_toList]; exact Try.size28B _
    rw [← hC1] at k1
    rw [← hC2] at k2
    rw [show msA (cB (.slice a1 d.length c1)) = C1.toArray by rw [hC1], show msA (cB (.slice a2 d.length c2)) = C2.toArray by rw [hC2]] at HS
    have HS0 : wr.drew.rangeAt x (t * 6) C1 ∧ wr.drew.rangeAt y (t * 6) C2 := ⟨k1, k2⟩
    clear hC1 hC2 hd g1 g2 r1 r2 hok k1 k2
    refine wp_seq_k fun K6 hK6 => ?_
    refine wp_seq_k fun K7 hK7 => ?_
    refine wp_region_list (WL.out ?_)
    refine WL.val (by kernel_rfl) (.int .i64 (t : Int)) (by go_simp) ?_
    simp only [Act.put, List.setIfInBounds_toArray, List.set_cons_zero, List.set_cons_succ]
    refine WL.val (by kernel_rfl) (.slice (some ⟨x, 0, none⟩) D.length acp) (by go_simp) ?_
    simp only [Act.put, List.setIfInBounds_toArray, List.set_cons_zero, List.set_cons_succ]
    refine WL.val (by kernel_rfl) (.int .i64 (D.length : Int)) (by go_simp) ?_
    simp only [Act.put, List.setIfInBounds_toArray, List.set_cons_zero, List.set_cons_succ]
    refine WL.val (by kernel_rfl) (.bool true) (by go_simp) ?_
    simp only [Act.put, List.setIfInBounds_toArray, List.set_cons_zero, List.set_cons_succ]
    refine WL.nil ?_
    refine hK7 _ _ ?_
    refine wp_cond_true rfl ?_
    refine wp_skip ?_
    refine hK6 _ _ ?_
    refine wp_seq_k fun K8 hK8 => ?_
    refine wp_block ?_
    refine wp_seq_k fun K9 hK9 => ?_
    refine wp_region_held_drew (S := fun wy => wy.rangeAt x (t * 6) C1 ∧ wy.rangeAt y (t * 6) C2) (by kernel_rfl) (HS0) (fun hHeld => ?_)
    refine wpAnyH_take (i := 0) (oi := ⟨some 18, Op.move (Operand.tmp 0), 48, _, _, none⟩) (v := .slice (some ⟨x, 0, none⟩) D.length acp) rfl (by kernel_rfl) (by kernel_rfl) (by kernel_rfl) (fun _ _ _ h => h) (Or.inl ⟨by rfl, fun w hS => by go_simp⟩) hHeld ?_
    simp only [Act.put, List.setIfInBounds_toArray, List.set_cons_zero, List.set_cons_succ]
    refine wpAnyH_take (i := 1) (oi := ⟨some 19, Op.move (Operand.tmp 5), 3, _, _, none⟩) (v := .int .i64 (t : Int)) rfl (by kernel_rfl) (by kernel_rfl) (by kernel_rfl) (fun _ _ _ h => h) (Or.inl ⟨by rfl, fun w hS => by go_simp⟩) hHeld ?_
    simp only [Act.put, List.setIfInBounds_toArray, List.set_cons_zero, List.set_cons_succ]
    refine wpAnyH_take (i := 2) (oi := ⟨some 20, Op.indexAddr 48 (Operand.tmp 18) (Operand.tmp 19), 0, _, _, none⟩) (v := .pointer (some ⟨x, t * 6, none⟩)) rfl (by kernel_rfl) (by kernel_rfl) (by kernel_rfl) (fun _ _ _ h => h) (Or.inl ⟨by rfl, fun w hS => by clear hS; go_simp; try omega⟩) hHeld ?_
    simp only [Act.put, List.setIfInBounds_toArray, List.set_cons_zero, List.set_cons_succ]
    refine wpAnyH_take (i := 3) (oi := ⟨some 21, Op.load 28 (Operand.tmp 20), 28, _, _, none⟩) (v := .agg C1.toArray) rfl (by kernel_rfl) (by kernel_rfl) (by kernel_rfl) (fun _ _ _ h => h) (yieldsIf_load_mid (by rfl) 28 (Operand.tmp 20) rfl x (t * 6) rfl C1 _ (fun w hS => hS.1) Try.underlying28 rfl l1) hHeld ?_
    simp only [Act.put, List.setIfInBounds_toArray, List.set_cons_zero, List.set_cons_succ]
    refine wpAnyH_take (i := 4) (oi := ⟨some 22, Op.move (Operand.tmp 1), 48, _, _, none⟩) (v := .slice (some ⟨y, 0, none⟩) D.length bc) rfl (by kernel_rfl) (by kernel_rfl) (by kernel_rfl) (fun _ _ _ h => h) (Or.inl ⟨by rfl, fun w hS => by go_simp⟩) hHeld ?_
    simp only [Act.put, List.setIfInBounds_toArray, List.set_cons_zero, List.set_cons_succ]
    refine wpAnyH_take (i := 5) (oi := ⟨some 23, Op.move (Operand.tmp 5), 3, _, _, none⟩) (v := .int .i64 (t : Int)) rfl (by kernel_rfl) (by kernel_rfl) (by kernel_rfl) (fun _ _ _ h => h) (Or.inl ⟨by rfl, fun w hS => by go_simp⟩) hHeld ?_
    simp only [Act.put, List.setIfInBounds_toArray, List.set_cons_zero, List.set_cons_succ]
    refine wpAnyH_take (i := 6) (oi := ⟨some 24, Op.indexAddr 48 (Operand.tmp 22) (Operand.tmp 23), 0, _, _, none⟩) (v := .pointer (some ⟨y, t * 6, none⟩)) rfl (by kernel_rfl) (by kernel_rfl) (by kernel_rfl) (fun _ _ _ h => h) (Or.inl ⟨by rfl, fun w hS => by clear hS; go_simp; try omega⟩) hHeld ?_
    simp only [Act.put, List.setIfInBounds_toArray, List.set_cons_zero, List.set_cons_succ]
    refine wpAnyH_take (i := 7) (oi := ⟨some 25, Op.load 28 (Operand.tmp 24), 28, _, _, none⟩) (v := .agg C2.toArray) rfl (by kernel_rfl) (by kernel_rfl) (by kernel_rfl) (fun _ _ _ h => h) (yieldsIf_load_mid (by rfl) 28 (Operand.tmp 24) rfl y (t * 6) rfl C2 _ (fun w hS => hS.2) Try.underlying28 rfl l2) hHeld ?_
    simp only [Act.put, List.setIfInBounds_toArray, List.set_cons_zero, List.set_cons_succ]
    refine wpAnyH_ready (rs := [8]) (by kernel_rfl) (by simp) ?_
    refine AllReadyH.cons (o := ⟨some 26, Op.call { callee := Callee.value (Operand.func 16), args := #[Operand.tmp 21, Operand.tmp 25], argTypes := #[28, 28] }, 4, _, _, none⟩) rfl (fun K hK => ?_) AllReadyH.nil
    rw [if_pos (by rfl)]
    refine wp_callF 16 _ _ rfl Try.in16 #[.agg C1.toArray, .agg C2.toArray] (by simp [Act.eval]) (fun vz wz => vz = .bool true ∧ Below wr.drew.heap.size wr.drew wz) (HS.out.mono fun e w' h => ⟨_, h.1, rfl, h.2⟩) ?_
    rintro vz w7 ⟨rfl, h7⟩
    have HB7 : Keep (Below w.heap.size w w7) := ⟨(HBr.out.drew).trans (h7.mono HBr.out.drew.size)⟩
    refine hK.out _ _ ⟨rangeAt_below HS0.1 h7, rangeAt_below HS0.2 h7⟩ fun hHa => ?_
    clear hK
    simp only [Act.put, List.setIfInBounds_toArray, List.set_cons_zero, List.set_cons_succ]
    refine wpAnyH_take (i := 9) (oi := ⟨some 6, Op.assign (Operand.tmp 26), 4, _, _, none⟩) (v := .bool true) rfl (by kernel_rfl) (by kernel_rfl) (by kernel_rfl) (fun _ _ _ h => h) (Or.inl ⟨by rfl, fun w hS => by go_simp⟩) hHa ?_
    simp only [Act.put, List.setIfInBounds_toArray, List.set_cons_zero, List.set_cons_succ]
    refine wpAnyH_done (by kernel_rfl) ?_ _
    refine hK9 _ _ ?_
    refine wp_seq_k fun K10 hK10 => ?_
    refine wp_region_list (WL.out ?_)
    refine WL.val (by kernel_rfl) (.bool true) (by go_simp) ?_
    simp only [Act.put, List.setIfInBounds_toArray, List.set_cons_zero, List.set_cons_succ]
    refine WL.val (by kernel_rfl) (.bool false) (by go_simp) ?_
    simp only [Act.put, List.setIfInBounds_toArray, List.set_cons_zero, List.set_cons_succ]
    refine WL.nil ?_
    refine hK10 _ _ ?_
    refine wp_cond_false rfl ?_
    refine wp_skip ?_
    refine hK8 _ _ ?_
    refine wp_region_list (WL.out ?_)
    refine WL.val (by kernel_rfl) (.int .i64 (t : Int)) (by go_simp) ?_
    simp only [Act.put, List.setIfInBounds_toArray, List.set_cons_zero, List.set_cons_succ]
    refine WL.val (by kernel_rfl) (.int .i64 ((t : Int) + 1)) (by go_simp) ?_
    simp only [Act.put, List.setIfInBounds_toArray, List.set_cons_zero, List.set_cons_succ]
    refine WL.val (by kernel_rfl) (.int .i64 ((t : Int) + 1)) (by go_simp) ?_
    simp only [Act.put, List.setIfInBounds_toArray, List.set_cons_zero, List.set_cons_succ]
    refine WL.nil ?_
    refine ⟨⟨t + 1, u4, .bool true, .int .i64 (t : Int), .slice (some ⟨x, 0, none⟩) D.length acp, .int .i64 (D.length : Int), .bool true, .int .i64 (t : Int), .int .i64 ((t : Int) + 1), .slice (some ⟨x, 0, none⟩) D.length acp, .int .i64 (t : Int), .pointer (some ⟨x, t * 6, none⟩), .agg C1.toArray, .slice (some ⟨y, 0, none⟩) D.length bc, .int .i64 (t : Int), .pointer (some ⟨y, t * 6, none⟩), .agg C2.toArray, .bool true, .bool true, .bool false, rfl, by omega, HB7⟩, by simp [intOf]; omega⟩
  · have hlt' : ¬ (t : Int) < (D.length : Int) := by omega
    refine wp_seq_k fun K11 hK11 => ?_
    refine wp_seq_k fun K12 hK12 => ?_
    refine wp_region_list (WL.out ?_)
    refine WL.val (by kernel_rfl) (.int .i64 (t : Int)) (by go_simp) ?_
    simp only [Act.put, List.setIfInBounds_toArray, List.set_cons_zero, List.set_cons_succ]
    refine WL.val (by kernel_rfl) (.slice aa D.length acp) (by go_simp) ?_
    simp only [Act.put, List.setIfInBounds_toArray, List.set_cons_zero, List.set_cons_succ]
    refine WL.val (by kernel_rfl) (.int .i64 (D.length : Int)) (by go_simp) ?_
    simp only [Act.put, List.setIfInBounds_toArray, List.set_cons_zero, List.set_cons_succ]
    refine WL.val (by kernel_rfl) (.bool false) (by go_simp) ?_
    simp only [Act.put, List.setIfInBounds_toArray, List.set_cons_zero, List.set_cons_succ]
    refine WL.nil ?_
    refine hK12 _ _ ?_
    refine wp_cond_false rfl ?_
    refine wp_exit ?_
    refine hK4 _ _ ?_
    refine wp_seq_k fun K13 hK13 => ?_
    refine wp_region_list (WL.out ?_)
    refine WL.val (by kernel_rfl) (.bool true) (by go_simp) ?_
    simp only [Act.put, List.setIfInBounds_toArray, List.set_cons_zero, List.set_cons_succ]
    refine WL.nil ?_
    refine hK13 _ _ ?_
    refine wp_ret ?_
    go_ret
    exact ⟨rfl, HBr.out⟩

theorem ownM_nil (w : World) : OwnM w (.slice none 0 0) [] := ⟨rfl, .inl ⟨rfl, rfl⟩⟩
theorem isCh_len : ∀ (D : List (List (List Int))) (ls : List (List Int)), okR ls = true → isCh ls D → D.length ≤ ls.length
  | [], ls, _, _ => Nat.zero_le _
  | d :: D, ls, hok, h => by
    have ih := isCh_len D _ (okR_mem hok fun r hr => List.mem_of_mem_drop hr) h.2.2
    have h1 := fit_pos hok h.1
    have h2 := fit_len ls
    rw [List.length_drop] at ih
    simp only [List.length_cons]
    omega
set_option maxRecDepth 8000 in
set_option maxHeartbeats 4000000 in
theorem mblocks_any (v : Value) (ls : List (List Int)) (w : World) (hr : RwsAt w v ls) (hn : ls.length ≤ 1000000000000) (hrl : ∀ i, i < ls.length → (ls.getD i []).length ≤ 140737488355328) (hby : ∀ r ∈ ls, Byts r) : Calls Try.prog 6 #[v] w fun e w' => e = .returned (.bool true) ∧ Below w.heap.size w w' := by
  obtain ⟨pa, pc, rfl⟩ := hr.form
  have HR := Keep.mk hr
  have HRl := Keep.mk hrl
  have HBy := Keep.mk hby
  have HRm : Keep (∀ r ∈ ls, r.length ≤ 140737488355328) := ⟨fun r hrr => by
    obtain ⟨i, hi, rfl⟩ := List.getElem_of_mem hrr
    have := hrl i hi
    rwa [List.getD_eq_getElem?_getD, List.getElem?_eq_getElem hi] at this⟩
  clear hr hrl hby
  go_enter Try.func6, Try.ntmps6
  refine wp_seq_k fun K1 hK1 => ?_
  refine wp_region_list (WL.out ?_)
  refine WL.val (by kernel_rfl) (.bool false) (by go_simp) ?_
  simp only [Act.put, List.setIfInBounds_toArray, List.set_cons_zero, List.set_cons_succ]
  refine WL.nil ?_
  refine hK1 _ _ ?_
  refine wp_seq_k fun K2 hK2 => ?_
  refine wp_region_list (WL.out ?_)
  refine WL.val (by kernel_rfl) (.slice pa ls.length pc) (by go_simp) ?_
  simp only [Act.put, List.setIfInBounds_toArray, List.set_cons_zero, List.set_cons_succ]
  refine WL.callF (by kernel_rfl) 17 _ _ rfl Try.in17 #[.slice pa ls.length pc] (by simp [Act.eval]) ?_
  refine (blocks_any _ ls w HR.out hn HRl.out).mono ?_
  rintro e w1 ⟨hb1, h1⟩
  have B1 := Keep.mk hb1
  have HR1 := Keep.mk (HR.out.below hb1)
  clear hb1
  have HC2 := Keep.mk (rblocks_any _ ls w1 HR1.out hn HRl.out)
  rcases h1 with ⟨hok, rfl⟩ | ⟨hok, v, D, cs, rfl, h2, h3, h4⟩
  · refine ⟨.tuple #[.slice none 0 0, .int .i64 4], rfl, ?_⟩
    simp only [Act.put, List.setIfInBounds_toArray, List.set_cons_zero, List.set_cons_succ]
    refine WL.val (by kernel_rfl) (.tuple #[.slice none 0 0, .int .i64 4]) (by go_simp) ?_
    simp only [Act.put, List.setIfInBounds_toArray, List.set_cons_zero, List.set_cons_succ]
    refine WL.val (by kernel_rfl) (.slice none 0 0) (by go_simp) ?_
    simp only [Act.put, List.setIfInBounds_toArray, List.set_cons_zero, List.set_cons_succ]
    refine WL.val (by kernel_rfl) (.int .i64 4) (by go_simp) ?_
    simp only [Act.put, List.setIfInBounds_toArray, List.set_cons_zero, List.set_cons_succ]
    refine WL.val (by kernel_rfl) (.slice none 0 0) (by go_simp) ?_
    simp only [Act.put, List.setIfInBounds_toArray, List.set_cons_zero, List.set_cons_succ]
    refine WL.val (by kernel_rfl) (.int .i64 4) (by go_simp) ?_
    simp only [Act.put, List.setIfInBounds_toArray, List.set_cons_zero, List.set_cons_succ]
    refine WL.nil ?_
    refine hK2 _ _ ?_
    refine wp_seq_k fun K3 hK3 => ?_
    refine wp_region_list (WL.out ?_)
    refine WL.val (by kernel_rfl) (.slice pa ls.length pc) (by go_simp) ?_
    simp only [Act.put, List.setIfInBounds_toArray, List.set_cons_zero, List.set_cons_succ]
    refine WL.callF (by kernel_rfl) 18 _ _ rfl Try.in18 #[.slice pa ls.length pc] (by simp [Act.eval]) ?_
    refine (HC2.out).mono ?_
    rintro e w2 ⟨hb2, h1⟩
    obtain rfl : e = .returned (.tuple #[noS, .int .i64 4]) := by
      rcases h1 with h | h
      · exact h.2
      · exact absurd h.1 (by rw [hok]; decide)
    refine ⟨.tuple #[.slice none 0 0, .int .i64 4], rfl, ?_⟩
    have B2 : Keep (Below w.heap.size w w2) := ⟨B1.out.trans (hb2.mono B1.out.size)⟩
    clear h1 hb2
    simp only [Act.put, List.setIfInBounds_toArray, List.set_cons_zero, List.set_cons_succ]
    refine WL.val (by kernel_rfl) (.tuple #[.slice none 0 0, .int .i64 4]) (by go_simp) ?_
    simp only [Act.put, List.setIfInBounds_toArray, List.set_cons_zero, List.set_cons_succ]
    refine WL.val (by kernel_rfl) (.slice none 0 0) (by go_simp) ?_
    simp only [Act.put, List.setIfInBounds_toArray, List.set_cons_zero, List.set_cons_succ]
    refine WL.val (by kernel_rfl) (.int .i64 4) (by go_simp) ?_
    simp only [Act.put, List.setIfInBounds_toArray, List.set_cons_zero, List.set_cons_succ]
    refine WL.val (by kernel_rfl) (.slice none 0 0) (by go_simp) ?_
    simp only [Act.put, List.setIfInBounds_toArray, List.set_cons_zero, List.set_cons_succ]
    refine WL.val (by kernel_rfl) (.int .i64 4) (by go_simp) ?_
    simp only [Act.put, List.setIfInBounds_toArray, List.set_cons_zero, List.set_cons_succ]
    refine WL.nil ?_
    refine hK3 _ _ ?_
    refine wp_seq_k fun K4 hK4 => ?_
    refine wp_region_list (WL.out ?_)
    refine WL.val (by kernel_rfl) (.int .i64 4) (by go_simp) ?_
    simp only [Act.put, List.setIfInBounds_toArray, List.set_cons_zero, List.set_cons_succ]
    refine WL.val (by kernel_rfl) (.int .i64 4) (by go_simp) ?_
    simp only [Act.put, List.setIfInBounds_toArray, List.set_cons_zero, List.set_cons_succ]
    refine WL.val (by kernel_rfl) (.bool true) (by go_simp) ?_
    simp only [Act.put, List.setIfInBounds_toArray, List.set_cons_zero, List.set_cons_succ]
    refine WL.val (by kernel_rfl) (.bool true) (by go_simp) ?_
    simp only [Act.put, List.setIfInBounds_toArray, List.set_cons_zero, List.set_cons_succ]
    refine WL.val (by kernel_rfl) (.slice none 0 0) (by go_simp) ?_
    simp only [Act.put, List.setIfInBounds_toArray, List.set_cons_zero, List.set_cons_succ]
    refine WL.val (by kernel_rfl) (.slice none 0 0) (by go_simp) ?_
    simp only [Act.put, List.setIfInBounds_toArray, List.set_cons_zero, List.set_cons_succ]
    refine WL.callF (by kernel_rfl) 19 _ _ rfl Try.in19 #[.slice none 0 0, .slice none 0 0] (by simp [Act.eval]) ?_
    refine (sameMsgs_any _ _ [] [] [] w2 (ownM_nil _) (ownM_nil _) ⟨rfl, fun i d hd => by simp at hd⟩ ⟨rfl, fun i d hd => by simp at hd⟩ (fun d hd => by simp at hd) (by decide)).mono ?_
    rintro e w3 ⟨rfl, hb3⟩
    refine ⟨_, rfl, ?_⟩
    have B3 : Keep (Below w.heap.size w w3) := ⟨B2.out.trans (hb3.mono B2.out.size)⟩
    clear hb3
    simp only [Act.put, List.setIfInBounds_toArray, List.set_cons_zero, List.set_cons_succ]
    refine WL.val (by kernel_rfl) (.bool true) (by go_simp) ?_
    simp only [Act.put, List.setIfInBounds_toArray, List.set_cons_zero, List.set_cons_succ]
    refine WL.val (by kernel_rfl) (.bool true) (by go_simp) ?_
    simp only [Act.put, List.setIfInBounds_toArray, List.set_cons_zero, List.set_cons_succ]
    refine WL.callF (by kernel_rfl) 9 _ _ rfl Try.in9 #[] (by simp [Act.eval]) ?_
    refine (fixed_any w3).mono ?_
    rintro e w4 ⟨rfl, hb4⟩
    refine ⟨_, rfl, ?_⟩
    have B4 : Keep (Below w.heap.size w w4) := ⟨B3.out.trans (hb4.mono B3.out.size)⟩
    clear hb4
    simp only [Act.put, List.setIfInBounds_toArray, List.set_cons_zero, List.set_cons_succ]
    refine WL.val (by kernel_rfl) (.bool true) (by go_simp) ?_
    simp only [Act.put, List.setIfInBounds_toArray, List.set_cons_zero, List.set_cons_succ]
    refine WL.val (by kernel_rfl) (.bool true) (by go_simp) ?_
    simp only [Act.put, List.setIfInBounds_toArray, List.set_cons_zero, List.set_cons_succ]
    refine WL.nil ?_
    refine hK4 _ _ ?_
    refine wp_ret ?_
    go_ret
    exact ⟨rfl, B4.out⟩
  · have Hok := Keep.mk hok
    have HO1 := Keep.mk h2
    have HC1 := Keep.mk h3
    have HM1 := Keep.mk h4
    clear hok h2 h3 h4
    obtain ⟨va, vc, hve⟩ := HO1.out.sl
    subst hve
    refine ⟨_, rfl, ?_⟩
    simp only [Act.put, List.setIfInBounds_toArray, List.set_cons_zero, List.set_cons_succ]
    refine WL.val (by kernel_rfl) (.tuple #[.slice va cs.length vc, .int .i64 0]) (by go_simp) ?_
    simp only [Act.put, List.setIfInBounds_toArray, List.set_cons_zero, List.set_cons_succ]
    refine WL.val (by kernel_rfl) (.slice va cs.length vc) (by go_simp) ?_
    simp only [Act.put, List.setIfInBounds_toArray, List.set_cons_zero, List.set_cons_succ]
    refine WL.val (by kernel_rfl) (.int .i64 0) (by go_simp) ?_
    simp only [Act.put, List.setIfInBounds_toArray, List.set_cons_zero, List.set_cons_succ]
    refine WL.val (by kernel_rfl) (.slice va cs.length vc) (by go_simp) ?_
    simp only [Act.put, List.setIfInBounds_toArray, List.set_cons_zero, List.set_cons_succ]
    refine WL.val (by kernel_rfl) (.int .i64 0) (by go_simp) ?_
    simp only [Act.put, List.setIfInBounds_toArray, List.set_cons_zero, List.set_cons_succ]
    refine WL.nil ?_
    refine hK2 _ _ ?_
    refine wp_seq_k fun K5 hK5 => ?_
    refine wp_region_list (WL.out ?_)
    refine WL.val (by kernel_rfl) (.slice pa ls.length pc) (by go_simp) ?_
    simp only [Act.put, List.setIfInBounds_toArray, List.set_cons_zero, List.set_cons_succ]
    refine WL.callF (by kernel_rfl) 18 _ _ rfl Try.in18 #[.slice pa ls.length pc] (by simp [Act.eval]) ?_
    refine (HC2.out).mono ?_
    rintro e w2 ⟨hb2, h1⟩
    obtain ⟨u, D2, ds, rfl, q2, q3, q4⟩ : ∃ v D cs, e = .returned (.tuple #[v, .int .i64 0]) ∧ OwnM w2 v cs ∧ isCh ls D ∧ MsgsOf (RwsAt w1) cs D := by
      rcases h1 with h | h
      · exact absurd h.1 (by rw [Hok.out]; decide)
      · exact h.2
    obtain rfl := isCh_one D2 D ls q3 HC1.out
    obtain ⟨ua, uc, hue⟩ := q2.sl
    subst hue
    refine ⟨_, rfl, ?_⟩
    have B2 : Keep (Below w.heap.size w w2) := ⟨B1.out.trans (hb2.mono B1.out.size)⟩
    have HO2 := Keep.mk (HO1.out.below hb2)
    have HU2 := Keep.mk q2
    have HM2 := Keep.mk (HM1.out.imp fun v d h => (RowsOwn.rws h).below hb2)
    have HN2 := Keep.mk (q4.imp fun v d h => RwsAt.below h hb2)
    clear h1 hb2 q2 q3 q4
    simp only [Act.put, List.setIfInBounds_toArray, List.set_cons_zero, List.set_cons_succ]
    refine WL.val (by kernel_rfl) (.tuple #[.slice ua ds.length uc, .int .i64 0]) (by go_simp) ?_
    simp only [Act.put, List.setIfInBounds_toArray, List.set_cons_zero, List.set_cons_succ]
    refine WL.val (by kernel_rfl) (.slice ua ds.length uc) (by go_simp) ?_
    simp only [Act.put, List.setIfInBounds_toArray, List.set_cons_zero, List.set_cons_succ]
    refine WL.val (by kernel_rfl) (.int .i64 0) (by go_simp) ?_
    simp only [Act.put, List.setIfInBounds_toArray, List.set_cons_zero, List.set_cons_succ]
    refine WL.val (by kernel_rfl) (.slice ua ds.length uc) (by go_simp) ?_
    simp only [Act.put, List.setIfInBounds_toArray, List.set_cons_zero, List.set_cons_succ]
    refine WL.val (by kernel_rfl) (.int .i64 0) (by go_simp) ?_
    simp only [Act.put, List.setIfInBounds_toArray, List.set_cons_zero, List.set_cons_succ]
    refine WL.nil ?_
    refine hK5 _ _ ?_
    refine wp_seq_k fun K6 hK6 => ?_
    refine wp_region_list (WL.out ?_)
    refine WL.val (by kernel_rfl) (.int .i64 0) (by go_simp) ?_
    simp only [Act.put, List.setIfInBounds_toArray, List.set_cons_zero, List.set_cons_succ]
    refine WL.val (by kernel_rfl) (.int .i64 0) (by go_simp) ?_
    simp only [Act.put, List.setIfInBounds_toArray, List.set_cons_zero, List.set_cons_succ]
    refine WL.val (by kernel_rfl) (.bool true) (by go_simp) ?_
    simp only [Act.put, List.setIfInBounds_toArray, List.set_cons_zero, List.set_cons_succ]
    refine WL.val (by kernel_rfl) (.bool true) (by go_simp) ?_
    simp only [Act.put, List.setIfInBounds_toArray, List.set_cons_zero, List.set_cons_succ]
    refine WL.val (by kernel_rfl) (.slice va cs.length vc) (by go_simp) ?_
    simp only [Act.put, List.setIfInBounds_toArray, List.set_cons_zero, List.set_cons_succ]
    refine WL.val (by kernel_rfl) (.slice ua ds.length uc) (by go_simp) ?_
    simp only [Act.put, List.setIfInBounds_toArray, List.set_cons_zero, List.set_cons_succ]
    refine WL.callF (by kernel_rfl) 19 _ _ rfl Try.in19 #[.slice va cs.length vc, .slice ua ds.length uc] (by simp [Act.eval]) ?_
    refine (sameMsgs_any _ _ cs ds D2 w2 HO2.out HU2.out HM2.out HN2.out (fun d hd => by
      have hm := isCh_mem D2 ls HC1.out d hd
      exact mB_ok (ls := ls) (by omega) (fun r hr => HRm.out r (hm.2 r hr)) (fun r hr => HBy.out r (hm.2 r hr))) (by have h := isCh_len D2 ls Hok.out HC1.out; omega)).mono ?_
    rintro e w3 ⟨rfl, hb3⟩
    refine ⟨_, rfl, ?_⟩
    have B3 : Keep (Below w.heap.size w w3) := ⟨B2.out.trans (hb3.mono B2.out.size)⟩
    clear hb3
    simp only [Act.put, List.setIfInBounds_toArray, List.set_cons_zero, List.set_cons_succ]
    refine WL.val (by kernel_rfl) (.bool true) (by go_simp) ?_
    simp only [Act.put, List.setIfInBounds_toArray, List.set_cons_zero, List.set_cons_succ]
    refine WL.val (by kernel_rfl) (.bool true) (by go_simp) ?_
    simp only [Act.put, List.setIfInBounds_toArray, List.set_cons_zero, List.set_cons_succ]
    refine WL.callF (by kernel_rfl) 9 _ _ rfl Try.in9 #[] (by simp [Act.eval]) ?_
    refine (fixed_any w3).mono ?_
    rintro e w4 ⟨rfl, hb4⟩
    refine ⟨_, rfl, ?_⟩
    have B4 : Keep (Below w.heap.size w w4) := ⟨B3.out.trans (hb4.mono B3.out.size)⟩
    clear hb4
    simp only [Act.put, List.setIfInBounds_toArray, List.set_cons_zero, List.set_cons_succ]
    refine WL.val (by kernel_rfl) (.bool true) (by go_simp) ?_
    simp only [Act.put, List.setIfInBounds_toArray, List.set_cons_zero, List.set_cons_succ]
    refine WL.val (by kernel_rfl) (.bool true) (by go_simp) ?_
    simp only [Act.put, List.setIfInBounds_toArray, List.set_cons_zero, List.set_cons_succ]
    refine WL.nil ?_
    refine hK6 _ _ ?_
    refine wp_ret ?_
    go_ret
    exact ⟨rfl, B4.out⟩
end Go.Proofs.Ytlogkojhcccogaa
namespace Go.Proofs.Ytlogkojhcccogaa
open Go.ChangeShapes Go.WideShapes Go.ChangeAt Go.RowKit Go.Deep

theorem Try.cellsOf25 : Try.prog.cellsOf 25 = 1 := by kernel_rfl
theorem Try.cellsOf5 : Try.prog.cellsOf 5 = 1 := by kernel_rfl
theorem Try.bytesOf5 : Try.prog.bytesOf 5 = 1 := by kernel_rfl
theorem reach_is : reachBytes = 140737488351232 := by decide
theorem add_none' (b o i : Nat) : (⟨b, o, none⟩ : Addr).add i = ⟨b, o + i, none⟩ := by
  cases i with
  | zero => rfl
  | succ i => rfl
theorem mem_weightsAll {H : Type} {P : Program} {e : TypeId} {d : DataW H} : ∀ {ds : List (DataW H)}, d ∈ ds → ∀ n ∈ d.weights P e, n ∈ DataW.weightsAll P e ds
  | d0 :: ds, h, n, hn => by
    simp only [DataW.weightsAll, List.mem_append]
    rcases List.mem_cons.1 h with rfl | h
    · exact .inl hn
    · exact .inr (mem_weightsAll h n hn)
theorem wf_u8 {n : Int} (h : (Lit.int .u8 n).wf = true) : 0 ≤ n ∧ n < 256 := by
  have h1 : IntKind.u8.min = 0 := by decide
  have h2 : IntKind.u8.max = 255 := by decide
  simp only [Lit.wf, h1, h2, Bool.and_eq_true, decide_eq_true_eq] at h
  omega

theorem row_of_trod {H : Type} {enc : TypeId × Value → H} {W : World} {sp : Nat → Bool} {held : Bool} {n base : Nat} {v : Value} {x : DataW H × List MemPlace} (hf : DataW.trod enc Try.prog W base sp held n 25 [v] = some x) (hw : ∀ n ∈ x.1.weights Try.prog 25, n ≤ reachBytes) :
    ∃ l : List Int, RowAt W v l ∧ Byts l ∧ l.length ≤ 140737488351232 := by
  rcases open_ints Try.underlying25 Try.underlying5 Try.cellsOf5 hf with ⟨hcs, _⟩ | ⟨a, len, cap, zs, hcs, _, hl, hm, hz, hx, hcell, hwz⟩
  · simp at hcs
    subst hcs
    exact ⟨[], .inl ⟨rfl, rfl⟩, Byts.nil, by simp⟩
  · simp at hcs
    subst hcs
    unfold maxLen at hm
    have hlz : len ≤ zs.length := by rw [hz]; split <;> omega
    have hbz : Byts zs := fun c hc => wf_u8 (hwz c hc)
    have hb : len ≤ 140737488351232 := by
      have h1 := hw ((zs.take len).length + (zs.drop len).length) (by
        rw [hx]
        simp only [DataW.weights, Try.underlying25]
        simp [lits, Try.bytesOf5])
      rw [List.length_take, reach_is] at h1
      omega
    by_cases h0 : len = 0
    · subst h0
      exact ⟨[], .inr (.inl ⟨a, cap, rfl, rfl⟩), Byts.nil, by simp⟩
    · have hs : a.spot = none := by
        have := hcell 0 (by omega)
        rw [show a.add 0 = a from rfl] at this
        exact World.cell?_spot this
      obtain ⟨b, off, sp⟩ := a
      obtain rfl : sp = none := hs
      have hlen : (zs.take len).length = len := by rw [List.length_take]; omega
      refine ⟨zs.take len, .inr (.inr ⟨b, off, cap, by rw [hlen], by omega, fun i hi => ?_⟩), hbz.take len, by omega⟩
      rw [hlen] at hi
      have := hcell i (by omega)
      rw [add_none'] at this
      rw [this]
      simp [List.getD, hi]

end Go.Proofs.Ytlogkojhcccogaa
namespace Go.Proofs.Ytlogkojhcccogaa
open Go.ChangeShapes Go.WideShapes Go.ChangeAt Go.RowKit Go.Deep
set_option linter.unusedSimpArgs false
set_option linter.unusedVariables false

theorem Try.bytesOf25 : Try.prog.bytesOf 25 = 24 := by kernel_rfl

theorem rws_of_trod {H : Type} {enc : TypeId × Value → H} {W : World} {sp : Nat → Bool} {held : Bool} {fuel base : Nat} {v : Value} {x : DataW H × List MemPlace} (hf : DataW.trod enc Try.prog W base sp held fuel 26 [v] = some x) (hw : ∀ n ∈ x.1.weights Try.prog 26, n ≤ reachBytes) :
    ∃ ls : List (List Int), RwsAt W v ls ∧ ls.length ≤ 140737488355328 ∧ (∀ i, i < ls.length → (ls.getD i []).length ≤ 140737488355328) ∧ ∀ r ∈ ls, Byts r := by
  rcases open_slice1 Try.underlying26 Try.cellsOf25 hf with ⟨hcs, _⟩ | ⟨a, len, cap, m, n, V, D, Pl, hcs, _, hl, hm, hz, hx, hcell⟩
  · simp at hcs
    subst hcs
    exact ⟨[], RwsAt.nil W, by simp, fun i hi => by simp at hi, fun r hr => by simp at hr⟩
  · simp at hcs
    subst hcs
    have hlz : len ≤ m := by rw [hz]; split <;> omega
    have hb : len ≤ 140737488355328 := by
      have h1 := hw ((((List.range len).map D).length + ((List.range (m - len)).map fun j => D (len + j)).length) * 24) (by
        rw [hx]
        simp only [DataW.weights, Try.underlying26]
        simp [Try.bytesOf25])
      rw [reach_is] at h1
      simp only [List.length_map, List.length_range] at h1
      omega
    have hwD : ∀ i, i < len → ∀ n ∈ (D i).weights Try.prog 25, n ≤ reachBytes := fun i hi n hn => hw n (by
      rw [hx]
      simp only [DataW.weights, Try.underlying26]
      refine List.mem_cons_of_mem _ (List.mem_append_left _ (mem_weightsAll (d := D i) ?_ n hn))
      exact List.mem_map.2 ⟨i, List.mem_range.2 hi, rfl⟩)
    obtain ⟨rows, hrows⟩ := Go.Deep.choose_lt (n := len) (p := fun i l => RowAt W (V i) l ∧ Byts l ∧ l.length ≤ 140737488351232) fun i hi => row_of_trod (hcell i (by omega)).2 (hwD i hi)
    have hg : ∀ i, i < len → ((List.range len).map rows).getD i [] = rows i := fun i hi => by rw [List.getD_eq_getElem?_getD]; simp [hi]
    refine ⟨(List.range len).map rows, ⟨V, ?_, fun i hi => ?_⟩, by simpa using hb, fun i hi => ?_, fun r hr => ?_⟩
    · by_cases h0 : len = 0
      · subst h0
        exact .inl ⟨_, _, rfl, rfl⟩
      · have hs : a.spot = none := by
          have := (hcell 0 (by omega)).1
          rw [show a.add 0 = a from rfl] at this
          exact World.cell?_spot this
        obtain ⟨b, off, sp⟩ := a
        obtain rfl : sp = none := hs
        refine .inr ⟨b, off, cap, by simp, by simpa using hl, fun i hi => ?_⟩
        have := (hcell i (by simp at hi; omega)).1
        rw [add_none'] at this
        exact this
    · have hi' : i < len := by simpa using hi
      rw [hg i hi']; exact (hrows i hi').1
    · have hi' : i < len := by simpa using hi
      rw [hg i hi']; have := (hrows i hi').2.2; omega
    · obtain ⟨i, hi, rfl⟩ := List.mem_map.1 hr
      exact (hrows i (List.mem_range.1 hi)).2.1
end Go.Proofs.Ytlogkojhcccogaa
