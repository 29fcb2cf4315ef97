import Derived.Test.YtlogkojhcccogaaD07
import Derived.Test.YtlogkojhcccogaaD05
import Derived.Test.YtlogkojhcccogaaD06
import Derived.Deep.RegionHeld3
namespace Go.Proofs.Ytlogkojhcccogaa
open Go.RowKit
set_option linter.unusedSimpArgs false
set_option linter.unusedVariables false

theorem Try.in43 (w : World) (vs : Array Value) : (callFunc 43 vs).run Try.prog w = .ok (.enter 43 vs) w := by kernel_rfl
def RowsZ (b0 : Nat) (w : World) (v : Value) (vs : List Value) (ls : List (List Int)) : Prop :=
  vs.length = ls.length ∧ ∀ i, i < ls.length → RowAt w (vs.getD i noS) (ls.getD i []) ∧ ∀ k, (vs.getD i noS).ownBlock = some k → b0 ≤ k ∧ k < w.heap.size ∧ v.ownBlock ≠ some k
theorem RowsZ.step {b0 : Nat} {w w' : World} {v v' : Value} {vs : List Value} {ls : List (List Int)} {S : Nat → Prop} (h : RowsZ b0 w v vs ls) (hg : Grown w w' S) (hS : ∀ k, b0 ≤ k → k < w.heap.size → v.ownBlock ≠ some k → ¬ S k) (hv : v'.ownBlock = v.ownBlock ∨ ∃ j, v'.ownBlock = some j ∧ w.heap.size ≤ j) : RowsZ b0 w' v' vs ls := by
  refine ⟨h.1, fun i hi => ⟨(h.2 i hi).1.grown hg fun k hk _ => ?_, fun k hk => ?_⟩⟩
  · have h1 := (h.2 i hi).2 k hk
    exact hS k h1.1 h1.2.1 h1.2.2
  · have h1 := (h.2 i hi).2 k hk
    refine ⟨h1.1, Nat.lt_of_lt_of_le h1.2.1 hg.size, ?_⟩
    rcases hv with e | ⟨j, e, hj⟩
    · rw [e]; exact h1.2.2
    · rw [e]; intro e2; injection e2 with e2; omega
theorem RowsZ.push {b0 : Nat} {w : World} {v vx : Value} {vs : List Value} {ls : List (List Int)} {x : List Int} (h : RowsZ b0 w v vs ls) (hx : RowAt w vx x) (hk : ∀ k, vx.ownBlock = some k → b0 ≤ k ∧ k < w.heap.size ∧ v.ownBlock ≠ some k) : RowsZ b0 w v (vs ++ [vx]) (ls ++ [x]) := by
  refine ⟨by simp [h.1], fun i hi => ?_⟩
  rw [List.length_append, List.length_singleton] at hi
  by_cases h1 : i < ls.length
  · have e1 : (vs ++ [vx]).getD i noS = vs.getD i noS := by rw [List.getD_eq_getElem?_getD, List.getD_eq_getElem?_getD, List.getElem?_append_left (by rw [h.1]; omega)]
    have e2 : (ls ++ [x]).getD i [] = ls.getD i [] := by rw [List.getD_eq_getElem?_getD, List.getD_eq_getElem?_getD, List.getElem?_append_left h1]
    rw [e1, e2]
    exact h.2 i h1
  · obtain rfl : i = ls.length := by omega
    have e1 : (vs ++ [vx]).getD ls.length noS = vx := by rw [← h.1, List.getD_eq_getElem?_getD]; simp
    have e2 : (ls ++ [x]).getD ls.length [] = x := by rw [List.getD_eq_getElem?_getD]; simp
    rw [e1, e2]
    exact ⟨hx, hk⟩
theorem RowsZ.rws {b0 : Nat} {w : World} {v : Value} {vs : List Value} {ls : List (List Int)} (h : RowsZ b0 w v vs ls) (h1 : OwnR w v vs) : RwsAt w v ls := by
  obtain ⟨h2, h3⟩ := h
  refine ⟨fun i => vs.getD i noS, ?_, fun i hi => (h3 i hi).1⟩
  rcases h1.form with ⟨rfl, h4⟩ | ⟨g, cap, cur, rfl, h4, h5, h6⟩
  · exact .inl ⟨_, _, rfl, List.eq_nil_of_length_eq_zero (by rw [← h2, h4]; rfl)⟩
  · refine .inr ⟨g, 0, cap, by rw [h2], by omega, fun i hi => ?_⟩
    rw [h4.cell, Nat.zero_add]
    have : vs[i]? = some (vs.getD i noS) := by rw [List.getD_eq_getElem?_getD, List.getElem?_eq_getElem (by omega)]; rfl
    rw [← this, ← h6, List.getElem?_take, if_pos (by omega), Array.getElem?_toList]
def BlocksX (w0 : World) (x : Nat) (vB : Value) (L : List Int) (R : Int × Nat × List (List Int)) (w : World) (e : Ending) (w' : World) : Prop :=
  ∃ v, e = .returned v ∧ RX w0 x vB L R.1 R.2.1 w' ∧ (Grown w w' fun k => k = x) ∧ ∃ vs, OwnR w' v vs ∧ (∀ k, v.ownBlock = some k → w.heap.size ≤ k) ∧ (R.1 = 0 → RowsZ w.heap.size w' v vs R.2.2)
set_option maxRecDepth 8000 in
set_option maxHeartbeats 4000000 in
theorem xblocks_any (w0 : World) (x : Nat) (vB : Value) (L : List Int) (a : Nat) (w : World) (h : RX w0 x vB L 0 a w) :
    Calls Try.prog 43 #[ptr x] w (BlocksX w0 x vB L (bkR L a) w) := by
  have HX := Keep.mk h
  have JG0 := Keep.mk h.bel.size
  have Hxlt := Keep.mk h.blk.lt
  have k1 := h.c1
  have hrg := fst_rng (L.drop a) (h.byts.drop a) 256 (by omega)
  have hsh := fstM_shape (L.drop a) 256
  obtain ⟨R, hR⟩ : ∃ R, R = bkR L a := ⟨_, rfl⟩
  rw [← hR]
  unfold bkR at hR
  obtain ⟨M, hM⟩ : ∃ M, M = fstM (L.drop a) 256 := ⟨_, rfl⟩
  rw [← hM] at hR hrg hsh
  obtain ⟨c, n0, W⟩ := M
  simp only at hR hrg hsh
  obtain ⟨N, rfl⟩ : ∃ N : Nat, n0 = (N : Int) := ⟨n0.toNat, by omega⟩
  obtain ⟨n, rfl⟩ : ∃ n : Nat, c = (n : Int) := ⟨c.toNat, by omega⟩
  rw [Int.toNat_natCast, Int.toNat_natCast] at hR
  have HM0 : Keep (fstM (L.drop a) (256 : Nat) = ((n : Int), (N : Int), W)) := ⟨hM.symm⟩
  have hn4 : n ≤ 256 := by omega
  have HR0 : Keep ((¬ W = 0 → (W ≠ 0 ∧ R.1 = W ∧ R.2.1 = a + N)) ∧ (W = 0 → n = 0 → ((1 : Int) ≠ 0 ∧ R.1 = 1 ∧ R.2.1 = a)) ∧ (W = 0 → ¬ n = 0 → R = bkG L (n - 0) [] (a + N))) := ⟨by
    refine ⟨fun hW => ⟨hW, by rw [hR, if_pos hW], by rw [hR, if_pos hW]⟩, fun hW hn => ?_, fun hW hn => ?_⟩
    · rw [hR, if_neg (by simp [hW]), if_pos (by omega)]
      exact ⟨by decide, rfl, rfl⟩
    · rw [hR, if_neg (by simp [hW]), if_neg (by omega)]
      rfl⟩
  clear h hR hM hrg hsh
  go_enter Try.func43, Try.ntmps43
  refine wp_seq_k fun K1 hK1 => ?_
  refine wp_region_list (WL.out ?_)
  refine WL.val (by kernel_rfl) (.slice none 0 0) (by go_simp) ?_
  simp only [Act.put, List.setIfInBounds_toArray, List.set_cons_zero, List.set_cons_succ]
  refine WL.nil ?_
  refine hK1 _ _ ?_
  refine wp_seq_k fun K2 hK2 => ?_
  refine wp_region_list (WL.out ?_)
  refine WL.val (by kernel_rfl) (.pointer (some ⟨x, 0, none⟩)) (by go_simp) ?_
  simp only [Act.put, List.setIfInBounds_toArray, List.set_cons_zero, List.set_cons_succ]
  refine WL.val (by kernel_rfl) (.pointer (some ⟨x, 0, none⟩)) (by go_simp) ?_
  simp only [Act.put, List.setIfInBounds_toArray, List.set_cons_zero, List.set_cons_succ]
  refine WL.val (by kernel_rfl) (.pointer (some ⟨x, 1, none⟩)) (by go_simp) ?_
  simp only [Act.put, List.setIfInBounds_toArray, List.set_cons_zero, List.set_cons_succ]
  refine WL.val (by kernel_rfl) (.int .i64 (a : Int)) (by go_simp) ?_
  simp only [Act.put, List.setIfInBounds_toArray, List.set_cons_zero, List.set_cons_succ]
  refine WL.val (by kernel_rfl) (.int .i64 (a : Int)) (by go_simp) ?_
  simp only [Act.put, List.setIfInBounds_toArray, List.set_cons_zero, List.set_cons_succ]
  refine WL.nil ?_
  refine hK2 _ _ ?_
  refine wp_seq_k fun K3 hK3 => ?_
  refine wp_region_list (WL.out ?_)
  refine WL.val (by kernel_rfl) (.pointer (some ⟨x, 0, none⟩)) (by go_simp) ?_
  simp only [Act.put, List.setIfInBounds_toArray, List.set_cons_zero, List.set_cons_succ]
  refine WL.callF (by kernel_rfl) 70 _ _ rfl Try.in70 #[ptr x, .int .u64 256] (by simp [Act.eval]) ?_
  refine (xnum_x 256 HX.out W (n : Int) N HM0.out).mono ?_
  rintro e w1 ⟨rfl, h1, h2⟩
  refine ⟨_, rfl, ?_⟩
  have HX1 := Keep.mk h1
  have HG1 := Keep.mk h2
  clear h1 h2
  simp only [Act.put, List.setIfInBounds_toArray, List.set_cons_zero, List.set_cons_succ]
  refine WL.val (by kernel_rfl) (.tuple #[.int .u64 (n : Int), .agg (erA W (bOf W (a + N)))]) (by go_simp) ?_
  simp only [Act.put, List.setIfInBounds_toArray, List.set_cons_zero, List.set_cons_succ]
  refine WL.val (by kernel_rfl) (.int .u64 (n : Int)) (by go_simp) ?_
  simp only [Act.put, List.setIfInBounds_toArray, List.set_cons_zero, List.set_cons_succ]
  refine WL.val (by kernel_rfl) (.agg (erA W (bOf W (a + N)))) (by go_simp) ?_
  simp only [Act.put, List.setIfInBounds_toArray, List.set_cons_zero, List.set_cons_succ]
  refine WL.new (by kernel_rfl) 41 rfl _ Try.new41E ?_
  have HNg5 := Keep.mk (Blk.new w1 41 (erA 0 0))
  have BNg5 := Keep.mk (below_new w1 (.cells (erA 0 0) 41))
  generalize w1.alloc (.cells (erA 0 0) 41) = w2a at *
  simp only [Act.put, List.setIfInBounds_toArray, List.set_cons_zero, List.set_cons_succ]
  refine WL.val (by kernel_rfl) (.int .u64 (n : Int)) (by go_simp) ?_
  simp only [Act.put, List.setIfInBounds_toArray, List.set_cons_zero, List.set_cons_succ]
  refine WL.storeR (by kernel_rfl) 41 (.tmp 5) (.tmp 18) rfl w1.heap.size (erA W (bOf W (a + N))) rfl rfl 41 (erA 0 0) HNg5.out (Try.size41B _ _) (erA_sizes _ _ _ _) (erA_one _ _) ?_
  have HMg5 := Keep.mk (HNg5.out.setRow (erA W (bOf W (a + N))))
  have Bmg5 : Keep (Below w1.heap.size w1 (w2a.setRow w1.heap.size (erA W (bOf W (a + N))))) := ⟨below_setRow BNg5.out (Nat.le_refl _) _⟩
  generalize w2a.setRow w1.heap.size (erA W (bOf W (a + N))) = w2 at *
  generalize w1.heap.size = g5 at HMg5 ⊢
  clear HNg5 BNg5
  have HX2 := Keep.mk (HX1.out.below Bmg5.out)
  have HG2 : Keep (Grown w w2 fun k => k = x) := ⟨HG1.out.trans (Grown.below Bmg5.out)⟩
  have e0 : w2.cell? ⟨g5, 0, none⟩ = some (.int .i64 W) := HMg5.out.c 0 rfl
  clear HX1 HG1 Bmg5 k1
  simp only [Act.put]
  refine WL.nil ?_
  refine hK3 _ _ ?_
  refine wp_seq_k fun K4 hK4 => ?_
  refine wp_seq_k fun K5 hK5 => ?_
  refine wp_region_list (WL.out ?_)
  refine WL.val (by kernel_rfl) (.pointer (some ⟨g5, 0, none⟩)) (by go_simp) ?_
  simp only [Act.put, List.setIfInBounds_toArray, List.set_cons_zero, List.set_cons_succ]
  refine WL.val (by kernel_rfl) (.int .i64 W) (by go_simp) ?_
  simp only [Act.put, List.setIfInBounds_toArray, List.set_cons_zero, List.set_cons_succ]
  by_cases h3_2 : W = 0
  · skip
    refine WL.val (by kernel_rfl) (.bool true) (by go_simp) ?_
    simp only [Act.put, List.setIfInBounds_toArray, List.set_cons_zero, List.set_cons_succ]
    refine WL.val (by kernel_rfl) (.bool true) (by go_simp) ?_
    simp only [Act.put, List.setIfInBounds_toArray, List.set_cons_zero, List.set_cons_succ]
    refine WL.val (by kernel_rfl) (.int .u64 (n : Int)) (by go_simp) ?_
    simp only [Act.put, List.setIfInBounds_toArray, List.set_cons_zero, List.set_cons_succ]
    by_cases h3_5 : n = 0
    · have h3_5' : (n : Int) = 0 := by omega
      refine WL.val (by kernel_rfl) (.bool true) (by go_simp) ?_
      simp only [Act.put, List.setIfInBounds_toArray, List.set_cons_zero, List.set_cons_succ]
      refine WL.val (by kernel_rfl) (.bool true) (by go_simp) ?_
      simp only [Act.put, List.setIfInBounds_toArray, List.set_cons_zero, List.set_cons_succ]
      refine WL.nil ?_
      refine hK5 _ _ ?_
      refine wp_cond_true rfl ?_
      refine wp_region_list (WL.out ?_)
      refine WL.val (by kernel_rfl) (.pointer (some ⟨x, 0, none⟩)) (by go_simp) ?_
      simp only [Act.put, List.setIfInBounds_toArray, List.set_cons_zero, List.set_cons_succ]
      refine WL.val (by kernel_rfl) (.int .i64 (a : Int)) (by go_simp) ?_
      simp only [Act.put, List.setIfInBounds_toArray, List.set_cons_zero, List.set_cons_succ]
      refine WL.callF (by kernel_rfl) 38 _ _ rfl Try.in38 #[ptr x, .int .i64 1, .int .i64 (a : Int)] (by simp [Act.eval]) ?_
      refine (xwrong_x a 1 (by decide) HX.out.le (by have h := HX2.out; rw [h3_2] at h; exact h)).mono ?_
      rintro e w2b ⟨rfl, h1, h2⟩
      refine ⟨_, rfl, ?_⟩
      have HX2b := Keep.mk h1
      have HG2b : Keep (Grown w w2b fun k => k = x) := ⟨HG2.out.trans h2⟩
      clear h1 h2 e0
      simp only [Act.put, List.setIfInBounds_toArray, List.set_cons_zero, List.set_cons_succ]
      refine WL.nil ?_
      refine hK4 _ _ ?_
      refine wp_seq_k fun K6 hK6 => ?_
      have HRi := Keep.mk (HR0.out.2.1 h3_2 (by assumption))
      clear h3_5 h3_5'
      refine wp_region_list (WL.out ?_)
      refine WL.bs (by kernel_rfl) 26 0 _ rfl #[] (by simp) _ _ (bsRE w2b) ?_
      have HO3 := Keep.mk (ownR_empty w2b)
      have HN3 : Keep (∀ k, (Value.slice (some ⟨w2b.heap.size, 0, none⟩) 0 0).ownBlock = some k → w.heap.size ≤ k) := ⟨fun k hk => by simp [Value.ownBlock] at hk; have := HG2b.out.size; omega⟩
      have HX3 := Keep.mk (HX2b.out.below (below_new w2b (.cells #[] 25)))
      have HG3 : Keep (Grown w (w2b.alloc (.cells #[] 25)) fun k => k = x) := ⟨HG2b.out.trans (Grown.below (below_new w2b _))⟩
      generalize w2b.alloc (.cells #[] 25) = w3 at *
      generalize Value.slice (some ⟨w2b.heap.size, 0, none⟩) 0 0 = v3 at *
      have hzr : RowsZ w.heap.size w3 v3 [] [] := ⟨rfl, fun i hi => by simp at hi⟩
      simp only [Act.put, List.setIfInBounds_toArray, List.set_cons_zero, List.set_cons_succ]
      refine WL.val (by kernel_rfl) (v3) (by go_simp) ?_
      simp only [Act.put, List.setIfInBounds_toArray, List.set_cons_zero, List.set_cons_succ]
      refine WL.nil ?_
      refine hK6 _ _ ?_
      refine wp_seq_k fun K7 hK7 => ?_
      refine wp_seq_k fun K8 hK8 => ?_
      refine wp_region_list (WL.out ?_)
      refine WL.val (by kernel_rfl) (.int .i64 0) (by go_simp) ?_
      simp only [Act.put, List.setIfInBounds_toArray, List.set_cons_zero, List.set_cons_succ]
      refine WL.nil ?_
      refine hK8 _ _ ?_
      refine wp_block ?_
      refine wp_loop (fun ac wr => ∃ (t : Nat) (u3 u6 u8 u9 u30 u31 u32 u33 u34 u35 u36 u37 u38 u39 u40 u41 u42 u43 u44 u45 u46 u47 u48 u49 u50 u51 u52 u53 u54 u55 u56 u57 u58 u59 u60 u61 u62 u63 u64 u65 u66 u67 : Value), ac = { tmps := #[.pointer (some ⟨x, 0, none⟩), undef, .slice none 0 0, u3, .int .u64 (n : Int), .pointer (some ⟨g5, 0, none⟩), u6, .int .i64 (t : Int), u8, u9, .pointer (some ⟨x, 0, none⟩), .pointer (some ⟨x, 0, none⟩), .pointer (some ⟨x, 1, none⟩), .int .i64 (a : Int), .tuple #[.int .u64 (n : Int), .agg (erA W (bOf W (a + N)))], .pointer (some ⟨x, 0, none⟩), .tuple #[.int .u64 (n : Int), .agg (erA W (bOf W (a + N)))], .int .u64 (n : Int), .agg (erA W (bOf W (a + N))), .pointer (some ⟨g5, 0, none⟩), .int .i64 W, .bool true, .bool true, .int .u64 (n : Int), .bool true, .bool true, .pointer (some ⟨x, 0, none⟩), .int .i64 (a : Int), .agg (erA 1 (a : Int)), v3, u30, u31, u32, u33, u34, u35, u36, u37, u38, u39, u40, u41, u42, u43, u44, u45, u46, u47, u48, u49, u50, u51, u52, u53, u54, u55, u56, u57, u58, u59, u60, u61, u62, u63, u64, u65, u66, u67, undef], defers := [] } ∧ t ≤ n ∧ ∃ why at_ vs ls, RX w0 x vB L why at_ wr ∧ (Grown w wr fun k => k = x) ∧ OwnR wr u6 vs ∧ (∀ k, u6.ownBlock = some k → w.heap.size ≤ k) ∧ vs.length = t ∧ ((why = 0 ∧ R = bkG L (n - t) ls at_ ∧ RowsZ w.heap.size wr u6 vs ls) ∨ (why ≠ 0 ∧ R.1 = why ∧ R.2.1 = at_))) (fun a _ => n - (intOf (a.tmps.getD 7 undef)).toNat) ⟨0, .int .i64 (a : Int), v3, undef, undef, undef, undef, undef, undef, undef, undef, undef, undef, undef, undef, undef, undef, undef, undef, undef, undef, undef, undef, undef, undef, undef, undef, undef, undef, undef, undef, undef, undef, undef, undef, undef, undef, undef, undef, undef, undef, undef, undef, rfl, by omega, 1, a, [], [], HX3.out, HG3.out, HO3.out, HN3.out, rfl, .inr HRi.out⟩ ?_
      rintro ac wr ⟨t, u3, u6, u8, u9, u30, u31, u32, u33, u34, u35, u36, u37, u38, u39, u40, u41, u42, u43, u44, u45, u46, u47, u48, u49, u50, u51, u52, u53, u54, u55, u56, u57, u58, u59, u60, u61, u62, u63, u64, u65, u66, u67, rfl, ht, why, at_, vs, ls, hX, hG, hO, hN, hLn, hC⟩
      obtain ⟨oa, oc, rfl⟩ := hO.sl
      have JX := Keep.mk hX
      have JG := Keep.mk hG
      have JO := Keep.mk hO
      have JN := Keep.mk hN
      have JL := Keep.mk hLn
      have JC := Keep.mk hC
      clear hX hG hO hN hLn hC
      have hcv : IntKind.i64.wrap (n : Int) = (n : Int) := by rw [IntKind.wrap_i64]; omega
      by_cases hlt : t < n
      · have hlt' : (t : Int) < (n : Int) := by omega
        have hwt : IntKind.i64.wrap ((t : Int) + 1) = (t : Int) + 1 := by rw [IntKind.wrap_i64]; omega
        have k2 := JX.out.c2
        by_cases hy : why = 0
        · subst hy
          have k1 := JX.out.c1
          have JR : Keep (R = bkG L (n - t) ls at_ ∧ RowsZ w.heap.size wr (.slice oa vs.length oc) vs ls) := ⟨by rcases JC.out with ⟨_, h⟩ | ⟨h, _⟩; exact h; exact absurd rfl h⟩
          clear JC
          have JZ := Keep.mk JR.out.2
          replace JR := Keep.mk JR.out.1
          obtain ⟨k1', hk1⟩ : ∃ k1, n - t = k1 + 1 := ⟨n - t - 1, by omega⟩
          rw [hk1, bkG] at JR
          have hk2 : k1' = n - (t + 1) := by omega
          rw [hk2] at JR
          clear hk1 hk2 k1'
          have HC0 := Keep.mk (xbytes_x 1048576 (by decide) JX.out)
          unfold stByt at HC0
          rw [if_pos rfl] at HC0
          unfold bk1 at JR
          obtain ⟨B, hB⟩ : ∃ B, B = byt (L.drop at_) 1048576 := ⟨_, rfl⟩
          rw [show ((1048576 : Nat) : Int) = 1048576 from rfl, ← hB] at HC0
          rw [← hB] at JR
          clear hB
          obtain ⟨W1, N1, X⟩ := B
          simp only at HC0 JR
          refine wp_seq_k fun K9 hK9 => ?_
          refine wp_seq_k fun K10 hK10 => ?_
          refine wp_region_list (WL.out ?_)
          refine WL.val (by kernel_rfl) (.int .i64 (t : Int)) (by go_simp) ?_
          simp only [Act.put, List.setIfInBounds_toArray, List.set_cons_zero, List.set_cons_succ]
          refine WL.val (by kernel_rfl) (.int .u64 (n : Int)) (by go_simp) ?_
          simp only [Act.put, List.setIfInBounds_toArray, List.set_cons_zero, List.set_cons_succ]
          refine WL.val (by kernel_rfl) (.int .i64 (n : Int)) (by go_simp) ?_
          simp only [Act.put, List.setIfInBounds_toArray, List.set_cons_zero, List.set_cons_succ]
          refine WL.val (by kernel_rfl) (.bool true) (by go_simp) ?_
          simp only [Act.put, List.setIfInBounds_toArray, List.set_cons_zero, List.set_cons_succ]
          refine WL.val (by kernel_rfl) (.bool true) (by go_simp) ?_
          simp only [Act.put, List.setIfInBounds_toArray, List.set_cons_zero, List.set_cons_succ]
          refine WL.val (by kernel_rfl) (.pointer (some ⟨x, 0, none⟩)) (by go_simp) ?_
          simp only [Act.put, List.setIfInBounds_toArray, List.set_cons_zero, List.set_cons_succ]
          refine WL.val (by kernel_rfl) (.pointer (some ⟨x, 0, none⟩)) (by go_simp) ?_
          simp only [Act.put, List.setIfInBounds_toArray, List.set_cons_zero, List.set_cons_succ]
          refine WL.val (by kernel_rfl) (.pointer (some ⟨x, 2, none⟩)) (by go_simp) ?_
          simp only [Act.put, List.setIfInBounds_toArray, List.set_cons_zero, List.set_cons_succ]
          refine WL.val (by kernel_rfl) (.pointer (some ⟨x, 2, none⟩)) (by go_simp) ?_
          simp only [Act.put, List.setIfInBounds_toArray, List.set_cons_zero, List.set_cons_succ]
          refine WL.val (by kernel_rfl) (.int .i64 0) (by go_simp) ?_
          simp only [Act.put, List.setIfInBounds_toArray, List.set_cons_zero, List.set_cons_succ]
          refine WL.val (by kernel_rfl) (.bool true) (by go_simp) ?_
          simp only [Act.put, List.setIfInBounds_toArray, List.set_cons_zero, List.set_cons_succ]
          refine WL.val (by kernel_rfl) (.bool true) (by go_simp) ?_
          simp only [Act.put, List.setIfInBounds_toArray, List.set_cons_zero, List.set_cons_succ]
          refine WL.nil ?_
          refine hK10 _ _ ?_
          refine wp_cond_true rfl ?_
          refine wp_skip ?_
          refine hK9 _ _ ?_
          refine wp_seq_k fun K11 hK11 => ?_
          refine wp_block ?_
          refine wp_seq_k fun K12 hK12 => ?_
          refine wp_region_list (WL.out ?_)
          refine WL.val (by kernel_rfl) (.pointer (some ⟨x, 0, none⟩)) (by go_simp) ?_
          simp only [Act.put, List.setIfInBounds_toArray, List.set_cons_zero, List.set_cons_succ]
          refine WL.val (by kernel_rfl) (.pointer (some ⟨x, 0, none⟩)) (by go_simp) ?_
          simp only [Act.put, List.setIfInBounds_toArray, List.set_cons_zero, List.set_cons_succ]
          refine WL.val (by kernel_rfl) (.pointer (some ⟨x, 1, none⟩)) (by go_simp) ?_
          simp only [Act.put, List.setIfInBounds_toArray, List.set_cons_zero, List.set_cons_succ]
          refine WL.val (by kernel_rfl) (.int .i64 (at_ : Int)) (by go_simp) ?_
          simp only [Act.put, List.setIfInBounds_toArray, List.set_cons_zero, List.set_cons_succ]
          refine WL.val (by kernel_rfl) (.int .i64 (at_ : Int)) (by go_simp) ?_
          simp only [Act.put, List.setIfInBounds_toArray, List.set_cons_zero, List.set_cons_succ]
          refine WL.nil ?_
          refine hK12 _ _ ?_
          refine wp_seq_k fun K13 hK13 => ?_
          refine wp_region_list (WL.out ?_)
          refine WL.val (by kernel_rfl) (.pointer (some ⟨x, 0, none⟩)) (by go_simp) ?_
          simp only [Act.put, List.setIfInBounds_toArray, List.set_cons_zero, List.set_cons_succ]
          refine WL.callF (by kernel_rfl) 41 _ _ rfl Try.in41 #[ptr x, .int .i64 1048576] (by simp [Act.eval]) ?_
          refine (HC0.out).mono ?_
          rintro e w1 ⟨xa, xc, rfl, h1, h2, h3, h4⟩
          refine ⟨_, rfl, ?_⟩
          have HX4 := Keep.mk h1
          have HG4 : Keep (Grown w w1 fun k => k = x) := ⟨JG.out.trans h2⟩
          have HO4 := Keep.mk (JO.out.grown h2 (fun k hk e => JO.out.ne JX.out.blk (by decide) (e ▸ hk)))
          have HR4 := Keep.mk h3
          have HF4 := Keep.mk h4
          have HZ4 := Keep.mk (JZ.out.step h2 (fun k hk _ _ e => by have := Hxlt.out; omega) (.inl rfl))
          have hlt4 := JO.out.lt
          have HL4 := Keep.mk hlt4
          clear h1 h2 h3 h4 hlt4 k1 k2 HC0
          simp only [Act.put, List.setIfInBounds_toArray, List.set_cons_zero, List.set_cons_succ]
          refine WL.val (by kernel_rfl) (.tuple #[.slice xa X.length xc, .agg (erA W1 (bOf W1 (at_ + N1)))]) (by go_simp) ?_
          simp only [Act.put, List.setIfInBounds_toArray, List.set_cons_zero, List.set_cons_succ]
          refine WL.val (by kernel_rfl) (.slice xa X.length xc) (by go_simp) ?_
          simp only [Act.put, List.setIfInBounds_toArray, List.set_cons_zero, List.set_cons_succ]
          refine WL.val (by kernel_rfl) (.agg (erA W1 (bOf W1 (at_ + N1)))) (by go_simp) ?_
          simp only [Act.put, List.setIfInBounds_toArray, List.set_cons_zero, List.set_cons_succ]
          refine WL.new (by kernel_rfl) 41 rfl _ Try.new41E ?_
          have HNg9 := Keep.mk (Blk.new w1 41 (erA 0 0))
          have BNg9 := Keep.mk (below_new w1 (.cells (erA 0 0) 41))
          generalize w1.alloc (.cells (erA 0 0) 41) = w8a at *
          simp only [Act.put, List.setIfInBounds_toArray, List.set_cons_zero, List.set_cons_succ]
          refine WL.val (by kernel_rfl) (.slice xa X.length xc) (by go_simp) ?_
          simp only [Act.put, List.setIfInBounds_toArray, List.set_cons_zero, List.set_cons_succ]
          refine WL.storeR (by kernel_rfl) 41 (.tmp 9) (.tmp 52) rfl w1.heap.size (erA W1 (bOf W1 (at_ + N1))) rfl rfl 41 (erA 0 0) HNg9.out (Try.size41B _ _) (erA_sizes _ _ _ _) (erA_one _ _) ?_
          have HMg9 := Keep.mk (HNg9.out.setRow (erA W1 (bOf W1 (at_ + N1))))
          have Bmg9 : Keep (Below w1.heap.size w1 (w8a.setRow w1.heap.size (erA W1 (bOf W1 (at_ + N1))))) := ⟨below_setRow BNg9.out (Nat.le_refl _) _⟩
          generalize w8a.setRow w1.heap.size (erA W1 (bOf W1 (at_ + N1))) = w8 at *
          generalize w1.heap.size = g9 at HMg9 ⊢
          clear HNg9 BNg9
          have HX8 := Keep.mk (HX4.out.below Bmg9.out)
          have HG8 : Keep (Grown w w8 fun k => k = x) := ⟨HG4.out.trans (Grown.below Bmg9.out)⟩
          have HO8 := Keep.mk (HO4.out.below Bmg9.out)
          have HR8 := Keep.mk (HR4.out.below Bmg9.out)
          have HZ8 := Keep.mk (HZ4.out.step (S := fun _ => False) (Grown.below Bmg9.out) (fun _ _ _ _ h => h) (.inl rfl))
          have ee0 : w8.cell? ⟨g9, 0, none⟩ = some (.int .i64 W1) := HMg9.out.c 0 rfl
          simp only [Act.put]
          refine WL.nil ?_
          refine hK13 _ _ ?_
          refine wp_seq_k fun K14 hK14 => ?_
          refine wp_seq_k fun K15 hK15 => ?_
          refine wp_region_list (WL.out ?_)
          refine WL.val (by kernel_rfl) (.pointer (some ⟨g9, 0, none⟩)) (by go_simp) ?_
          simp only [Act.put, List.setIfInBounds_toArray, List.set_cons_zero, List.set_cons_succ]
          refine WL.val (by kernel_rfl) (.int .i64 W1) (by go_simp) ?_
          simp only [Act.put, List.setIfInBounds_toArray, List.set_cons_zero, List.set_cons_succ]
          by_cases h11_2 : W1 = 0
          · skip
            refine WL.val (by kernel_rfl) (.bool true) (by go_simp) ?_
            simp only [Act.put, List.setIfInBounds_toArray, List.set_cons_zero, List.set_cons_succ]
            refine WL.val (by kernel_rfl) (.bool true) (by go_simp) ?_
            simp only [Act.put, List.setIfInBounds_toArray, List.set_cons_zero, List.set_cons_succ]
            refine WL.val (by kernel_rfl) (.slice xa X.length xc) (by go_simp) ?_
            simp only [Act.put, List.setIfInBounds_toArray, List.set_cons_zero, List.set_cons_succ]
            refine WL.val (by kernel_rfl) (.int .i64 (X.length : Int)) (by go_simp) ?_
            simp only [Act.put, List.setIfInBounds_toArray, List.set_cons_zero, List.set_cons_succ]
            by_cases h11_6 : X.length = 0
            · have h11_6' : (X.length : Int) = 0 := by omega
              refine WL.val (by kernel_rfl) (.bool true) (by go_simp) ?_
              simp only [Act.put, List.setIfInBounds_toArray, List.set_cons_zero, List.set_cons_succ]
              refine WL.val (by kernel_rfl) (.bool true) (by go_simp) ?_
              simp only [Act.put, List.setIfInBounds_toArray, List.set_cons_zero, List.set_cons_succ]
              refine WL.nil ?_
              refine hK15 _ _ ?_
              refine wp_cond_true rfl ?_
              refine wp_region_list (WL.out ?_)
              refine WL.val (by kernel_rfl) (.pointer (some ⟨x, 0, none⟩)) (by go_simp) ?_
              simp only [Act.put, List.setIfInBounds_toArray, List.set_cons_zero, List.set_cons_succ]
              refine WL.val (by kernel_rfl) (.int .i64 (at_ : Int)) (by go_simp) ?_
              simp only [Act.put, List.setIfInBounds_toArray, List.set_cons_zero, List.set_cons_succ]
              refine WL.callF (by kernel_rfl) 38 _ _ rfl Try.in38 #[ptr x, .int .i64 4, .int .i64 (at_ : Int)] (by simp [Act.eval]) ?_
              refine (xwrong_x at_ 4 (by decide) JX.out.le (by have h := HX8.out; rw [h11_2] at h; exact h)).mono ?_
              rintro e w10 ⟨rfl, h1, h2⟩
              refine ⟨_, rfl, ?_⟩
              have HXz := Keep.mk h1
              have HGz : Keep (Grown w w10 fun k => k = x) := ⟨HG8.out.trans h2⟩
              have HOz := Keep.mk (HO8.out.grown h2 (fun k hk e => HO8.out.ne HX8.out.blk (by decide) (e ▸ hk)))
              clear h1 h2
              simp only [Act.put, List.setIfInBounds_toArray, List.set_cons_zero, List.set_cons_succ]
              refine WL.nil ?_
              refine hK14 _ _ ?_
              refine wp_region_list (WL.out ?_)
              refine WL.val (by kernel_rfl) (.slice oa vs.length oc) (by go_simp) ?_
              simp only [Act.put, List.setIfInBounds_toArray, List.set_cons_zero, List.set_cons_succ]
              refine WL.val (by kernel_rfl) (.slice xa X.length xc) (by go_simp) ?_
              simp only [Act.put, List.setIfInBounds_toArray, List.set_cons_zero, List.set_cons_succ]
              refine WL.bs (by kernel_rfl) 26 1 _ rfl #[(0, .slice xa X.length xc)] (by simp [Act.eval]) _ _ (bsR xa X.length xc w10) ?_
              have HB11 := Keep.mk (Blk.new w10 25 #[.slice xa X.length xc])
              have B11 := Keep.mk (below_new w10 (.cells #[.slice xa X.length xc] 25))
              generalize w10.alloc (.cells #[.slice xa X.length xc] 25) = w11 at *
              simp only [Act.put, List.setIfInBounds_toArray, List.set_cons_zero, List.set_cons_succ]
              refine WL.appR (by kernel_rfl) (.tmp 64) (.tmp 66) rfl (.slice oa vs.length oc) vs w10.heap.size (.slice xa X.length xc) rfl rfl rfl (HOz.out.below B11.out) HB11.out (by have := JL.out; omega) ?_
              intro v4 w12 h1 h2 h3
              have HOy := Keep.mk h1
              have HGy : Keep (Grown w w12 fun k => k = x) := ⟨(HGz.out.trans (Grown.below B11.out)).next h2 (fun k hk e => absurd (JN.out k e) (by omega))⟩
              have HXy := Keep.mk ((HXz.out.below B11.out).keep h2 (fun e => (HOz.out.below B11.out).ne (HXz.out.below B11.out).blk (by decide) e) (fun k hk e => absurd (JN.out k e) (by have := JG0.out; omega)))
              have HNy : Keep (∀ k, v4.ownBlock = some k → w.heap.size ≤ k) := ⟨fun k hk => by
                rcases h3 with e | ⟨j, e, hj⟩
                · rw [e] at hk; exact JN.out k hk
                · rw [e] at hk; injection hk with hk; have := HGz.out.size; have := B11.out.size; omega⟩
              clear h1 h2 h3
              simp only [Act.put, List.setIfInBounds_toArray, List.set_cons_zero, List.set_cons_succ]
              refine WL.val (by kernel_rfl) (v4) (by go_simp) ?_
              simp only [Act.put, List.setIfInBounds_toArray, List.set_cons_zero, List.set_cons_succ]
              refine WL.nil ?_
              refine hK11 _ _ ?_
              refine wp_region_list (WL.out ?_)
              refine WL.val (by kernel_rfl) (.int .i64 (t : Int)) (by go_simp) ?_
              simp only [Act.put, List.setIfInBounds_toArray, List.set_cons_zero, List.set_cons_succ]
              refine WL.val (by kernel_rfl) (.int .i64 ((t : Int) + 1)) (by go_simp) ?_
              simp only [Act.put, List.setIfInBounds_toArray, List.set_cons_zero, List.set_cons_succ]
              refine WL.val (by kernel_rfl) (.int .i64 ((t : Int) + 1)) (by go_simp) ?_
              simp only [Act.put, List.setIfInBounds_toArray, List.set_cons_zero, List.set_cons_succ]
              refine WL.nil ?_
              have hbk : R = (4, at_, []) := by rw [JR.out]; simp [h11_2, h11_6]
              refine ⟨⟨t + 1, .int .i64 (at_ : Int), v4, .slice xa X.length xc, .pointer (some ⟨g9, 0, none⟩), .int .i64 (t : Int), .int .u64 (n : Int), .int .i64 (n : Int), .bool true, .bool true, .pointer (some ⟨x, 0, none⟩), .pointer (some ⟨x, 0, none⟩), .pointer (some ⟨x, 2, none⟩), .pointer (some ⟨x, 2, none⟩), .int .i64 0, .bool true, .bool true, .int .i64 (t : Int), .int .i64 ((t : Int) + 1), .pointer (some ⟨x, 0, none⟩), .pointer (some ⟨x, 0, none⟩), .pointer (some ⟨x, 1, none⟩), .int .i64 (at_ : Int), .tuple #[.slice xa X.length xc, .agg (erA W1 (bOf W1 (at_ + N1)))], .pointer (some ⟨x, 0, none⟩), .tuple #[.slice xa X.length xc, .agg (erA W1 (bOf W1 (at_ + N1)))], .slice xa X.length xc, .agg (erA W1 (bOf W1 (at_ + N1))), .pointer (some ⟨g9, 0, none⟩), .int .i64 W1, .bool true, .bool true, .slice xa X.length xc, .int .i64 (X.length : Int), .bool true, .bool true, .pointer (some ⟨x, 0, none⟩), .int .i64 (at_ : Int), .agg (erA 4 (at_ : Int)), .slice oa vs.length oc, .slice xa X.length xc, .slice (some ⟨w10.heap.size, 0, none⟩) 1 1, v4, rfl, by omega, 4, at_, vs ++ [.slice xa X.length xc], [], HXy.out, HGy.out, HOy.out, HNy.out, by rw [List.length_append]; simp [JL.out], .inr ⟨by decide, by rw [hbk], by rw [hbk]⟩⟩, ?_⟩
              simp only [intOf]; show n - ((t : Int) + 1).toNat < n - ((t : Int)).toNat; omega
            · have h11_6' : ¬ (X.length : Int) = 0 := by omega
              refine WL.val (by kernel_rfl) (.bool false) (by go_simp) ?_
              simp only [Act.put, List.setIfInBounds_toArray, List.set_cons_zero, List.set_cons_succ]
              refine WL.val (by kernel_rfl) (.bool false) (by go_simp) ?_
              simp only [Act.put, List.setIfInBounds_toArray, List.set_cons_zero, List.set_cons_succ]
              refine WL.nil ?_
              refine hK15 _ _ ?_
              refine wp_cond_false rfl ?_
              refine wp_skip ?_
              refine hK14 _ _ ?_
              have HXz := HX8
              have HGz := HG8
              have HOz := HO8
              refine wp_region_list (WL.out ?_)
              refine WL.val (by kernel_rfl) (.slice oa vs.length oc) (by go_simp) ?_
              simp only [Act.put, List.setIfInBounds_toArray, List.set_cons_zero, List.set_cons_succ]
              refine WL.val (by kernel_rfl) (.slice xa X.length xc) (by go_simp) ?_
              simp only [Act.put, List.setIfInBounds_toArray, List.set_cons_zero, List.set_cons_succ]
              refine WL.bs (by kernel_rfl) 26 1 _ rfl #[(0, .slice xa X.length xc)] (by simp [Act.eval]) _ _ (bsR xa X.length xc w8) ?_
              have HB11 := Keep.mk (Blk.new w8 25 #[.slice xa X.length xc])
              have B11 := Keep.mk (below_new w8 (.cells #[.slice xa X.length xc] 25))
              generalize w8.alloc (.cells #[.slice xa X.length xc] 25) = w11 at *
              simp only [Act.put, List.setIfInBounds_toArray, List.set_cons_zero, List.set_cons_succ]
              refine WL.appR (by kernel_rfl) (.tmp 64) (.tmp 66) rfl (.slice oa vs.length oc) vs w8.heap.size (.slice xa X.length xc) rfl rfl rfl (HOz.out.below B11.out) HB11.out (by have := JL.out; omega) ?_
              intro v4 w12 h1 h2 h3
              have HOy := Keep.mk h1
              have HGy : Keep (Grown w w12 fun k => k = x) := ⟨(HGz.out.trans (Grown.below B11.out)).next h2 (fun k hk e => absurd (JN.out k e) (by omega))⟩
              have HXy := Keep.mk ((HXz.out.below B11.out).keep h2 (fun e => (HOz.out.below B11.out).ne (HXz.out.below B11.out).blk (by decide) e) (fun k hk e => absurd (JN.out k e) (by have := JG0.out; omega)))
              have HNy : Keep (∀ k, v4.ownBlock = some k → w.heap.size ≤ k) := ⟨fun k hk => by
                rcases h3 with e | ⟨j, e, hj⟩
                · rw [e] at hk; exact JN.out k hk
                · rw [e] at hk; injection hk with hk; have := HGz.out.size; have := B11.out.size; omega⟩
              have HZy : Keep (RowsZ w.heap.size w12 v4 (vs ++ [.slice xa X.length xc]) (ls ++ [X])) := ⟨by
                have hk0 : ∀ k, (Value.slice xa X.length xc).ownBlock = some k → w.heap.size ≤ k ∧ k < w8.heap.size ∧ (Value.slice oa vs.length oc).ownBlock ≠ some k := fun k hk => by
                  have g1 := HF4.out k hk
                  refine ⟨Nat.le_trans JG.out.size g1, row_lt HR8.out (by omega) hk, fun e => ?_⟩
                  have := HL4.out k e
                  omega
                have z0 := (HZ8.out.push HR8.out hk0).step (S := fun _ => False) (Grown.below B11.out) (fun _ _ _ _ h => h) (.inl rfl)
                exact z0.step h2 (fun k _ _ hne e => hne e) h3⟩
              clear h1 h2 h3
              simp only [Act.put, List.setIfInBounds_toArray, List.set_cons_zero, List.set_cons_succ]
              refine WL.val (by kernel_rfl) (v4) (by go_simp) ?_
              simp only [Act.put, List.setIfInBounds_toArray, List.set_cons_zero, List.set_cons_succ]
              refine WL.nil ?_
              refine hK11 _ _ ?_
              refine wp_region_list (WL.out ?_)
              refine WL.val (by kernel_rfl) (.int .i64 (t : Int)) (by go_simp) ?_
              simp only [Act.put, List.setIfInBounds_toArray, List.set_cons_zero, List.set_cons_succ]
              refine WL.val (by kernel_rfl) (.int .i64 ((t : Int) + 1)) (by go_simp) ?_
              simp only [Act.put, List.setIfInBounds_toArray, List.set_cons_zero, List.set_cons_succ]
              refine WL.val (by kernel_rfl) (.int .i64 ((t : Int) + 1)) (by go_simp) ?_
              simp only [Act.put, List.setIfInBounds_toArray, List.set_cons_zero, List.set_cons_succ]
              refine WL.nil ?_
              have hbk : R = bkG L (n - (t + 1)) (ls ++ [X]) (at_ + N1) := by rw [JR.out]; simp [h11_2, h11_6]
              refine ⟨⟨t + 1, .int .i64 (at_ : Int), v4, .slice xa X.length xc, .pointer (some ⟨g9, 0, none⟩), .int .i64 (t : Int), .int .u64 (n : Int), .int .i64 (n : Int), .bool true, .bool true, .pointer (some ⟨x, 0, none⟩), .pointer (some ⟨x, 0, none⟩), .pointer (some ⟨x, 2, none⟩), .pointer (some ⟨x, 2, none⟩), .int .i64 0, .bool true, .bool true, .int .i64 (t : Int), .int .i64 ((t : Int) + 1), .pointer (some ⟨x, 0, none⟩), .pointer (some ⟨x, 0, none⟩), .pointer (some ⟨x, 1, none⟩), .int .i64 (at_ : Int), .tuple #[.slice xa X.length xc, .agg (erA W1 (bOf W1 (at_ + N1)))], .pointer (some ⟨x, 0, none⟩), .tuple #[.slice xa X.length xc, .agg (erA W1 (bOf W1 (at_ + N1)))], .slice xa X.length xc, .agg (erA W1 (bOf W1 (at_ + N1))), .pointer (some ⟨g9, 0, none⟩), .int .i64 W1, .bool true, .bool true, .slice xa X.length xc, .int .i64 (X.length : Int), .bool false, .bool false, u61, u62, u63, .slice oa vs.length oc, .slice xa X.length xc, .slice (some ⟨w8.heap.size, 0, none⟩) 1 1, v4, rfl, by omega, W1, at_ + N1, vs ++ [.slice xa X.length xc], ls ++ [X], HXy.out, HGy.out, HOy.out, HNy.out, by rw [List.length_append]; simp [JL.out], .inl ⟨h11_2, hbk, HZy.out⟩⟩, ?_⟩
              simp only [intOf]; show n - ((t : Int) + 1).toNat < n - ((t : Int)).toNat; omega
          · skip
            refine WL.val (by kernel_rfl) (.bool false) (by go_simp) ?_
            simp only [Act.put, List.setIfInBounds_toArray, List.set_cons_zero, List.set_cons_succ]
            refine WL.val (by kernel_rfl) (.bool false) (by go_simp) ?_
            simp only [Act.put, List.setIfInBounds_toArray, List.set_cons_zero, List.set_cons_succ]
            refine WL.skip (by kernel_rfl) ?_
            simp only [Act.put, List.setIfInBounds_toArray, List.set_cons_zero, List.set_cons_succ]
            refine WL.skip (by kernel_rfl) ?_
            simp only [Act.put, List.setIfInBounds_toArray, List.set_cons_zero, List.set_cons_succ]
            refine WL.skip (by kernel_rfl) ?_
            simp only [Act.put, List.setIfInBounds_toArray, List.set_cons_zero, List.set_cons_succ]
            refine WL.val (by kernel_rfl) (.bool false) (by go_simp) ?_
            simp only [Act.put, List.setIfInBounds_toArray, List.set_cons_zero, List.set_cons_succ]
            refine WL.nil ?_
            refine hK15 _ _ ?_
            refine wp_cond_false rfl ?_
            refine wp_skip ?_
            refine hK14 _ _ ?_
            have HXz := HX8
            have HGz := HG8
            have HOz := HO8
            refine wp_region_list (WL.out ?_)
            refine WL.val (by kernel_rfl) (.slice oa vs.length oc) (by go_simp) ?_
            simp only [Act.put, List.setIfInBounds_toArray, List.set_cons_zero, List.set_cons_succ]
            refine WL.val (by kernel_rfl) (.slice xa X.length xc) (by go_simp) ?_
            simp only [Act.put, List.setIfInBounds_toArray, List.set_cons_zero, List.set_cons_succ]
            refine WL.bs (by kernel_rfl) 26 1 _ rfl #[(0, .slice xa X.length xc)] (by simp [Act.eval]) _ _ (bsR xa X.length xc w8) ?_
            have HB11 := Keep.mk (Blk.new w8 25 #[.slice xa X.length xc])
            have B11 := Keep.mk (below_new w8 (.cells #[.slice xa X.length xc] 25))
            generalize w8.alloc (.cells #[.slice xa X.length xc] 25) = w11 at *
            simp only [Act.put, List.setIfInBounds_toArray, List.set_cons_zero, List.set_cons_succ]
            refine WL.appR (by kernel_rfl) (.tmp 64) (.tmp 66) rfl (.slice oa vs.length oc) vs w8.heap.size (.slice xa X.length xc) rfl rfl rfl (HOz.out.below B11.out) HB11.out (by have := JL.out; omega) ?_
            intro v4 w12 h1 h2 h3
            have HOy := Keep.mk h1
            have HGy : Keep (Grown w w12 fun k => k = x) := ⟨(HGz.out.trans (Grown.below B11.out)).next h2 (fun k hk e => absurd (JN.out k e) (by omega))⟩
            have HXy := Keep.mk ((HXz.out.below B11.out).keep h2 (fun e => (HOz.out.below B11.out).ne (HXz.out.below B11.out).blk (by decide) e) (fun k hk e => absurd (JN.out k e) (by have := JG0.out; omega)))
            have HNy : Keep (∀ k, v4.ownBlock = some k → w.heap.size ≤ k) := ⟨fun k hk => by
              rcases h3 with e | ⟨j, e, hj⟩
              · rw [e] at hk; exact JN.out k hk
              · rw [e] at hk; injection hk with hk; have := HGz.out.size; have := B11.out.size; omega⟩
            clear h1 h2 h3
            simp only [Act.put, List.setIfInBounds_toArray, List.set_cons_zero, List.set_cons_succ]
            refine WL.val (by kernel_rfl) (v4) (by go_simp) ?_
            simp only [Act.put, List.setIfInBounds_toArray, List.set_cons_zero, List.set_cons_succ]
            refine WL.nil ?_
            refine hK11 _ _ ?_
            refine wp_region_list (WL.out ?_)
            refine WL.val (by kernel_rfl) (.int .i64 (t : Int)) (by go_simp) ?_
            simp only [Act.put, List.setIfInBounds_toArray, List.set_cons_zero, List.set_cons_succ]
            refine WL.val (by kernel_rfl) (.int .i64 ((t : Int) + 1)) (by go_simp) ?_
            simp only [Act.put, List.setIfInBounds_toArray, List.set_cons_zero, List.set_cons_succ]
            refine WL.val (by kernel_rfl) (.int .i64 ((t : Int) + 1)) (by go_simp) ?_
            simp only [Act.put, List.setIfInBounds_toArray, List.set_cons_zero, List.set_cons_succ]
            refine WL.nil ?_
            have hbk : R = (W1, at_ + N1, []) := by rw [JR.out, if_pos (by simp [h11_2])]; simp [h11_2]
            refine ⟨⟨t + 1, .int .i64 (at_ : Int), v4, .slice xa X.length xc, .pointer (some ⟨g9, 0, none⟩), .int .i64 (t : Int), .int .u64 (n : Int), .int .i64 (n : Int), .bool true, .bool true, .pointer (some ⟨x, 0, none⟩), .pointer (some ⟨x, 0, none⟩), .pointer (some ⟨x, 2, none⟩), .pointer (some ⟨x, 2, none⟩), .int .i64 0, .bool true, .bool true, .int .i64 (t : Int), .int .i64 ((t : Int) + 1), .pointer (some ⟨x, 0, none⟩), .pointer (some ⟨x, 0, none⟩), .pointer (some ⟨x, 1, none⟩), .int .i64 (at_ : Int), .tuple #[.slice xa X.length xc, .agg (erA W1 (bOf W1 (at_ + N1)))], .pointer (some ⟨x, 0, none⟩), .tuple #[.slice xa X.length xc, .agg (erA W1 (bOf W1 (at_ + N1)))], .slice xa X.length xc, .agg (erA W1 (bOf W1 (at_ + N1))), .pointer (some ⟨g9, 0, none⟩), .int .i64 W1, .bool false, .bool false, undef, undef, undef, .bool false, u61, u62, u63, .slice oa vs.length oc, .slice xa X.length xc, .slice (some ⟨w8.heap.size, 0, none⟩) 1 1, v4, rfl, by omega, W1, at_ + N1, vs ++ [.slice xa X.length xc], [], HXy.out, HGy.out, HOy.out, HNy.out, by rw [List.length_append]; simp [JL.out], .inr ⟨h11_2, by rw [hbk], by rw [hbk]⟩⟩, ?_⟩
            simp only [intOf]; show n - ((t : Int) + 1).toNat < n - ((t : Int)).toNat; omega
        · skip
          refine wp_seq_k fun K16 hK16 => ?_
          refine wp_seq_k fun K17 hK17 => ?_
          refine wp_region_list (WL.out ?_)
          refine WL.val (by kernel_rfl) (.int .i64 (t : Int)) (by go_simp) ?_
          simp only [Act.put, List.setIfInBounds_toArray, List.set_cons_zero, List.set_cons_succ]
          refine WL.val (by kernel_rfl) (.int .u64 (n : Int)) (by go_simp) ?_
          simp only [Act.put, List.setIfInBounds_toArray, List.set_cons_zero, List.set_cons_succ]
          refine WL.val (by kernel_rfl) (.int .i64 (n : Int)) (by go_simp) ?_
          simp only [Act.put, List.setIfInBounds_toArray, List.set_cons_zero, List.set_cons_succ]
          refine WL.val (by kernel_rfl) (.bool true) (by go_simp) ?_
          simp only [Act.put, List.setIfInBounds_toArray, List.set_cons_zero, List.set_cons_succ]
          refine WL.val (by kernel_rfl) (.bool true) (by go_simp) ?_
          simp only [Act.put, List.setIfInBounds_toArray, List.set_cons_zero, List.set_cons_succ]
          refine WL.val (by kernel_rfl) (.pointer (some ⟨x, 0, none⟩)) (by go_simp) ?_
          simp only [Act.put, List.setIfInBounds_toArray, List.set_cons_zero, List.set_cons_succ]
          refine WL.val (by kernel_rfl) (.pointer (some ⟨x, 0, none⟩)) (by go_simp) ?_
          simp only [Act.put, List.setIfInBounds_toArray, List.set_cons_zero, List.set_cons_succ]
          refine WL.val (by kernel_rfl) (.pointer (some ⟨x, 2, none⟩)) (by go_simp) ?_
          simp only [Act.put, List.setIfInBounds_toArray, List.set_cons_zero, List.set_cons_succ]
          refine WL.val (by kernel_rfl) (.pointer (some ⟨x, 2, none⟩)) (by go_simp) ?_
          simp only [Act.put, List.setIfInBounds_toArray, List.set_cons_zero, List.set_cons_succ]
          refine WL.val (by kernel_rfl) (.int .i64 why) (by go_simp) ?_
          simp only [Act.put, List.setIfInBounds_toArray, List.set_cons_zero, List.set_cons_succ]
          refine WL.val (by kernel_rfl) (.bool false) (by go_simp) ?_
          simp only [Act.put, List.setIfInBounds_toArray, List.set_cons_zero, List.set_cons_succ]
          refine WL.val (by kernel_rfl) (.bool false) (by go_simp) ?_
          simp only [Act.put, List.setIfInBounds_toArray, List.set_cons_zero, List.set_cons_succ]
          refine WL.nil ?_
          refine hK17 _ _ ?_
          refine wp_cond_false rfl ?_
          refine wp_exit ?_
          refine hK7 _ _ ?_
          refine wp_seq_k fun K18 hK18 => ?_
          refine wp_region_list (WL.out ?_)
          refine WL.val (by kernel_rfl) (.slice oa vs.length oc) (by go_simp) ?_
          simp only [Act.put, List.setIfInBounds_toArray, List.set_cons_zero, List.set_cons_succ]
          refine WL.val (by kernel_rfl) (.slice oa vs.length oc) (by go_simp) ?_
          simp only [Act.put, List.setIfInBounds_toArray, List.set_cons_zero, List.set_cons_succ]
          refine WL.nil ?_
          refine hK18 _ _ ?_
          refine wp_ret ?_
          go_ret
          refine ⟨_, rfl, ?_, JG.out, vs, JO.out, JN.out, ?_⟩
          · rcases JC.out with ⟨h1, _⟩ | ⟨_, h1, h2⟩
            · exact absurd h1 hy
            · rw [h1, h2]; exact JX.out
          · intro h
            rcases JC.out with ⟨h1, _⟩ | ⟨_, h1, h2⟩
            · exact absurd h1 hy
            · exact absurd (h1.symm.trans h) hy
      · have hte : Keep (t = n) := ⟨by omega⟩
        have hlt' : ¬ (t : Int) < (n : Int) := by omega
        refine wp_seq_k fun K19 hK19 => ?_
        refine wp_seq_k fun K20 hK20 => ?_
        refine wp_region_list (WL.out ?_)
        refine WL.val (by kernel_rfl) (.int .i64 (t : Int)) (by go_simp) ?_
        simp only [Act.put, List.setIfInBounds_toArray, List.set_cons_zero, List.set_cons_succ]
        refine WL.val (by kernel_rfl) (.int .u64 (n : Int)) (by go_simp) ?_
        simp only [Act.put, List.setIfInBounds_toArray, List.set_cons_zero, List.set_cons_succ]
        refine WL.val (by kernel_rfl) (.int .i64 (n : Int)) (by go_simp) ?_
        simp only [Act.put, List.setIfInBounds_toArray, List.set_cons_zero, List.set_cons_succ]
        refine WL.val (by kernel_rfl) (.bool false) (by go_simp) ?_
        simp only [Act.put, List.setIfInBounds_toArray, List.set_cons_zero, List.set_cons_succ]
        refine WL.val (by kernel_rfl) (.bool false) (by go_simp) ?_
        simp only [Act.put, List.setIfInBounds_toArray, List.set_cons_zero, List.set_cons_succ]
        refine WL.skip (by kernel_rfl) ?_
        simp only [Act.put, List.setIfInBounds_toArray, List.set_cons_zero, List.set_cons_succ]
        refine WL.skip (by kernel_rfl) ?_
        simp only [Act.put, List.setIfInBounds_toArray, List.set_cons_zero, List.set_cons_succ]
        refine WL.skip (by kernel_rfl) ?_
        simp only [Act.put, List.setIfInBounds_toArray, List.set_cons_zero, List.set_cons_succ]
        refine WL.skip (by kernel_rfl) ?_
        simp only [Act.put, List.setIfInBounds_toArray, List.set_cons_zero, List.set_cons_succ]
        refine WL.skip (by kernel_rfl) ?_
        simp only [Act.put, List.setIfInBounds_toArray, List.set_cons_zero, List.set_cons_succ]
        refine WL.skip (by kernel_rfl) ?_
        simp only [Act.put, List.setIfInBounds_toArray, List.set_cons_zero, List.set_cons_succ]
        refine WL.val (by kernel_rfl) (.bool false) (by go_simp) ?_
        simp only [Act.put, List.setIfInBounds_toArray, List.set_cons_zero, List.set_cons_succ]
        refine WL.nil ?_
        refine hK20 _ _ ?_
        refine wp_cond_false rfl ?_
        refine wp_exit ?_
        refine hK7 _ _ ?_
        refine wp_seq_k fun K21 hK21 => ?_
        refine wp_region_list (WL.out ?_)
        refine WL.val (by kernel_rfl) (.slice oa vs.length oc) (by go_simp) ?_
        simp only [Act.put, List.setIfInBounds_toArray, List.set_cons_zero, List.set_cons_succ]
        refine WL.val (by kernel_rfl) (.slice oa vs.length oc) (by go_simp) ?_
        simp only [Act.put, List.setIfInBounds_toArray, List.set_cons_zero, List.set_cons_succ]
        refine WL.nil ?_
        refine hK21 _ _ ?_
        refine wp_ret ?_
        go_ret
        refine ⟨_, rfl, ?_, JG.out, vs, JO.out, JN.out, ?_⟩
        · rcases JC.out with ⟨h1, h2, _⟩ | ⟨_, h1, h2⟩
          · rw [hte.out, Nat.sub_self, bkG] at h2
            rw [h2]; have h := JX.out; rw [h1] at h; exact h
          · rw [h1, h2]; exact JX.out
        · intro h
          rcases JC.out with ⟨h1, h2, h5⟩ | ⟨h3, h1, h2⟩
          · rw [hte.out, Nat.sub_self, bkG] at h2
            rw [h2]; exact h5
          · exact absurd (h1.symm.trans h) h3
    · have h3_5' : ¬ (n : Int) = 0 := by omega
      refine WL.val (by kernel_rfl) (.bool false) (by go_simp) ?_
      simp only [Act.put, List.setIfInBounds_toArray, List.set_cons_zero, List.set_cons_succ]
      refine WL.val (by kernel_rfl) (.bool false) (by go_simp) ?_
      simp only [Act.put, List.setIfInBounds_toArray, List.set_cons_zero, List.set_cons_succ]
      refine WL.nil ?_
      refine hK5 _ _ ?_
      refine wp_cond_false rfl ?_
      refine wp_skip ?_
      refine hK4 _ _ ?_
      refine wp_seq_k fun K22 hK22 => ?_
      have HRi := Keep.mk (HR0.out.2.2 h3_2 (by assumption))
      clear h3_5 h3_5'
      refine wp_region_list (WL.out ?_)
      refine WL.bs (by kernel_rfl) 26 0 _ rfl #[] (by simp) _ _ (bsRE w2) ?_
      have HO3 := Keep.mk (ownR_empty w2)
      have HN3 : Keep (∀ k, (Value.slice (some ⟨w2.heap.size, 0, none⟩) 0 0).ownBlock = some k → w.heap.size ≤ k) := ⟨fun k hk => by simp [Value.ownBlock] at hk; have := HG2.out.size; omega⟩
      have HX3 := Keep.mk (HX2.out.below (below_new w2 (.cells #[] 25)))
      have HG3 : Keep (Grown w (w2.alloc (.cells #[] 25)) fun k => k = x) := ⟨HG2.out.trans (Grown.below (below_new w2 _))⟩
      generalize w2.alloc (.cells #[] 25) = w3 at *
      generalize Value.slice (some ⟨w2.heap.size, 0, none⟩) 0 0 = v3 at *
      have hzr : RowsZ w.heap.size w3 v3 [] [] := ⟨rfl, fun i hi => by simp at hi⟩
      simp only [Act.put, List.setIfInBounds_toArray, List.set_cons_zero, List.set_cons_succ]
      refine WL.val (by kernel_rfl) (v3) (by go_simp) ?_
      simp only [Act.put, List.setIfInBounds_toArray, List.set_cons_zero, List.set_cons_succ]
      refine WL.nil ?_
      refine hK22 _ _ ?_
      refine wp_seq_k fun K23 hK23 => ?_
      refine wp_seq_k fun K24 hK24 => ?_
      refine wp_region_list (WL.out ?_)
      refine WL.val (by kernel_rfl) (.int .i64 0) (by go_simp) ?_
      simp only [Act.put, List.setIfInBounds_toArray, List.set_cons_zero, List.set_cons_succ]
      refine WL.nil ?_
      refine hK24 _ _ ?_
      refine wp_block ?_
      refine wp_loop (fun ac wr => ∃ (t : Nat) (u3 u6 u8 u9 u30 u31 u32 u33 u34 u35 u36 u37 u38 u39 u40 u41 u42 u43 u44 u45 u46 u47 u48 u49 u50 u51 u52 u53 u54 u55 u56 u57 u58 u59 u60 u61 u62 u63 u64 u65 u66 u67 : Value), ac = { tmps := #[.pointer (some ⟨x, 0, none⟩), undef, .slice none 0 0, u3, .int .u64 (n : Int), .pointer (some ⟨g5, 0, none⟩), u6, .int .i64 (t : Int), u8, u9, .pointer (some ⟨x, 0, none⟩), .pointer (some ⟨x, 0, none⟩), .pointer (some ⟨x, 1, none⟩), .int .i64 (a : Int), .tuple #[.int .u64 (n : Int), .agg (erA W (bOf W (a + N)))], .pointer (some ⟨x, 0, none⟩), .tuple #[.int .u64 (n : Int), .agg (erA W (bOf W (a + N)))], .int .u64 (n : Int), .agg (erA W (bOf W (a + N))), .pointer (some ⟨g5, 0, none⟩), .int .i64 W, .bool true, .bool true, .int .u64 (n : Int), .bool false, .bool false, undef, undef, undef, v3, u30, u31, u32, u33, u34, u35, u36, u37, u38, u39, u40, u41, u42, u43, u44, u45, u46, u47, u48, u49, u50, u51, u52, u53, u54, u55, u56, u57, u58, u59, u60, u61, u62, u63, u64, u65, u66, u67, undef], defers := [] } ∧ t ≤ n ∧ ∃ why at_ vs ls, RX w0 x vB L why at_ wr ∧ (Grown w wr fun k => k = x) ∧ OwnR wr u6 vs ∧ (∀ k, u6.ownBlock = some k → w.heap.size ≤ k) ∧ vs.length = t ∧ ((why = 0 ∧ R = bkG L (n - t) ls at_ ∧ RowsZ w.heap.size wr u6 vs ls) ∨ (why ≠ 0 ∧ R.1 = why ∧ R.2.1 = at_))) (fun a _ => n - (intOf (a.tmps.getD 7 undef)).toNat) ⟨0, .int .i64 (a : Int), v3, undef, undef, undef, undef, undef, undef, undef, undef, undef, undef, undef, undef, undef, undef, undef, undef, undef, undef, undef, undef, undef, undef, undef, undef, undef, undef, undef, undef, undef, undef, undef, undef, undef, undef, undef, undef, undef, undef, undef, undef, rfl, by omega, W, a + N, [], [], HX3.out, HG3.out, HO3.out, HN3.out, rfl, .inl ⟨h3_2, HRi.out, hzr⟩⟩ ?_
      rintro ac wr ⟨t, u3, u6, u8, u9, u30, u31, u32, u33, u34, u35, u36, u37, u38, u39, u40, u41, u42, u43, u44, u45, u46, u47, u48, u49, u50, u51, u52, u53, u54, u55, u56, u57, u58, u59, u60, u61, u62, u63, u64, u65, u66, u67, rfl, ht, why, at_, vs, ls, hX, hG, hO, hN, hLn, hC⟩
      obtain ⟨oa, oc, rfl⟩ := hO.sl
      have JX := Keep.mk hX
      have JG := Keep.mk hG
      have JO := Keep.mk hO
      have JN := Keep.mk hN
      have JL := Keep.mk hLn
      have JC := Keep.mk hC
      clear hX hG hO hN hLn hC
      have hcv : IntKind.i64.wrap (n : Int) = (n : Int) := by rw [IntKind.wrap_i64]; omega
      by_cases hlt : t < n
      · have hlt' : (t : Int) < (n : Int) := by omega
        have hwt : IntKind.i64.wrap ((t : Int) + 1) = (t : Int) + 1 := by rw [IntKind.wrap_i64]; omega
        have k2 := JX.out.c2
        by_cases hy : why = 0
        · subst hy
          have k1 := JX.out.c1
          have JR : Keep (R = bkG L (n - t) ls at_ ∧ RowsZ w.heap.size wr (.slice oa vs.length oc) vs ls) := ⟨by rcases JC.out with ⟨_, h⟩ | ⟨h, _⟩; exact h; exact absurd rfl h⟩
          clear JC
          have JZ := Keep.mk JR.out.2
          replace JR := Keep.mk JR.out.1
          obtain ⟨k1', hk1⟩ : ∃ k1, n - t = k1 + 1 := ⟨n - t - 1, by omega⟩
          rw [hk1, bkG] at JR
          have hk2 : k1' = n - (t + 1) := by omega
          rw [hk2] at JR
          clear hk1 hk2 k1'
          have HC0 := Keep.mk (xbytes_x 1048576 (by decide) JX.out)
          unfold stByt at HC0
          rw [if_pos rfl] at HC0
          unfold bk1 at JR
          obtain ⟨B, hB⟩ : ∃ B, B = byt (L.drop at_) 1048576 := ⟨_, rfl⟩
          rw [show ((1048576 : Nat) : Int) = 1048576 from rfl, ← hB] at HC0
          rw [← hB] at JR
          clear hB
          obtain ⟨W1, N1, X⟩ := B
          simp only at HC0 JR
          refine wp_seq_k fun K25 hK25 => ?_
          refine wp_seq_k fun K26 hK26 => ?_
          refine wp_region_list (WL.out ?_)
          refine WL.val (by kernel_rfl) (.int .i64 (t : Int)) (by go_simp) ?_
          simp only [Act.put, List.setIfInBounds_toArray, List.set_cons_zero, List.set_cons_succ]
          refine WL.val (by kernel_rfl) (.int .u64 (n : Int)) (by go_simp) ?_
          simp only [Act.put, List.setIfInBounds_toArray, List.set_cons_zero, List.set_cons_succ]
          refine WL.val (by kernel_rfl) (.int .i64 (n : Int)) (by go_simp) ?_
          simp only [Act.put, List.setIfInBounds_toArray, List.set_cons_zero, List.set_cons_succ]
          refine WL.val (by kernel_rfl) (.bool true) (by go_simp) ?_
          simp only [Act.put, List.setIfInBounds_toArray, List.set_cons_zero, List.set_cons_succ]
          refine WL.val (by kernel_rfl) (.bool true) (by go_simp) ?_
          simp only [Act.put, List.setIfInBounds_toArray, List.set_cons_zero, List.set_cons_succ]
          refine WL.val (by kernel_rfl) (.pointer (some ⟨x, 0, none⟩)) (by go_simp) ?_
          simp only [Act.put, List.setIfInBounds_toArray, List.set_cons_zero, List.set_cons_succ]
          refine WL.val (by kernel_rfl) (.pointer (some ⟨x, 0, none⟩)) (by go_simp) ?_
          simp only [Act.put, List.setIfInBounds_toArray, List.set_cons_zero, List.set_cons_succ]
          refine WL.val (by kernel_rfl) (.pointer (some ⟨x, 2, none⟩)) (by go_simp) ?_
          simp only [Act.put, List.setIfInBounds_toArray, List.set_cons_zero, List.set_cons_succ]
          refine WL.val (by kernel_rfl) (.pointer (some ⟨x, 2, none⟩)) (by go_simp) ?_
          simp only [Act.put, List.setIfInBounds_toArray, List.set_cons_zero, List.set_cons_succ]
          refine WL.val (by kernel_rfl) (.int .i64 0) (by go_simp) ?_
          simp only [Act.put, List.setIfInBounds_toArray, List.set_cons_zero, List.set_cons_succ]
          refine WL.val (by kernel_rfl) (.bool true) (by go_simp) ?_
          simp only [Act.put, List.setIfInBounds_toArray, List.set_cons_zero, List.set_cons_succ]
          refine WL.val (by kernel_rfl) (.bool true) (by go_simp) ?_
          simp only [Act.put, List.setIfInBounds_toArray, List.set_cons_zero, List.set_cons_succ]
          refine WL.nil ?_
          refine hK26 _ _ ?_
          refine wp_cond_true rfl ?_
          refine wp_skip ?_
          refine hK25 _ _ ?_
          refine wp_seq_k fun K27 hK27 => ?_
          refine wp_block ?_
          refine wp_seq_k fun K28 hK28 => ?_
          refine wp_region_list (WL.out ?_)
          refine WL.val (by kernel_rfl) (.pointer (some ⟨x, 0, none⟩)) (by go_simp) ?_
          simp only [Act.put, List.setIfInBounds_toArray, List.set_cons_zero, List.set_cons_succ]
          refine WL.val (by kernel_rfl) (.pointer (some ⟨x, 0, none⟩)) (by go_simp) ?_
          simp only [Act.put, List.setIfInBounds_toArray, List.set_cons_zero, List.set_cons_succ]
          refine WL.val (by kernel_rfl) (.pointer (some ⟨x, 1, none⟩)) (by go_simp) ?_
          simp only [Act.put, List.setIfInBounds_toArray, List.set_cons_zero, List.set_cons_succ]
          refine WL.val (by kernel_rfl) (.int .i64 (at_ : Int)) (by go_simp) ?_
          simp only [Act.put, List.setIfInBounds_toArray, List.set_cons_zero, List.set_cons_succ]
          refine WL.val (by kernel_rfl) (.int .i64 (at_ : Int)) (by go_simp) ?_
          simp only [Act.put, List.setIfInBounds_toArray, List.set_cons_zero, List.set_cons_succ]
          refine WL.nil ?_
          refine hK28 _ _ ?_
          refine wp_seq_k fun K29 hK29 => ?_
          refine wp_region_list (WL.out ?_)
          refine WL.val (by kernel_rfl) (.pointer (some ⟨x, 0, none⟩)) (by go_simp) ?_
          simp only [Act.put, List.setIfInBounds_toArray, List.set_cons_zero, List.set_cons_succ]
          refine WL.callF (by kernel_rfl) 41 _ _ rfl Try.in41 #[ptr x, .int .i64 1048576] (by simp [Act.eval]) ?_
          refine (HC0.out).mono ?_
          rintro e w1 ⟨xa, xc, rfl, h1, h2, h3, h4⟩
          refine ⟨_, rfl, ?_⟩
          have HX4 := Keep.mk h1
          have HG4 : Keep (Grown w w1 fun k => k = x) := ⟨JG.out.trans h2⟩
          have HO4 := Keep.mk (JO.out.grown h2 (fun k hk e => JO.out.ne JX.out.blk (by decide) (e ▸ hk)))
          have HR4 := Keep.mk h3
          have HF4 := Keep.mk h4
          have HZ4 := Keep.mk (JZ.out.step h2 (fun k hk _ _ e => by have := Hxlt.out; omega) (.inl rfl))
          have hlt4 := JO.out.lt
          have HL4 := Keep.mk hlt4
          clear h1 h2 h3 h4 hlt4 k1 k2 HC0
          simp only [Act.put, List.setIfInBounds_toArray, List.set_cons_zero, List.set_cons_succ]
          refine WL.val (by kernel_rfl) (.tuple #[.slice xa X.length xc, .agg (erA W1 (bOf W1 (at_ + N1)))]) (by go_simp) ?_
          simp only [Act.put, List.setIfInBounds_toArray, List.set_cons_zero, List.set_cons_succ]
          refine WL.val (by kernel_rfl) (.slice xa X.length xc) (by go_simp) ?_
          simp only [Act.put, List.setIfInBounds_toArray, List.set_cons_zero, List.set_cons_succ]
          refine WL.val (by kernel_rfl) (.agg (erA W1 (bOf W1 (at_ + N1)))) (by go_simp) ?_
          simp only [Act.put, List.setIfInBounds_toArray, List.set_cons_zero, List.set_cons_succ]
          refine WL.new (by kernel_rfl) 41 rfl _ Try.new41E ?_
          have HNg9 := Keep.mk (Blk.new w1 41 (erA 0 0))
          have BNg9 := Keep.mk (below_new w1 (.cells (erA 0 0) 41))
          generalize w1.alloc (.cells (erA 0 0) 41) = w8a at *
          simp only [Act.put, List.setIfInBounds_toArray, List.set_cons_zero, List.set_cons_succ]
          refine WL.val (by kernel_rfl) (.slice xa X.length xc) (by go_simp) ?_
          simp only [Act.put, List.setIfInBounds_toArray, List.set_cons_zero, List.set_cons_succ]
          refine WL.storeR (by kernel_rfl) 41 (.tmp 9) (.tmp 52) rfl w1.heap.size (erA W1 (bOf W1 (at_ + N1))) rfl rfl 41 (erA 0 0) HNg9.out (Try.size41B _ _) (erA_sizes _ _ _ _) (erA_one _ _) ?_
          have HMg9 := Keep.mk (HNg9.out.setRow (erA W1 (bOf W1 (at_ + N1))))
          have Bmg9 : Keep (Below w1.heap.size w1 (w8a.setRow w1.heap.size (erA W1 (bOf W1 (at_ + N1))))) := ⟨below_setRow BNg9.out (Nat.le_refl _) _⟩
          generalize w8a.setRow w1.heap.size (erA W1 (bOf W1 (at_ + N1))) = w8 at *
          generalize w1.heap.size = g9 at HMg9 ⊢
          clear HNg9 BNg9
          have HX8 := Keep.mk (HX4.out.below Bmg9.out)
          have HG8 : Keep (Grown w w8 fun k => k = x) := ⟨HG4.out.trans (Grown.below Bmg9.out)⟩
          have HO8 := Keep.mk (HO4.out.below Bmg9.out)
          have HR8 := Keep.mk (HR4.out.below Bmg9.out)
          have HZ8 := Keep.mk (HZ4.out.step (S := fun _ => False) (Grown.below Bmg9.out) (fun _ _ _ _ h => h) (.inl rfl))
          have ee0 : w8.cell? ⟨g9, 0, none⟩ = some (.int .i64 W1) := HMg9.out.c 0 rfl
          simp only [Act.put]
          refine WL.nil ?_
          refine hK29 _ _ ?_
          refine wp_seq_k fun K30 hK30 => ?_
          refine wp_seq_k fun K31 hK31 => ?_
          refine wp_region_list (WL.out ?_)
          refine WL.val (by kernel_rfl) (.pointer (some ⟨g9, 0, none⟩)) (by go_simp) ?_
          simp only [Act.put, List.setIfInBounds_toArray, List.set_cons_zero, List.set_cons_succ]
          refine WL.val (by kernel_rfl) (.int .i64 W1) (by go_simp) ?_
          simp only [Act.put, List.setIfInBounds_toArray, List.set_cons_zero, List.set_cons_succ]
          by_cases h11_2 : W1 = 0
          · skip
            refine WL.val (by kernel_rfl) (.bool true) (by go_simp) ?_
            simp only [Act.put, List.setIfInBounds_toArray, List.set_cons_zero, List.set_cons_succ]
            refine WL.val (by kernel_rfl) (.bool true) (by go_simp) ?_
            simp only [Act.put, List.setIfInBounds_toArray, List.set_cons_zero, List.set_cons_succ]
            refine WL.val (by kernel_rfl) (.slice xa X.length xc) (by go_simp) ?_
            simp only [Act.put, List.setIfInBounds_toArray, List.set_cons_zero, List.set_cons_succ]
            refine WL.val (by kernel_rfl) (.int .i64 (X.length : Int)) (by go_simp) ?_
            simp only [Act.put, List.setIfInBounds_toArray, List.set_cons_zero, List.set_cons_succ]
            by_cases h11_6 : X.length = 0
            · have h11_6' : (X.length : Int) = 0 := by omega
              refine WL.val (by kernel_rfl) (.bool true) (by go_simp) ?_
              simp only [Act.put, List.setIfInBounds_toArray, List.set_cons_zero, List.set_cons_succ]
              refine WL.val (by kernel_rfl) (.bool true) (by go_simp) ?_
              simp only [Act.put, List.setIfInBounds_toArray, List.set_cons_zero, List.set_cons_succ]
              refine WL.nil ?_
              refine hK31 _ _ ?_
              refine wp_cond_true rfl ?_
              refine wp_region_list (WL.out ?_)
              refine WL.val (by kernel_rfl) (.pointer (some ⟨x, 0, none⟩)) (by go_simp) ?_
              simp only [Act.put, List.setIfInBounds_toArray, List.set_cons_zero, List.set_cons_succ]
              refine WL.val (by kernel_rfl) (.int .i64 (at_ : Int)) (by go_simp) ?_
              simp only [Act.put, List.setIfInBounds_toArray, List.set_cons_zero, List.set_cons_succ]
              refine WL.callF (by kernel_rfl) 38 _ _ rfl Try.in38 #[ptr x, .int .i64 4, .int .i64 (at_ : Int)] (by simp [Act.eval]) ?_
              refine (xwrong_x at_ 4 (by decide) JX.out.le (by have h := HX8.out; rw [h11_2] at h; exact h)).mono ?_
              rintro e w10 ⟨rfl, h1, h2⟩
              refine ⟨_, rfl, ?_⟩
              have HXz := Keep.mk h1
              have HGz : Keep (Grown w w10 fun k => k = x) := ⟨HG8.out.trans h2⟩
              have HOz := Keep.mk (HO8.out.grown h2 (fun k hk e => HO8.out.ne HX8.out.blk (by decide) (e ▸ hk)))
              clear h1 h2
              simp only [Act.put, List.setIfInBounds_toArray, List.set_cons_zero, List.set_cons_succ]
              refine WL.nil ?_
              refine hK30 _ _ ?_
              refine wp_region_list (WL.out ?_)
              refine WL.val (by kernel_rfl) (.slice oa vs.length oc) (by go_simp) ?_
              simp only [Act.put, List.setIfInBounds_toArray, List.set_cons_zero, List.set_cons_succ]
              refine WL.val (by kernel_rfl) (.slice xa X.length xc) (by go_simp) ?_
              simp only [Act.put, List.setIfInBounds_toArray, List.set_cons_zero, List.set_cons_succ]
              refine WL.bs (by kernel_rfl) 26 1 _ rfl #[(0, .slice xa X.length xc)] (by simp [Act.eval]) _ _ (bsR xa X.length xc w10) ?_
              have HB11 := Keep.mk (Blk.new w10 25 #[.slice xa X.length xc])
              have B11 := Keep.mk (below_new w10 (.cells #[.slice xa X.length xc] 25))
              generalize w10.alloc (.cells #[.slice xa X.length xc] 25) = w11 at *
              simp only [Act.put, List.setIfInBounds_toArray, List.set_cons_zero, List.set_cons_succ]
              refine WL.appR (by kernel_rfl) (.tmp 64) (.tmp 66) rfl (.slice oa vs.length oc) vs w10.heap.size (.slice xa X.length xc) rfl rfl rfl (HOz.out.below B11.out) HB11.out (by have := JL.out; omega) ?_
              intro v4 w12 h1 h2 h3
              have HOy := Keep.mk h1
              have HGy : Keep (Grown w w12 fun k => k = x) := ⟨(HGz.out.trans (Grown.below B11.out)).next h2 (fun k hk e => absurd (JN.out k e) (by omega))⟩
              have HXy := Keep.mk ((HXz.out.below B11.out).keep h2 (fun e => (HOz.out.below B11.out).ne (HXz.out.below B11.out).blk (by decide) e) (fun k hk e => absurd (JN.out k e) (by have := JG0.out; omega)))
              have HNy : Keep (∀ k, v4.ownBlock = some k → w.heap.size ≤ k) := ⟨fun k hk => by
                rcases h3 with e | ⟨j, e, hj⟩
                · rw [e] at hk; exact JN.out k hk
                · rw [e] at hk; injection hk with hk; have := HGz.out.size; have := B11.out.size; omega⟩
              clear h1 h2 h3
              simp only [Act.put, List.setIfInBounds_toArray, List.set_cons_zero, List.set_cons_succ]
              refine WL.val (by kernel_rfl) (v4) (by go_simp) ?_
              simp only [Act.put, List.setIfInBounds_toArray, List.set_cons_zero, List.set_cons_succ]
              refine WL.nil ?_
              refine hK27 _ _ ?_
              refine wp_region_list (WL.out ?_)
              refine WL.val (by kernel_rfl) (.int .i64 (t : Int)) (by go_simp) ?_
              simp only [Act.put, List.setIfInBounds_toArray, List.set_cons_zero, List.set_cons_succ]
              refine WL.val (by kernel_rfl) (.int .i64 ((t : Int) + 1)) (by go_simp) ?_
              simp only [Act.put, List.setIfInBounds_toArray, List.set_cons_zero, List.set_cons_succ]
              refine WL.val (by kernel_rfl) (.int .i64 ((t : Int) + 1)) (by go_simp) ?_
              simp only [Act.put, List.setIfInBounds_toArray, List.set_cons_zero, List.set_cons_succ]
              refine WL.nil ?_
              have hbk : R = (4, at_, []) := by rw [JR.out]; simp [h11_2, h11_6]
              refine ⟨⟨t + 1, .int .i64 (at_ : Int), v4, .slice xa X.length xc, .pointer (some ⟨g9, 0, none⟩), .int .i64 (t : Int), .int .u64 (n : Int), .int .i64 (n : Int), .bool true, .bool true, .pointer (some ⟨x, 0, none⟩), .pointer (some ⟨x, 0, none⟩), .pointer (some ⟨x, 2, none⟩), .pointer (some ⟨x, 2, none⟩), .int .i64 0, .bool true, .bool true, .int .i64 (t : Int), .int .i64 ((t : Int) + 1), .pointer (some ⟨x, 0, none⟩), .pointer (some ⟨x, 0, none⟩), .pointer (some ⟨x, 1, none⟩), .int .i64 (at_ : Int), .tuple #[.slice xa X.length xc, .agg (erA W1 (bOf W1 (at_ + N1)))], .pointer (some ⟨x, 0, none⟩), .tuple #[.slice xa X.length xc, .agg (erA W1 (bOf W1 (at_ + N1)))], .slice xa X.length xc, .agg (erA W1 (bOf W1 (at_ + N1))), .pointer (some ⟨g9, 0, none⟩), .int .i64 W1, .bool true, .bool true, .slice xa X.length xc, .int .i64 (X.length : Int), .bool true, .bool true, .pointer (some ⟨x, 0, none⟩), .int .i64 (at_ : Int), .agg (erA 4 (at_ : Int)), .slice oa vs.length oc, .slice xa X.length xc, .slice (some ⟨w10.heap.size, 0, none⟩) 1 1, v4, rfl, by omega, 4, at_, vs ++ [.slice xa X.length xc], [], HXy.out, HGy.out, HOy.out, HNy.out, by rw [List.length_append]; simp [JL.out], .inr ⟨by decide, by rw [hbk], by rw [hbk]⟩⟩, ?_⟩
              simp only [intOf]; show n - ((t : Int) + 1).toNat < n - ((t : Int)).toNat; omega
            · have h11_6' : ¬ (X.length : Int) = 0 := by omega
              refine WL.val (by kernel_rfl) (.bool false) (by go_simp) ?_
              simp only [Act.put, List.setIfInBounds_toArray, List.set_cons_zero, List.set_cons_succ]
              refine WL.val (by kernel_rfl) (.bool false) (by go_simp) ?_
              simp only [Act.put, List.setIfInBounds_toArray, List.set_cons_zero, List.set_cons_succ]
              refine WL.nil ?_
              refine hK31 _ _ ?_
              refine wp_cond_false rfl ?_
              refine wp_skip ?_
              refine hK30 _ _ ?_
              have HXz := HX8
              have HGz := HG8
              have HOz := HO8
              refine wp_region_list (WL.out ?_)
              refine WL.val (by kernel_rfl) (.slice oa vs.length oc) (by go_simp) ?_
              simp only [Act.put, List.setIfInBounds_toArray, List.set_cons_zero, List.set_cons_succ]
              refine WL.val (by kernel_rfl) (.slice xa X.length xc) (by go_simp) ?_
              simp only [Act.put, List.setIfInBounds_toArray, List.set_cons_zero, List.set_cons_succ]
              refine WL.bs (by kernel_rfl) 26 1 _ rfl #[(0, .slice xa X.length xc)] (by simp [Act.eval]) _ _ (bsR xa X.length xc w8) ?_
              have HB11 := Keep.mk (Blk.new w8 25 #[.slice xa X.length xc])
              have B11 := Keep.mk (below_new w8 (.cells #[.slice xa X.length xc] 25))
              generalize w8.alloc (.cells #[.slice xa X.length xc] 25) = w11 at *
              simp only [Act.put, List.setIfInBounds_toArray, List.set_cons_zero, List.set_cons_succ]
              refine WL.appR (by kernel_rfl) (.tmp 64) (.tmp 66) rfl (.slice oa vs.length oc) vs w8.heap.size (.slice xa X.length xc) rfl rfl rfl (HOz.out.below B11.out) HB11.out (by have := JL.out; omega) ?_
              intro v4 w12 h1 h2 h3
              have HOy := Keep.mk h1
              have HGy : Keep (Grown w w12 fun k => k = x) := ⟨(HGz.out.trans (Grown.below B11.out)).next h2 (fun k hk e => absurd (JN.out k e) (by omega))⟩
              have HXy := Keep.mk ((HXz.out.below B11.out).keep h2 (fun e => (HOz.out.below B11.out).ne (HXz.out.below B11.out).blk (by decide) e) (fun k hk e => absurd (JN.out k e) (by have := JG0.out; omega)))
              have HNy : Keep (∀ k, v4.ownBlock = some k → w.heap.size ≤ k) := ⟨fun k hk => by
                rcases h3 with e | ⟨j, e, hj⟩
                · rw [e] at hk; exact JN.out k hk
                · rw [e] at hk; injection hk with hk; have := HGz.out.size; have := B11.out.size; omega⟩
              have HZy : Keep (RowsZ w.heap.size w12 v4 (vs ++ [.slice xa X.length xc]) (ls ++ [X])) := ⟨by
                have hk0 : ∀ k, (Value.slice xa X.length xc).ownBlock = some k → w.heap.size ≤ k ∧ k < w8.heap.size ∧ (Value.slice oa vs.length oc).ownBlock ≠ some k := fun k hk => by
                  have g1 := HF4.out k hk
                  refine ⟨Nat.le_trans JG.out.size g1, row_lt HR8.out (by omega) hk, fun e => ?_⟩
                  have := HL4.out k e
                  omega
                have z0 := (HZ8.out.push HR8.out hk0).step (S := fun _ => False) (Grown.below B11.out) (fun _ _ _ _ h => h) (.inl rfl)
                exact z0.step h2 (fun k _ _ hne e => hne e) h3⟩
              clear h1 h2 h3
              simp only [Act.put, List.setIfInBounds_toArray, List.set_cons_zero, List.set_cons_succ]
              refine WL.val (by kernel_rfl) (v4) (by go_simp) ?_
              simp only [Act.put, List.setIfInBounds_toArray, List.set_cons_zero, List.set_cons_succ]
              refine WL.nil ?_
              refine hK27 _ _ ?_
              refine wp_region_list (WL.out ?_)
              refine WL.val (by kernel_rfl) (.int .i64 (t : Int)) (by go_simp) ?_
              simp only [Act.put, List.setIfInBounds_toArray, List.set_cons_zero, List.set_cons_succ]
              refine WL.val (by kernel_rfl) (.int .i64 ((t : Int) + 1)) (by go_simp) ?_
              simp only [Act.put, List.setIfInBounds_toArray, List.set_cons_zero, List.set_cons_succ]
              refine WL.val (by kernel_rfl) (.int .i64 ((t : Int) + 1)) (by go_simp) ?_
              simp only [Act.put, List.setIfInBounds_toArray, List.set_cons_zero, List.set_cons_succ]
              refine WL.nil ?_
              have hbk : R = bkG L (n - (t + 1)) (ls ++ [X]) (at_ + N1) := by rw [JR.out]; simp [h11_2, h11_6]
              refine ⟨⟨t + 1, .int .i64 (at_ : Int), v4, .slice xa X.length xc, .pointer (some ⟨g9, 0, none⟩), .int .i64 (t : Int), .int .u64 (n : Int), .int .i64 (n : Int), .bool true, .bool true, .pointer (some ⟨x, 0, none⟩), .pointer (some ⟨x, 0, none⟩), .pointer (some ⟨x, 2, none⟩), .pointer (some ⟨x, 2, none⟩), .int .i64 0, .bool true, .bool true, .int .i64 (t : Int), .int .i64 ((t : Int) + 1), .pointer (some ⟨x, 0, none⟩), .pointer (some ⟨x, 0, none⟩), .pointer (some ⟨x, 1, none⟩), .int .i64 (at_ : Int), .tuple #[.slice xa X.length xc, .agg (erA W1 (bOf W1 (at_ + N1)))], .pointer (some ⟨x, 0, none⟩), .tuple #[.slice xa X.length xc, .agg (erA W1 (bOf W1 (at_ + N1)))], .slice xa X.length xc, .agg (erA W1 (bOf W1 (at_ + N1))), .pointer (some ⟨g9, 0, none⟩), .int .i64 W1, .bool true, .bool true, .slice xa X.length xc, .int .i64 (X.length : Int), .bool false, .bool false, u61, u62, u63, .slice oa vs.length oc, .slice xa X.length xc, .slice (some ⟨w8.heap.size, 0, none⟩) 1 1, v4, rfl, by omega, W1, at_ + N1, vs ++ [.slice xa X.length xc], ls ++ [X], HXy.out, HGy.out, HOy.out, HNy.out, by rw [List.length_append]; simp [JL.out], .inl ⟨h11_2, hbk, HZy.out⟩⟩, ?_⟩
              simp only [intOf]; show n - ((t : Int) + 1).toNat < n - ((t : Int)).toNat; omega
          · skip
            refine WL.val (by kernel_rfl) (.bool false) (by go_simp) ?_
            simp only [Act.put, List.setIfInBounds_toArray, List.set_cons_zero, List.set_cons_succ]
            refine WL.val (by kernel_rfl) (.bool false) (by go_simp) ?_
            simp only [Act.put, List.setIfInBounds_toArray, List.set_cons_zero, List.set_cons_succ]
            refine WL.skip (by kernel_rfl) ?_
            simp only [Act.put, List.setIfInBounds_toArray, List.set_cons_zero, List.set_cons_succ]
            refine WL.skip (by kernel_rfl) ?_
            simp only [Act.put, List.setIfInBounds_toArray, List.set_cons_zero, List.set_cons_succ]
            refine WL.skip (by kernel_rfl) ?_
            simp only [Act.put, List.setIfInBounds_toArray, List.set_cons_zero, List.set_cons_succ]
            refine WL.val (by kernel_rfl) (.bool false) (by go_simp) ?_
            simp only [Act.put, List.setIfInBounds_toArray, List.set_cons_zero, List.set_cons_succ]
            refine WL.nil ?_
            refine hK31 _ _ ?_
            refine wp_cond_false rfl ?_
            refine wp_skip ?_
            refine hK30 _ _ ?_
            have HXz := HX8
            have HGz := HG8
            have HOz := HO8
            refine wp_region_list (WL.out ?_)
            refine WL.val (by kernel_rfl) (.slice oa vs.length oc) (by go_simp) ?_
            simp only [Act.put, List.setIfInBounds_toArray, List.set_cons_zero, List.set_cons_succ]
            refine WL.val (by kernel_rfl) (.slice xa X.length xc) (by go_simp) ?_
            simp only [Act.put, List.setIfInBounds_toArray, List.set_cons_zero, List.set_cons_succ]
            refine WL.bs (by kernel_rfl) 26 1 _ rfl #[(0, .slice xa X.length xc)] (by simp [Act.eval]) _ _ (bsR xa X.length xc w8) ?_
            have HB11 := Keep.mk (Blk.new w8 25 #[.slice xa X.length xc])
            have B11 := Keep.mk (below_new w8 (.cells #[.slice xa X.length xc] 25))
            generalize w8.alloc (.cells #[.slice xa X.length xc] 25) = w11 at *
            simp only [Act.put, List.setIfInBounds_toArray, List.set_cons_zero, List.set_cons_succ]
            refine WL.appR (by kernel_rfl) (.tmp 64) (.tmp 66) rfl (.slice oa vs.length oc) vs w8.heap.size (.slice xa X.length xc) rfl rfl rfl (HOz.out.below B11.out) HB11.out (by have := JL.out; omega) ?_
            intro v4 w12 h1 h2 h3
            have HOy := Keep.mk h1
            have HGy : Keep (Grown w w12 fun k => k = x) := ⟨(HGz.out.trans (Grown.below B11.out)).next h2 (fun k hk e => absurd (JN.out k e) (by omega))⟩
            have HXy := Keep.mk ((HXz.out.below B11.out).keep h2 (fun e => (HOz.out.below B11.out).ne (HXz.out.below B11.out).blk (by decide) e) (fun k hk e => absurd (JN.out k e) (by have := JG0.out; omega)))
            have HNy : Keep (∀ k, v4.ownBlock = some k → w.heap.size ≤ k) := ⟨fun k hk => by
              rcases h3 with e | ⟨j, e, hj⟩
              · rw [e] at hk; exact JN.out k hk
              · rw [e] at hk; injection hk with hk; have := HGz.out.size; have := B11.out.size; omega⟩
            clear h1 h2 h3
            simp only [Act.put, List.setIfInBounds_toArray, List.set_cons_zero, List.set_cons_succ]
            refine WL.val (by kernel_rfl) (v4) (by go_simp) ?_
            simp only [Act.put, List.setIfInBounds_toArray, List.set_cons_zero, List.set_cons_succ]
            refine WL.nil ?_
            refine hK27 _ _ ?_
            refine wp_region_list (WL.out ?_)
            refine WL.val (by kernel_rfl) (.int .i64 (t : Int)) (by go_simp) ?_
            simp only [Act.put, List.setIfInBounds_toArray, List.set_cons_zero, List.set_cons_succ]
            refine WL.val (by kernel_rfl) (.int .i64 ((t : Int) + 1)) (by go_simp) ?_
            simp only [Act.put, List.setIfInBounds_toArray, List.set_cons_zero, List.set_cons_succ]
            refine WL.val (by kernel_rfl) (.int .i64 ((t : Int) + 1)) (by go_simp) ?_
            simp only [Act.put, List.setIfInBounds_toArray, List.set_cons_zero, List.set_cons_succ]
            refine WL.nil ?_
            have hbk : R = (W1, at_ + N1, []) := by rw [JR.out, if_pos (by simp [h11_2])]; simp [h11_2]
            refine ⟨⟨t + 1, .int .i64 (at_ : Int), v4, .slice xa X.length xc, .pointer (some ⟨g9, 0, none⟩), .int .i64 (t : Int), .int .u64 (n : Int), .int .i64 (n : Int), .bool true, .bool true, .pointer (some ⟨x, 0, none⟩), .pointer (some ⟨x, 0, none⟩), .pointer (some ⟨x, 2, none⟩), .pointer (some ⟨x, 2, none⟩), .int .i64 0, .bool true, .bool true, .int .i64 (t : Int), .int .i64 ((t : Int) + 1), .pointer (some ⟨x, 0, none⟩), .pointer (some ⟨x, 0, none⟩), .pointer (some ⟨x, 1, none⟩), .int .i64 (at_ : Int), .tuple #[.slice xa X.length xc, .agg (erA W1 (bOf W1 (at_ + N1)))], .pointer (some ⟨x, 0, none⟩), .tuple #[.slice xa X.length xc, .agg (erA W1 (bOf W1 (at_ + N1)))], .slice xa X.length xc, .agg (erA W1 (bOf W1 (at_ + N1))), .pointer (some ⟨g9, 0, none⟩), .int .i64 W1, .bool false, .bool false, undef, undef, undef, .bool false, u61, u62, u63, .slice oa vs.length oc, .slice xa X.length xc, .slice (some ⟨w8.heap.size, 0, none⟩) 1 1, v4, rfl, by omega, W1, at_ + N1, vs ++ [.slice xa X.length xc], [], HXy.out, HGy.out, HOy.out, HNy.out, by rw [List.length_append]; simp [JL.out], .inr ⟨h11_2, by rw [hbk], by rw [hbk]⟩⟩, ?_⟩
            simp only [intOf]; show n - ((t : Int) + 1).toNat < n - ((t : Int)).toNat; omega
        · skip
          refine wp_seq_k fun K32 hK32 => ?_
          refine wp_seq_k fun K33 hK33 => ?_
          refine wp_region_list (WL.out ?_)
          refine WL.val (by kernel_rfl) (.int .i64 (t : Int)) (by go_simp) ?_
          simp only [Act.put, List.setIfInBounds_toArray, List.set_cons_zero, List.set_cons_succ]
          refine WL.val (by kernel_rfl) (.int .u64 (n : Int)) (by go_simp) ?_
          simp only [Act.put, List.setIfInBounds_toArray, List.set_cons_zero, List.set_cons_succ]
          refine WL.val (by kernel_rfl) (.int .i64 (n : Int)) (by go_simp) ?_
          simp only [Act.put, List.setIfInBounds_toArray, List.set_cons_zero, List.set_cons_succ]
          refine WL.val (by kernel_rfl) (.bool true) (by go_simp) ?_
          simp only [Act.put, List.setIfInBounds_toArray, List.set_cons_zero, List.set_cons_succ]
          refine WL.val (by kernel_rfl) (.bool true) (by go_simp) ?_
          simp only [Act.put, List.setIfInBounds_toArray, List.set_cons_zero, List.set_cons_succ]
          refine WL.val (by kernel_rfl) (.pointer (some ⟨x, 0, none⟩)) (by go_simp) ?_
          simp only [Act.put, List.setIfInBounds_toArray, List.set_cons_zero, List.set_cons_succ]
          refine WL.val (by kernel_rfl) (.pointer (some ⟨x, 0, none⟩)) (by go_simp) ?_
          simp only [Act.put, List.setIfInBounds_toArray, List.set_cons_zero, List.set_cons_succ]
          refine WL.val (by kernel_rfl) (.pointer (some ⟨x, 2, none⟩)) (by go_simp) ?_
          simp only [Act.put, List.setIfInBounds_toArray, List.set_cons_zero, List.set_cons_succ]
          refine WL.val (by kernel_rfl) (.pointer (some ⟨x, 2, none⟩)) (by go_simp) ?_
          simp only [Act.put, List.setIfInBounds_toArray, List.set_cons_zero, List.set_cons_succ]
          refine WL.val (by kernel_rfl) (.int .i64 why) (by go_simp) ?_
          simp only [Act.put, List.setIfInBounds_toArray, List.set_cons_zero, List.set_cons_succ]
          refine WL.val (by kernel_rfl) (.bool false) (by go_simp) ?_
          simp only [Act.put, List.setIfInBounds_toArray, List.set_cons_zero, List.set_cons_succ]
          refine WL.val (by kernel_rfl) (.bool false) (by go_simp) ?_
          simp only [Act.put, List.setIfInBounds_toArray, List.set_cons_zero, List.set_cons_succ]
          refine WL.nil ?_
          refine hK33 _ _ ?_
          refine wp_cond_false rfl ?_
          refine wp_exit ?_
          refine hK23 _ _ ?_
          refine wp_seq_k fun K34 hK34 => ?_
          refine wp_region_list (WL.out ?_)
          refine WL.val (by kernel_rfl) (.slice oa vs.length oc) (by go_simp) ?_
          simp only [Act.put, List.setIfInBounds_toArray, List.set_cons_zero, List.set_cons_succ]
          refine WL.val (by kernel_rfl) (.slice oa vs.length oc) (by go_simp) ?_
          simp only [Act.put, List.setIfInBounds_toArray, List.set_cons_zero, List.set_cons_succ]
          refine WL.nil ?_
          refine hK34 _ _ ?_
          refine wp_ret ?_
          go_ret
          refine ⟨_, rfl, ?_, JG.out, vs, JO.out, JN.out, ?_⟩
          · rcases JC.out with ⟨h1, _⟩ | ⟨_, h1, h2⟩
            · exact absurd h1 hy
            · rw [h1, h2]; exact JX.out
          · intro h
            rcases JC.out with ⟨h1, _⟩ | ⟨_, h1, h2⟩
            · exact absurd h1 hy
            · exact absurd (h1.symm.trans h) hy
      · have hte : Keep (t = n) := ⟨by omega⟩
        have hlt' : ¬ (t : Int) < (n : Int) := by omega
        refine wp_seq_k fun K35 hK35 => ?_
        refine wp_seq_k fun K36 hK36 => ?_
        refine wp_region_list (WL.out ?_)
        refine WL.val (by kernel_rfl) (.int .i64 (t : Int)) (by go_simp) ?_
        simp only [Act.put, List.setIfInBounds_toArray, List.set_cons_zero, List.set_cons_succ]
        refine WL.val (by kernel_rfl) (.int .u64 (n : Int)) (by go_simp) ?_
        simp only [Act.put, List.setIfInBounds_toArray, List.set_cons_zero, List.set_cons_succ]
        refine WL.val (by kernel_rfl) (.int .i64 (n : Int)) (by go_simp) ?_
        simp only [Act.put, List.setIfInBounds_toArray, List.set_cons_zero, List.set_cons_succ]
        refine WL.val (by kernel_rfl) (.bool false) (by go_simp) ?_
        simp only [Act.put, List.setIfInBounds_toArray, List.set_cons_zero, List.set_cons_succ]
        refine WL.val (by kernel_rfl) (.bool false) (by go_simp) ?_
        simp only [Act.put, List.setIfInBounds_toArray, List.set_cons_zero, List.set_cons_succ]
        refine WL.skip (by kernel_rfl) ?_
        simp only [Act.put, List.setIfInBounds_toArray, List.set_cons_zero, List.set_cons_succ]
        refine WL.skip (by kernel_rfl) ?_
        simp only [Act.put, List.setIfInBounds_toArray, List.set_cons_zero, List.set_cons_succ]
        refine WL.skip (by kernel_rfl) ?_
        simp only [Act.put, List.setIfInBounds_toArray, List.set_cons_zero, List.set_cons_succ]
        refine WL.skip (by kernel_rfl) ?_
        simp only [Act.put, List.setIfInBounds_toArray, List.set_cons_zero, List.set_cons_succ]
        refine WL.skip (by kernel_rfl) ?_
        simp only [Act.put, List.setIfInBounds_toArray, List.set_cons_zero, List.set_cons_succ]
        refine WL.skip (by kernel_rfl) ?_
        simp only [Act.put, List.setIfInBounds_toArray, List.set_cons_zero, List.set_cons_succ]
        refine WL.val (by kernel_rfl) (.bool false) (by go_simp) ?_
        simp only [Act.put, List.setIfInBounds_toArray, List.set_cons_zero, List.set_cons_succ]
        refine WL.nil ?_
        refine hK36 _ _ ?_
        refine wp_cond_false rfl ?_
        refine wp_exit ?_
        refine hK23 _ _ ?_
        refine wp_seq_k fun K37 hK37 => ?_
        refine wp_region_list (WL.out ?_)
        refine WL.val (by kernel_rfl) (.slice oa vs.length oc) (by go_simp) ?_
        simp only [Act.put, List.setIfInBounds_toArray, List.set_cons_zero, List.set_cons_succ]
        refine WL.val (by kernel_rfl) (.slice oa vs.length oc) (by go_simp) ?_
        simp only [Act.put, List.setIfInBounds_toArray, List.set_cons_zero, List.set_cons_succ]
        refine WL.nil ?_
        refine hK37 _ _ ?_
        refine wp_ret ?_
        go_ret
        refine ⟨_, rfl, ?_, JG.out, vs, JO.out, JN.out, ?_⟩
        · rcases JC.out with ⟨h1, h2, _⟩ | ⟨_, h1, h2⟩
          · rw [hte.out, Nat.sub_self, bkG] at h2
            rw [h2]; have h := JX.out; rw [h1] at h; exact h
          · rw [h1, h2]; exact JX.out
        · intro h
          rcases JC.out with ⟨h1, h2, h5⟩ | ⟨h3, h1, h2⟩
          · rw [hte.out, Nat.sub_self, bkG] at h2
            rw [h2]; exact h5
          · exact absurd (h1.symm.trans h) h3
  · skip
    refine WL.val (by kernel_rfl) (.bool false) (by go_simp) ?_
    simp only [Act.put, List.setIfInBounds_toArray, List.set_cons_zero, List.set_cons_succ]
    refine WL.val (by kernel_rfl) (.bool false) (by go_simp) ?_
    simp only [Act.put, List.setIfInBounds_toArray, List.set_cons_zero, List.set_cons_succ]
    refine WL.skip (by kernel_rfl) ?_
    simp only [Act.put, List.setIfInBounds_toArray, List.set_cons_zero, List.set_cons_succ]
    refine WL.skip (by kernel_rfl) ?_
    simp only [Act.put, List.setIfInBounds_toArray, List.set_cons_zero, List.set_cons_succ]
    refine WL.val (by kernel_rfl) (.bool false) (by go_simp) ?_
    simp only [Act.put, List.setIfInBounds_toArray, List.set_cons_zero, List.set_cons_succ]
    refine WL.nil ?_
    refine hK5 _ _ ?_
    refine wp_cond_false rfl ?_
    refine wp_skip ?_
    refine hK4 _ _ ?_
    refine wp_seq_k fun K38 hK38 => ?_
    have HRi := Keep.mk (HR0.out.1 (by assumption))
    refine wp_region_list (WL.out ?_)
    refine WL.bs (by kernel_rfl) 26 0 _ rfl #[] (by simp) _ _ (bsRE w2) ?_
    have HO3 := Keep.mk (ownR_empty w2)
    have HN3 : Keep (∀ k, (Value.slice (some ⟨w2.heap.size, 0, none⟩) 0 0).ownBlock = some k → w.heap.size ≤ k) := ⟨fun k hk => by simp [Value.ownBlock] at hk; have := HG2.out.size; omega⟩
    have HX3 := Keep.mk (HX2.out.below (below_new w2 (.cells #[] 25)))
    have HG3 : Keep (Grown w (w2.alloc (.cells #[] 25)) fun k => k = x) := ⟨HG2.out.trans (Grown.below (below_new w2 _))⟩
    generalize w2.alloc (.cells #[] 25) = w3 at *
    generalize Value.slice (some ⟨w2.heap.size, 0, none⟩) 0 0 = v3 at *
    have hzr : RowsZ w.heap.size w3 v3 [] [] := ⟨rfl, fun i hi => by simp at hi⟩
    simp only [Act.put, List.setIfInBounds_toArray, List.set_cons_zero, List.set_cons_succ]
    refine WL.val (by kernel_rfl) (v3) (by go_simp) ?_
    simp only [Act.put, List.setIfInBounds_toArray, List.set_cons_zero, List.set_cons_succ]
    refine WL.nil ?_
    refine hK38 _ _ ?_
    refine wp_seq_k fun K39 hK39 => ?_
    refine wp_seq_k fun K40 hK40 => ?_
    refine wp_region_list (WL.out ?_)
    refine WL.val (by kernel_rfl) (.int .i64 0) (by go_simp) ?_
    simp only [Act.put, List.setIfInBounds_toArray, List.set_cons_zero, List.set_cons_succ]
    refine WL.nil ?_
    refine hK40 _ _ ?_
    refine wp_block ?_
    refine wp_loop (fun ac wr => ∃ (t : Nat) (u3 u6 u8 u9 u30 u31 u32 u33 u34 u35 u36 u37 u38 u39 u40 u41 u42 u43 u44 u45 u46 u47 u48 u49 u50 u51 u52 u53 u54 u55 u56 u57 u58 u59 u60 u61 u62 u63 u64 u65 u66 u67 : Value), ac = { tmps := #[.pointer (some ⟨x, 0, none⟩), undef, .slice none 0 0, u3, .int .u64 (n : Int), .pointer (some ⟨g5, 0, none⟩), u6, .int .i64 (t : Int), u8, u9, .pointer (some ⟨x, 0, none⟩), .pointer (some ⟨x, 0, none⟩), .pointer (some ⟨x, 1, none⟩), .int .i64 (a : Int), .tuple #[.int .u64 (n : Int), .agg (erA W (bOf W (a + N)))], .pointer (some ⟨x, 0, none⟩), .tuple #[.int .u64 (n : Int), .agg (erA W (bOf W (a + N)))], .int .u64 (n : Int), .agg (erA W (bOf W (a + N))), .pointer (some ⟨g5, 0, none⟩), .int .i64 W, .bool false, .bool false, undef, undef, .bool false, undef, undef, undef, v3, u30, u31, u32, u33, u34, u35, u36, u37, u38, u39, u40, u41, u42, u43, u44, u45, u46, u47, u48, u49, u50, u51, u52, u53, u54, u55, u56, u57, u58, u59, u60, u61, u62, u63, u64, u65, u66, u67, undef], defers := [] } ∧ t ≤ n ∧ ∃ why at_ vs ls, RX w0 x vB L why at_ wr ∧ (Grown w wr fun k => k = x) ∧ OwnR wr u6 vs ∧ (∀ k, u6.ownBlock = some k → w.heap.size ≤ k) ∧ vs.length = t ∧ ((why = 0 ∧ R = bkG L (n - t) ls at_ ∧ RowsZ w.heap.size wr u6 vs ls) ∨ (why ≠ 0 ∧ R.1 = why ∧ R.2.1 = at_))) (fun a _ => n - (intOf (a.tmps.getD 7 undef)).toNat) ⟨0, .int .i64 (a : Int), v3, undef, undef, undef, undef, undef, undef, undef, undef, undef, undef, undef, undef, undef, undef, undef, undef, undef, undef, undef, undef, undef, undef, undef, undef, undef, undef, undef, undef, undef, undef, undef, undef, undef, undef, undef, undef, undef, undef, undef, undef, rfl, by omega, W, a + N, [], [], HX3.out, HG3.out, HO3.out, HN3.out, rfl, .inr HRi.out⟩ ?_
    rintro ac wr ⟨t, u3, u6, u8, u9, u30, u31, u32, u33, u34, u35, u36, u37, u38, u39, u40, u41, u42, u43, u44, u45, u46, u47, u48, u49, u50, u51, u52, u53, u54, u55, u56, u57, u58, u59, u60, u61, u62, u63, u64, u65, u66, u67, rfl, ht, why, at_, vs, ls, hX, hG, hO, hN, hLn, hC⟩
    obtain ⟨oa, oc, rfl⟩ := hO.sl
    have JX := Keep.mk hX
    have JG := Keep.mk hG
    have JO := Keep.mk hO
    have JN := Keep.mk hN
    have JL := Keep.mk hLn
    have JC := Keep.mk hC
    clear hX hG hO hN hLn hC
    have hcv : IntKind.i64.wrap (n : Int) = (n : Int) := by rw [IntKind.wrap_i64]; omega
    by_cases hlt : t < n
    · have hlt' : (t : Int) < (n : Int) := by omega
      have hwt : IntKind.i64.wrap ((t : Int) + 1) = (t : Int) + 1 := by rw [IntKind.wrap_i64]; omega
      have k2 := JX.out.c2
      by_cases hy : why = 0
      · subst hy
        have k1 := JX.out.c1
        have JR : Keep (R = bkG L (n - t) ls at_ ∧ RowsZ w.heap.size wr (.slice oa vs.length oc) vs ls) := ⟨by rcases JC.out with ⟨_, h⟩ | ⟨h, _⟩; exact h; exact absurd rfl h⟩
        clear JC
        have JZ := Keep.mk JR.out.2
        replace JR := Keep.mk JR.out.1
        obtain ⟨k1', hk1⟩ : ∃ k1, n - t = k1 + 1 := ⟨n - t - 1, by omega⟩
        rw [hk1, bkG] at JR
        have hk2 : k1' = n - (t + 1) := by omega
        rw [hk2] at JR
        clear hk1 hk2 k1'
        have HC0 := Keep.mk (xbytes_x 1048576 (by decide) JX.out)
        unfold stByt at HC0
        rw [if_pos rfl] at HC0
        unfold bk1 at JR
        obtain ⟨B, hB⟩ : ∃ B, B = byt (L.drop at_) 1048576 := ⟨_, rfl⟩
        rw [show ((1048576 : Nat) : Int) = 1048576 from rfl, ← hB] at HC0
        rw [← hB] at JR
        clear hB
        obtain ⟨W1, N1, X⟩ := B
        simp only at HC0 JR
        refine wp_seq_k fun K41 hK41 => ?_
        refine wp_seq_k fun K42 hK42 => ?_
        refine wp_region_list (WL.out ?_)
        refine WL.val (by kernel_rfl) (.int .i64 (t : Int)) (by go_simp) ?_
        simp only [Act.put, List.setIfInBounds_toArray, List.set_cons_zero, List.set_cons_succ]
        refine WL.val (by kernel_rfl) (.int .u64 (n : Int)) (by go_simp) ?_
        simp only [Act.put, List.setIfInBounds_toArray, List.set_cons_zero, List.set_cons_succ]
        refine WL.val (by kernel_rfl) (.int .i64 (n : Int)) (by go_simp) ?_
        simp only [Act.put, List.setIfInBounds_toArray, List.set_cons_zero, List.set_cons_succ]
        refine WL.val (by kernel_rfl) (.bool true) (by go_simp) ?_
        simp only [Act.put, List.setIfInBounds_toArray, List.set_cons_zero, List.set_cons_succ]
        refine WL.val (by kernel_rfl) (.bool true) (by go_simp) ?_
        simp only [Act.put, List.setIfInBounds_toArray, List.set_cons_zero, List.set_cons_succ]
        refine WL.val (by kernel_rfl) (.pointer (some ⟨x, 0, none⟩)) (by go_simp) ?_
        simp only [Act.put, List.setIfInBounds_toArray, List.set_cons_zero, List.set_cons_succ]
        refine WL.val (by kernel_rfl) (.pointer (some ⟨x, 0, none⟩)) (by go_simp) ?_
        simp only [Act.put, List.setIfInBounds_toArray, List.set_cons_zero, List.set_cons_succ]
        refine WL.val (by kernel_rfl) (.pointer (some ⟨x, 2, none⟩)) (by go_simp) ?_
        simp only [Act.put, List.setIfInBounds_toArray, List.set_cons_zero, List.set_cons_succ]
        refine WL.val (by kernel_rfl) (.pointer (some ⟨x, 2, none⟩)) (by go_simp) ?_
        simp only [Act.put, List.setIfInBounds_toArray, List.set_cons_zero, List.set_cons_succ]
        refine WL.val (by kernel_rfl) (.int .i64 0) (by go_simp) ?_
        simp only [Act.put, List.setIfInBounds_toArray, List.set_cons_zero, List.set_cons_succ]
        refine WL.val (by kernel_rfl) (.bool true) (by go_simp) ?_
        simp only [Act.put, List.setIfInBounds_toArray, List.set_cons_zero, List.set_cons_succ]
        refine WL.val (by kernel_rfl) (.bool true) (by go_simp) ?_
        simp only [Act.put, List.setIfInBounds_toArray, List.set_cons_zero, List.set_cons_succ]
        refine WL.nil ?_
        refine hK42 _ _ ?_
        refine wp_cond_true rfl ?_
        refine wp_skip ?_
        refine hK41 _ _ ?_
        refine wp_seq_k fun K43 hK43 => ?_
        refine wp_block ?_
        refine wp_seq_k fun K44 hK44 => ?_
        refine wp_region_list (WL.out ?_)
        refine WL.val (by kernel_rfl) (.pointer (some ⟨x, 0, none⟩)) (by go_simp) ?_
        simp only [Act.put, List.setIfInBounds_toArray, List.set_cons_zero, List.set_cons_succ]
        refine WL.val (by kernel_rfl) (.pointer (some ⟨x, 0, none⟩)) (by go_simp) ?_
        simp only [Act.put, List.setIfInBounds_toArray, List.set_cons_zero, List.set_cons_succ]
        refine WL.val (by kernel_rfl) (.pointer (some ⟨x, 1, none⟩)) (by go_simp) ?_
        simp only [Act.put, List.setIfInBounds_toArray, List.set_cons_zero, List.set_cons_succ]
        refine WL.val (by kernel_rfl) (.int .i64 (at_ : Int)) (by go_simp) ?_
        simp only [Act.put, List.setIfInBounds_toArray, List.set_cons_zero, List.set_cons_succ]
        refine WL.val (by kernel_rfl) (.int .i64 (at_ : Int)) (by go_simp) ?_
        simp only [Act.put, List.setIfInBounds_toArray, List.set_cons_zero, List.set_cons_succ]
        refine WL.nil ?_
        refine hK44 _ _ ?_
        refine wp_seq_k fun K45 hK45 => ?_
        refine wp_region_list (WL.out ?_)
        refine WL.val (by kernel_rfl) (.pointer (some ⟨x, 0, none⟩)) (by go_simp) ?_
        simp only [Act.put, List.setIfInBounds_toArray, List.set_cons_zero, List.set_cons_succ]
        refine WL.callF (by kernel_rfl) 41 _ _ rfl Try.in41 #[ptr x, .int .i64 1048576] (by simp [Act.eval]) ?_
        refine (HC0.out).mono ?_
        rintro e w1 ⟨xa, xc, rfl, h1, h2, h3, h4⟩
        refine ⟨_, rfl, ?_⟩
        have HX4 := Keep.mk h1
        have HG4 : Keep (Grown w w1 fun k => k = x) := ⟨JG.out.trans h2⟩
        have HO4 := Keep.mk (JO.out.grown h2 (fun k hk e => JO.out.ne JX.out.blk (by decide) (e ▸ hk)))
        have HR4 := Keep.mk h3
        have HF4 := Keep.mk h4
        have HZ4 := Keep.mk (JZ.out.step h2 (fun k hk _ _ e => by have := Hxlt.out; omega) (.inl rfl))
        have hlt4 := JO.out.lt
        have HL4 := Keep.mk hlt4
        clear h1 h2 h3 h4 hlt4 k1 k2 HC0
        simp only [Act.put, List.setIfInBounds_toArray, List.set_cons_zero, List.set_cons_succ]
        refine WL.val (by kernel_rfl) (.tuple #[.slice xa X.length xc, .agg (erA W1 (bOf W1 (at_ + N1)))]) (by go_simp) ?_
        simp only [Act.put, List.setIfInBounds_toArray, List.set_cons_zero, List.set_cons_succ]
        refine WL.val (by kernel_rfl) (.slice xa X.length xc) (by go_simp) ?_
        simp only [Act.put, List.setIfInBounds_toArray, List.set_cons_zero, List.set_cons_succ]
        refine WL.val (by kernel_rfl) (.agg (erA W1 (bOf W1 (at_ + N1)))) (by go_simp) ?_
        simp only [Act.put, List.setIfInBounds_toArray, List.set_cons_zero, List.set_cons_succ]
        refine WL.new (by kernel_rfl) 41 rfl _ Try.new41E ?_
        have HNg9 := Keep.mk (Blk.new w1 41 (erA 0 0))
        have BNg9 := Keep.mk (below_new w1 (.cells (erA 0 0) 41))
        generalize w1.alloc (.cells (erA 0 0) 41) = w8a at *
        simp only [Act.put, List.setIfInBounds_toArray, List.set_cons_zero, List.set_cons_succ]
        refine WL.val (by kernel_rfl) (.slice xa X.length xc) (by go_simp) ?_
        simp only [Act.put, List.setIfInBounds_toArray, List.set_cons_zero, List.set_cons_succ]
        refine WL.storeR (by kernel_rfl) 41 (.tmp 9) (.tmp 52) rfl w1.heap.size (erA W1 (bOf W1 (at_ + N1))) rfl rfl 41 (erA 0 0) HNg9.out (Try.size41B _ _) (erA_sizes _ _ _ _) (erA_one _ _) ?_
        have HMg9 := Keep.mk (HNg9.out.setRow (erA W1 (bOf W1 (at_ + N1))))
        have Bmg9 : Keep (Below w1.heap.size w1 (w8a.setRow w1.heap.size (erA W1 (bOf W1 (at_ + N1))))) := ⟨below_setRow BNg9.out (Nat.le_refl _) _⟩
        generalize w8a.setRow w1.heap.size (erA W1 (bOf W1 (at_ + N1))) = w8 at *
        generalize w1.heap.size = g9 at HMg9 ⊢
        clear HNg9 BNg9
        have HX8 := Keep.mk (HX4.out.below Bmg9.out)
        have HG8 : Keep (Grown w w8 fun k => k = x) := ⟨HG4.out.trans (Grown.below Bmg9.out)⟩
        have HO8 := Keep.mk (HO4.out.below Bmg9.out)
        have HR8 := Keep.mk (HR4.out.below Bmg9.out)
        have HZ8 := Keep.mk (HZ4.out.step (S := fun _ => False) (Grown.below Bmg9.out) (fun _ _ _ _ h => h) (.inl rfl))
        have ee0 : w8.cell? ⟨g9, 0, none⟩ = some (.int .i64 W1) := HMg9.out.c 0 rfl
        simp only [Act.put]
        refine WL.nil ?_
        refine hK45 _ _ ?_
        refine wp_seq_k fun K46 hK46 => ?_
        refine wp_seq_k fun K47 hK47 => ?_
        refine wp_region_list (WL.out ?_)
        refine WL.val (by kernel_rfl) (.pointer (some ⟨g9, 0, none⟩)) (by go_simp) ?_
        simp only [Act.put, List.setIfInBounds_toArray, List.set_cons_zero, List.set_cons_succ]
        refine WL.val (by kernel_rfl) (.int .i64 W1) (by go_simp) ?_
        simp only [Act.put, List.setIfInBounds_toArray, List.set_cons_zero, List.set_cons_succ]
        by_cases h11_2 : W1 = 0
        · skip
          refine WL.val (by kernel_rfl) (.bool true) (by go_simp) ?_
          simp only [Act.put, List.setIfInBounds_toArray, List.set_cons_zero, List.set_cons_succ]
          refine WL.val (by kernel_rfl) (.bool true) (by go_simp) ?_
          simp only [Act.put, List.setIfInBounds_toArray, List.set_cons_zero, List.set_cons_succ]
          refine WL.val (by kernel_rfl) (.slice xa X.length xc) (by go_simp) ?_
          simp only [Act.put, List.setIfInBounds_toArray, List.set_cons_zero, List.set_cons_succ]
          refine WL.val (by kernel_rfl) (.int .i64 (X.length : Int)) (by go_simp) ?_
          simp only [Act.put, List.setIfInBounds_toArray, List.set_cons_zero, List.set_cons_succ]
          by_cases h11_6 : X.length = 0
          · have h11_6' : (X.length : Int) = 0 := by omega
            refine WL.val (by kernel_rfl) (.bool true) (by go_simp) ?_
            simp only [Act.put, List.setIfInBounds_toArray, List.set_cons_zero, List.set_cons_succ]
            refine WL.val (by kernel_rfl) (.bool true) (by go_simp) ?_
            simp only [Act.put, List.setIfInBounds_toArray, List.set_cons_zero, List.set_cons_succ]
            refine WL.nil ?_
            refine hK47 _ _ ?_
            refine wp_cond_true rfl ?_
            refine wp_region_list (WL.out ?_)
            refine WL.val (by kernel_rfl) (.pointer (some ⟨x, 0, none⟩)) (by go_simp) ?_
            simp only [Act.put, List.setIfInBounds_toArray, List.set_cons_zero, List.set_cons_succ]
            refine WL.val (by kernel_rfl) (.int .i64 (at_ : Int)) (by go_simp) ?_
            simp only [Act.put, List.setIfInBounds_toArray, List.set_cons_zero, List.set_cons_succ]
            refine WL.callF (by kernel_rfl) 38 _ _ rfl Try.in38 #[ptr x, .int .i64 4, .int .i64 (at_ : Int)] (by simp [Act.eval]) ?_
            refine (xwrong_x at_ 4 (by decide) JX.out.le (by have h := HX8.out; rw [h11_2] at h; exact h)).mono ?_
            rintro e w10 ⟨rfl, h1, h2⟩
            refine ⟨_, rfl, ?_⟩
            have HXz := Keep.mk h1
            have HGz : Keep (Grown w w10 fun k => k = x) := ⟨HG8.out.trans h2⟩
            have HOz := Keep.mk (HO8.out.grown h2 (fun k hk e => HO8.out.ne HX8.out.blk (by decide) (e ▸ hk)))
            clear h1 h2
            simp only [Act.put, List.setIfInBounds_toArray, List.set_cons_zero, List.set_cons_succ]
            refine WL.nil ?_
            refine hK46 _ _ ?_
            refine wp_region_list (WL.out ?_)
            refine WL.val (by kernel_rfl) (.slice oa vs.length oc) (by go_simp) ?_
            simp only [Act.put, List.setIfInBounds_toArray, List.set_cons_zero, List.set_cons_succ]
            refine WL.val (by kernel_rfl) (.slice xa X.length xc) (by go_simp) ?_
            simp only [Act.put, List.setIfInBounds_toArray, List.set_cons_zero, List.set_cons_succ]
            refine WL.bs (by kernel_rfl) 26 1 _ rfl #[(0, .slice xa X.length xc)] (by simp [Act.eval]) _ _ (bsR xa X.length xc w10) ?_
            have HB11 := Keep.mk (Blk.new w10 25 #[.slice xa X.length xc])
            have B11 := Keep.mk (below_new w10 (.cells #[.slice xa X.length xc] 25))
            generalize w10.alloc (.cells #[.slice xa X.length xc] 25) = w11 at *
            simp only [Act.put, List.setIfInBounds_toArray, List.set_cons_zero, List.set_cons_succ]
            refine WL.appR (by kernel_rfl) (.tmp 64) (.tmp 66) rfl (.slice oa vs.length oc) vs w10.heap.size (.slice xa X.length xc) rfl rfl rfl (HOz.out.below B11.out) HB11.out (by have := JL.out; omega) ?_
            intro v4 w12 h1 h2 h3
            have HOy := Keep.mk h1
            have HGy : Keep (Grown w w12 fun k => k = x) := ⟨(HGz.out.trans (Grown.below B11.out)).next h2 (fun k hk e => absurd (JN.out k e) (by omega))⟩
            have HXy := Keep.mk ((HXz.out.below B11.out).keep h2 (fun e => (HOz.out.below B11.out).ne (HXz.out.below B11.out).blk (by decide) e) (fun k hk e => absurd (JN.out k e) (by have := JG0.out; omega)))
            have HNy : Keep (∀ k, v4.ownBlock = some k → w.heap.size ≤ k) := ⟨fun k hk => by
              rcases h3 with e | ⟨j, e, hj⟩
              · rw [e] at hk; exact JN.out k hk
              · rw [e] at hk; injection hk with hk; have := HGz.out.size; have := B11.out.size; omega⟩
            clear h1 h2 h3
            simp only [Act.put, List.setIfInBounds_toArray, List.set_cons_zero, List.set_cons_succ]
            refine WL.val (by kernel_rfl) (v4) (by go_simp) ?_
            simp only [Act.put, List.setIfInBounds_toArray, List.set_cons_zero, List.set_cons_succ]
            refine WL.nil ?_
            refine hK43 _ _ ?_
            refine wp_region_list (WL.out ?_)
            refine WL.val (by kernel_rfl) (.int .i64 (t : Int)) (by go_simp) ?_
            simp only [Act.put, List.setIfInBounds_toArray, List.set_cons_zero, List.set_cons_succ]
            refine WL.val (by kernel_rfl) (.int .i64 ((t : Int) + 1)) (by go_simp) ?_
            simp only [Act.put, List.setIfInBounds_toArray, List.set_cons_zero, List.set_cons_succ]
            refine WL.val (by kernel_rfl) (.int .i64 ((t : Int) + 1)) (by go_simp) ?_
            simp only [Act.put, List.setIfInBounds_toArray, List.set_cons_zero, List.set_cons_succ]
            refine WL.nil ?_
            have hbk : R = (4, at_, []) := by rw [JR.out]; simp [h11_2, h11_6]
            refine ⟨⟨t + 1, .int .i64 (at_ : Int), v4, .slice xa X.length xc, .pointer (some ⟨g9, 0, none⟩), .int .i64 (t : Int), .int .u64 (n : Int), .int .i64 (n : Int), .bool true, .bool true, .pointer (some ⟨x, 0, none⟩), .pointer (some ⟨x, 0, none⟩), .pointer (some ⟨x, 2, none⟩), .pointer (some ⟨x, 2, none⟩), .int .i64 0, .bool true, .bool true, .int .i64 (t : Int), .int .i64 ((t : Int) + 1), .pointer (some ⟨x, 0, none⟩), .pointer (some ⟨x, 0, none⟩), .pointer (some ⟨x, 1, none⟩), .int .i64 (at_ : Int), .tuple #[.slice xa X.length xc, .agg (erA W1 (bOf W1 (at_ + N1)))], .pointer (some ⟨x, 0, none⟩), .tuple #[.slice xa X.length xc, .agg (erA W1 (bOf W1 (at_ + N1)))], .slice xa X.length xc, .agg (erA W1 (bOf W1 (at_ + N1))), .pointer (some ⟨g9, 0, none⟩), .int .i64 W1, .bool true, .bool true, .slice xa X.length xc, .int .i64 (X.length : Int), .bool true, .bool true, .pointer (some ⟨x, 0, none⟩), .int .i64 (at_ : Int), .agg (erA 4 (at_ : Int)), .slice oa vs.length oc, .slice xa X.length xc, .slice (some ⟨w10.heap.size, 0, none⟩) 1 1, v4, rfl, by omega, 4, at_, vs ++ [.slice xa X.length xc], [], HXy.out, HGy.out, HOy.out, HNy.out, by rw [List.length_append]; simp [JL.out], .inr ⟨by decide, by rw [hbk], by rw [hbk]⟩⟩, ?_⟩
            simp only [intOf]; show n - ((t : Int) + 1).toNat < n - ((t : Int)).toNat; omega
          · have h11_6' : ¬ (X.length : Int) = 0 := by omega
            refine WL.val (by kernel_rfl) (.bool false) (by go_simp) ?_
            simp only [Act.put, List.setIfInBounds_toArray, List.set_cons_zero, List.set_cons_succ]
            refine WL.val (by kernel_rfl) (.bool false) (by go_simp) ?_
            simp only [Act.put, List.setIfInBounds_toArray, List.set_cons_zero, List.set_cons_succ]
            refine WL.nil ?_
            refine hK47 _ _ ?_
            refine wp_cond_false rfl ?_
            refine wp_skip ?_
            refine hK46 _ _ ?_
            have HXz := HX8
            have HGz := HG8
            have HOz := HO8
            refine wp_region_list (WL.out ?_)
            refine WL.val (by kernel_rfl) (.slice oa vs.length oc) (by go_simp) ?_
            simp only [Act.put, List.setIfInBounds_toArray, List.set_cons_zero, List.set_cons_succ]
            refine WL.val (by kernel_rfl) (.slice xa X.length xc) (by go_simp) ?_
            simp only [Act.put, List.setIfInBounds_toArray, List.set_cons_zero, List.set_cons_succ]
            refine WL.bs (by kernel_rfl) 26 1 _ rfl #[(0, .slice xa X.length xc)] (by simp [Act.eval]) _ _ (bsR xa X.length xc w8) ?_
            have HB11 := Keep.mk (Blk.new w8 25 #[.slice xa X.length xc])
            have B11 := Keep.mk (below_new w8 (.cells #[.slice xa X.length xc] 25))
            generalize w8.alloc (.cells #[.slice xa X.length xc] 25) = w11 at *
            simp only [Act.put, List.setIfInBounds_toArray, List.set_cons_zero, List.set_cons_succ]
            refine WL.appR (by kernel_rfl) (.tmp 64) (.tmp 66) rfl (.slice oa vs.length oc) vs w8.heap.size (.slice xa X.length xc) rfl rfl rfl (HOz.out.below B11.out) HB11.out (by have := JL.out; omega) ?_
            intro v4 w12 h1 h2 h3
            have HOy := Keep.mk h1
            have HGy : Keep (Grown w w12 fun k => k = x) := ⟨(HGz.out.trans (Grown.below B11.out)).next h2 (fun k hk e => absurd (JN.out k e) (by omega))⟩
            have HXy := Keep.mk ((HXz.out.below B11.out).keep h2 (fun e => (HOz.out.below B11.out).ne (HXz.out.below B11.out).blk (by decide) e) (fun k hk e => absurd (JN.out k e) (by have := JG0.out; omega)))
            have HNy : Keep (∀ k, v4.ownBlock = some k → w.heap.size ≤ k) := ⟨fun k hk => by
              rcases h3 with e | ⟨j, e, hj⟩
              · rw [e] at hk; exact JN.out k hk
              · rw [e] at hk; injection hk with hk; have := HGz.out.size; have := B11.out.size; omega⟩
            have HZy : Keep (RowsZ w.heap.size w12 v4 (vs ++ [.slice xa X.length xc]) (ls ++ [X])) := ⟨by
              have hk0 : ∀ k, (Value.slice xa X.length xc).ownBlock = some k → w.heap.size ≤ k ∧ k < w8.heap.size ∧ (Value.slice oa vs.length oc).ownBlock ≠ some k := fun k hk => by
                have g1 := HF4.out k hk
                refine ⟨Nat.le_trans JG.out.size g1, row_lt HR8.out (by omega) hk, fun e => ?_⟩
                have := HL4.out k e
                omega
              have z0 := (HZ8.out.push HR8.out hk0).step (S := fun _ => False) (Grown.below B11.out) (fun _ _ _ _ h => h) (.inl rfl)
              exact z0.step h2 (fun k _ _ hne e => hne e) h3⟩
            clear h1 h2 h3
            simp only [Act.put, List.setIfInBounds_toArray, List.set_cons_zero, List.set_cons_succ]
            refine WL.val (by kernel_rfl) (v4) (by go_simp) ?_
            simp only [Act.put, List.setIfInBounds_toArray, List.set_cons_zero, List.set_cons_succ]
            refine WL.nil ?_
            refine hK43 _ _ ?_
            refine wp_region_list (WL.out ?_)
            refine WL.val (by kernel_rfl) (.int .i64 (t : Int)) (by go_simp) ?_
            simp only [Act.put, List.setIfInBounds_toArray, List.set_cons_zero, List.set_cons_succ]
            refine WL.val (by kernel_rfl) (.int .i64 ((t : Int) + 1)) (by go_simp) ?_
            simp only [Act.put, List.setIfInBounds_toArray, List.set_cons_zero, List.set_cons_succ]
            refine WL.val (by kernel_rfl) (.int .i64 ((t : Int) + 1)) (by go_simp) ?_
            simp only [Act.put, List.setIfInBounds_toArray, List.set_cons_zero, List.set_cons_succ]
            refine WL.nil ?_
            have hbk : R = bkG L (n - (t + 1)) (ls ++ [X]) (at_ + N1) := by rw [JR.out]; simp [h11_2, h11_6]
            refine ⟨⟨t + 1, .int .i64 (at_ : Int), v4, .slice xa X.length xc, .pointer (some ⟨g9, 0, none⟩), .int .i64 (t : Int), .int .u64 (n : Int), .int .i64 (n : Int), .bool true, .bool true, .pointer (some ⟨x, 0, none⟩), .pointer (some ⟨x, 0, none⟩), .pointer (some ⟨x, 2, none⟩), .pointer (some ⟨x, 2, none⟩), .int .i64 0, .bool true, .bool true, .int .i64 (t : Int), .int .i64 ((t : Int) + 1), .pointer (some ⟨x, 0, none⟩), .pointer (some ⟨x, 0, none⟩), .pointer (some ⟨x, 1, none⟩), .int .i64 (at_ : Int), .tuple #[.slice xa X.length xc, .agg (erA W1 (bOf W1 (at_ + N1)))], .pointer (some ⟨x, 0, none⟩), .tuple #[.slice xa X.length xc, .agg (erA W1 (bOf W1 (at_ + N1)))], .slice xa X.length xc, .agg (erA W1 (bOf W1 (at_ + N1))), .pointer (some ⟨g9, 0, none⟩), .int .i64 W1, .bool true, .bool true, .slice xa X.length xc, .int .i64 (X.length : Int), .bool false, .bool false, u61, u62, u63, .slice oa vs.length oc, .slice xa X.length xc, .slice (some ⟨w8.heap.size, 0, none⟩) 1 1, v4, rfl, by omega, W1, at_ + N1, vs ++ [.slice xa X.length xc], ls ++ [X], HXy.out, HGy.out, HOy.out, HNy.out, by rw [List.length_append]; simp [JL.out], .inl ⟨h11_2, hbk, HZy.out⟩⟩, ?_⟩
            simp only [intOf]; show n - ((t : Int) + 1).toNat < n - ((t : Int)).toNat; omega
        · skip
          refine WL.val (by kernel_rfl) (.bool false) (by go_simp) ?_
          simp only [Act.put, List.setIfInBounds_toArray, List.set_cons_zero, List.set_cons_succ]
          refine WL.val (by kernel_rfl) (.bool false) (by go_simp) ?_
          simp only [Act.put, List.setIfInBounds_toArray, List.set_cons_zero, List.set_cons_succ]
          refine WL.skip (by kernel_rfl) ?_
          simp only [Act.put, List.setIfInBounds_toArray, List.set_cons_zero, List.set_cons_succ]
          refine WL.skip (by kernel_rfl) ?_
          simp only [Act.put, List.setIfInBounds_toArray, List.set_cons_zero, List.set_cons_succ]
          refine WL.skip (by kernel_rfl) ?_
          simp only [Act.put, List.setIfInBounds_toArray, List.set_cons_zero, List.set_cons_succ]
          refine WL.val (by kernel_rfl) (.bool false) (by go_simp) ?_
          simp only [Act.put, List.setIfInBounds_toArray, List.set_cons_zero, List.set_cons_succ]
          refine WL.nil ?_
          refine hK47 _ _ ?_
          refine wp_cond_false rfl ?_
          refine wp_skip ?_
          refine hK46 _ _ ?_
          have HXz := HX8
          have HGz := HG8
          have HOz := HO8
          refine wp_region_list (WL.out ?_)
          refine WL.val (by kernel_rfl) (.slice oa vs.length oc) (by go_simp) ?_
          simp only [Act.put, List.setIfInBounds_toArray, List.set_cons_zero, List.set_cons_succ]
          refine WL.val (by kernel_rfl) (.slice xa X.length xc) (by go_simp) ?_
          simp only [Act.put, List.setIfInBounds_toArray, List.set_cons_zero, List.set_cons_succ]
          refine WL.bs (by kernel_rfl) 26 1 _ rfl #[(0, .slice xa X.length xc)] (by simp [Act.eval]) _ _ (bsR xa X.length xc w8) ?_
          have HB11 := Keep.mk (Blk.new w8 25 #[.slice xa X.length xc])
          have B11 := Keep.mk (below_new w8 (.cells #[.slice xa X.length xc] 25))
          generalize w8.alloc (.cells #[.slice xa X.length xc] 25) = w11 at *
          simp only [Act.put, List.setIfInBounds_toArray, List.set_cons_zero, List.set_cons_succ]
          refine WL.appR (by kernel_rfl) (.tmp 64) (.tmp 66) rfl (.slice oa vs.length oc) vs w8.heap.size (.slice xa X.length xc) rfl rfl rfl (HOz.out.below B11.out) HB11.out (by have := JL.out; omega) ?_
          intro v4 w12 h1 h2 h3
          have HOy := Keep.mk h1
          have HGy : Keep (Grown w w12 fun k => k = x) := ⟨(HGz.out.trans (Grown.below B11.out)).next h2 (fun k hk e => absurd (JN.out k e) (by omega))⟩
          have HXy := Keep.mk ((HXz.out.below B11.out).keep h2 (fun e => (HOz.out.below B11.out).ne (HXz.out.below B11.out).blk (by decide) e) (fun k hk e => absurd (JN.out k e) (by have := JG0.out; omega)))
          have HNy : Keep (∀ k, v4.ownBlock = some k → w.heap.size ≤ k) := ⟨fun k hk => by
            rcases h3 with e | ⟨j, e, hj⟩
            · rw [e] at hk; exact JN.out k hk
            · rw [e] at hk; injection hk with hk; have := HGz.out.size; have := B11.out.size; omega⟩
          clear h1 h2 h3
          simp only [Act.put, List.setIfInBounds_toArray, List.set_cons_zero, List.set_cons_succ]
          refine WL.val (by kernel_rfl) (v4) (by go_simp) ?_
          simp only [Act.put, List.setIfInBounds_toArray, List.set_cons_zero, List.set_cons_succ]
          refine WL.nil ?_
          refine hK43 _ _ ?_
          refine wp_region_list (WL.out ?_)
          refine WL.val (by kernel_rfl) (.int .i64 (t : Int)) (by go_simp) ?_
          simp only [Act.put, List.setIfInBounds_toArray, List.set_cons_zero, List.set_cons_succ]
          refine WL.val (by kernel_rfl) (.int .i64 ((t : Int) + 1)) (by go_simp) ?_
          simp only [Act.put, List.setIfInBounds_toArray, List.set_cons_zero, List.set_cons_succ]
          refine WL.val (by kernel_rfl) (.int .i64 ((t : Int) + 1)) (by go_simp) ?_
          simp only [Act.put, List.setIfInBounds_toArray, List.set_cons_zero, List.set_cons_succ]
          refine WL.nil ?_
          have hbk : R = (W1, at_ + N1, []) := by rw [JR.out, if_pos (by simp [h11_2])]; simp [h11_2]
          refine ⟨⟨t + 1, .int .i64 (at_ : Int), v4, .slice xa X.length xc, .pointer (some ⟨g9, 0, none⟩), .int .i64 (t : Int), .int .u64 (n : Int), .int .i64 (n : Int), .bool true, .bool true, .pointer (some ⟨x, 0, none⟩), .pointer (some ⟨x, 0, none⟩), .pointer (some ⟨x, 2, none⟩), .pointer (some ⟨x, 2, none⟩), .int .i64 0, .bool true, .bool true, .int .i64 (t : Int), .int .i64 ((t : Int) + 1), .pointer (some ⟨x, 0, none⟩), .pointer (some ⟨x, 0, none⟩), .pointer (some ⟨x, 1, none⟩), .int .i64 (at_ : Int), .tuple #[.slice xa X.length xc, .agg (erA W1 (bOf W1 (at_ + N1)))], .pointer (some ⟨x, 0, none⟩), .tuple #[.slice xa X.length xc, .agg (erA W1 (bOf W1 (at_ + N1)))], .slice xa X.length xc, .agg (erA W1 (bOf W1 (at_ + N1))), .pointer (some ⟨g9, 0, none⟩), .int .i64 W1, .bool false, .bool false, undef, undef, undef, .bool false, u61, u62, u63, .slice oa vs.length oc, .slice xa X.length xc, .slice (some ⟨w8.heap.size, 0, none⟩) 1 1, v4, rfl, by omega, W1, at_ + N1, vs ++ [.slice xa X.length xc], [], HXy.out, HGy.out, HOy.out, HNy.out, by rw [List.length_append]; simp [JL.out], .inr ⟨h11_2, by rw [hbk], by rw [hbk]⟩⟩, ?_⟩
          simp only [intOf]; show n - ((t : Int) + 1).toNat < n - ((t : Int)).toNat; omega
      · skip
        refine wp_seq_k fun K48 hK48 => ?_
        refine wp_seq_k fun K49 hK49 => ?_
        refine wp_region_list (WL.out ?_)
        refine WL.val (by kernel_rfl) (.int .i64 (t : Int)) (by go_simp) ?_
        simp only [Act.put, List.setIfInBounds_toArray, List.set_cons_zero, List.set_cons_succ]
        refine WL.val (by kernel_rfl) (.int .u64 (n : Int)) (by go_simp) ?_
        simp only [Act.put, List.setIfInBounds_toArray, List.set_cons_zero, List.set_cons_succ]
        refine WL.val (by kernel_rfl) (.int .i64 (n : Int)) (by go_simp) ?_
        simp only [Act.put, List.setIfInBounds_toArray, List.set_cons_zero, List.set_cons_succ]
        refine WL.val (by kernel_rfl) (.bool true) (by go_simp) ?_
        simp only [Act.put, List.setIfInBounds_toArray, List.set_cons_zero, List.set_cons_succ]
        refine WL.val (by kernel_rfl) (.bool true) (by go_simp) ?_
        simp only [Act.put, List.setIfInBounds_toArray, List.set_cons_zero, List.set_cons_succ]
        refine WL.val (by kernel_rfl) (.pointer (some ⟨x, 0, none⟩)) (by go_simp) ?_
        simp only [Act.put, List.setIfInBounds_toArray, List.set_cons_zero, List.set_cons_succ]
        refine WL.val (by kernel_rfl) (.pointer (some ⟨x, 0, none⟩)) (by go_simp) ?_
        simp only [Act.put, List.setIfInBounds_toArray, List.set_cons_zero, List.set_cons_succ]
        refine WL.val (by kernel_rfl) (.pointer (some ⟨x, 2, none⟩)) (by go_simp) ?_
        simp only [Act.put, List.setIfInBounds_toArray, List.set_cons_zero, List.set_cons_succ]
        refine WL.val (by kernel_rfl) (.pointer (some ⟨x, 2, none⟩)) (by go_simp) ?_
        simp only [Act.put, List.setIfInBounds_toArray, List.set_cons_zero, List.set_cons_succ]
        refine WL.val (by kernel_rfl) (.int .i64 why) (by go_simp) ?_
        simp only [Act.put, List.setIfInBounds_toArray, List.set_cons_zero, List.set_cons_succ]
        refine WL.val (by kernel_rfl) (.bool false) (by go_simp) ?_
        simp only [Act.put, List.setIfInBounds_toArray, List.set_cons_zero, List.set_cons_succ]
        refine WL.val (by kernel_rfl) (.bool false) (by go_simp) ?_
        simp only [Act.put, List.setIfInBounds_toArray, List.set_cons_zero, List.set_cons_succ]
        refine WL.nil ?_
        refine hK49 _ _ ?_
        refine wp_cond_false rfl ?_
        refine wp_exit ?_
        refine hK39 _ _ ?_
        refine wp_seq_k fun K50 hK50 => ?_
        refine wp_region_list (WL.out ?_)
        refine WL.val (by kernel_rfl) (.slice oa vs.length oc) (by go_simp) ?_
        simp only [Act.put, List.setIfInBounds_toArray, List.set_cons_zero, List.set_cons_succ]
        refine WL.val (by kernel_rfl) (.slice oa vs.length oc) (by go_simp) ?_
        simp only [Act.put, List.setIfInBounds_toArray, List.set_cons_zero, List.set_cons_succ]
        refine WL.nil ?_
        refine hK50 _ _ ?_
        refine wp_ret ?_
        go_ret
        refine ⟨_, rfl, ?_, JG.out, vs, JO.out, JN.out, ?_⟩
        · rcases JC.out with ⟨h1, _⟩ | ⟨_, h1, h2⟩
          · exact absurd h1 hy
          · rw [h1, h2]; exact JX.out
        · intro h
          rcases JC.out with ⟨h1, _⟩ | ⟨_, h1, h2⟩
          · exact absurd h1 hy
          · exact absurd (h1.symm.trans h) hy
    · have hte : Keep (t = n) := ⟨by omega⟩
      have hlt' : ¬ (t : Int) < (n : Int) := by omega
      refine wp_seq_k fun K51 hK51 => ?_
      refine wp_seq_k fun K52 hK52 => ?_
      refine wp_region_list (WL.out ?_)
      refine WL.val (by kernel_rfl) (.int .i64 (t : Int)) (by go_simp) ?_
      simp only [Act.put, List.setIfInBounds_toArray, List.set_cons_zero, List.set_cons_succ]
      refine WL.val (by kernel_rfl) (.int .u64 (n : Int)) (by go_simp) ?_
      simp only [Act.put, List.setIfInBounds_toArray, List.set_cons_zero, List.set_cons_succ]
      refine WL.val (by kernel_rfl) (.int .i64 (n : Int)) (by go_simp) ?_
      simp only [Act.put, List.setIfInBounds_toArray, List.set_cons_zero, List.set_cons_succ]
      refine WL.val (by kernel_rfl) (.bool false) (by go_simp) ?_
      simp only [Act.put, List.setIfInBounds_toArray, List.set_cons_zero, List.set_cons_succ]
      refine WL.val (by kernel_rfl) (.bool false) (by go_simp) ?_
      simp only [Act.put, List.setIfInBounds_toArray, List.set_cons_zero, List.set_cons_succ]
      refine WL.skip (by kernel_rfl) ?_
      simp only [Act.put, List.setIfInBounds_toArray, List.set_cons_zero, List.set_cons_succ]
      refine WL.skip (by kernel_rfl) ?_
      simp only [Act.put, List.setIfInBounds_toArray, List.set_cons_zero, List.set_cons_succ]
      refine WL.skip (by kernel_rfl) ?_
      simp only [Act.put, List.setIfInBounds_toArray, List.set_cons_zero, List.set_cons_succ]
      refine WL.skip (by kernel_rfl) ?_
      simp only [Act.put, List.setIfInBounds_toArray, List.set_cons_zero, List.set_cons_succ]
      refine WL.skip (by kernel_rfl) ?_
      simp only [Act.put, List.setIfInBounds_toArray, List.set_cons_zero, List.set_cons_succ]
      refine WL.skip (by kernel_rfl) ?_
      simp only [Act.put, List.setIfInBounds_toArray, List.set_cons_zero, List.set_cons_succ]
      refine WL.val (by kernel_rfl) (.bool false) (by go_simp) ?_
      simp only [Act.put, List.setIfInBounds_toArray, List.set_cons_zero, List.set_cons_succ]
      refine WL.nil ?_
      refine hK52 _ _ ?_
      refine wp_cond_false rfl ?_
      refine wp_exit ?_
      refine hK39 _ _ ?_
      refine wp_seq_k fun K53 hK53 => ?_
      refine wp_region_list (WL.out ?_)
      refine WL.val (by kernel_rfl) (.slice oa vs.length oc) (by go_simp) ?_
      simp only [Act.put, List.setIfInBounds_toArray, List.set_cons_zero, List.set_cons_succ]
      refine WL.val (by kernel_rfl) (.slice oa vs.length oc) (by go_simp) ?_
      simp only [Act.put, List.setIfInBounds_toArray, List.set_cons_zero, List.set_cons_succ]
      refine WL.nil ?_
      refine hK53 _ _ ?_
      refine wp_ret ?_
      go_ret
      refine ⟨_, rfl, ?_, JG.out, vs, JO.out, JN.out, ?_⟩
      · rcases JC.out with ⟨h1, h2, _⟩ | ⟨_, h1, h2⟩
        · rw [hte.out, Nat.sub_self, bkG] at h2
          rw [h2]; have h := JX.out; rw [h1] at h; exact h
        · rw [h1, h2]; exact JX.out
      · intro h
        rcases JC.out with ⟨h1, h2, h5⟩ | ⟨h3, h1, h2⟩
        · rw [hte.out, Nat.sub_self, bkG] at h2
          rw [h2]; exact h5
        · exact absurd (h1.symm.trans h) h3
theorem Try.in42 (w : World) (vs : Array Value) : (callFunc 42 vs).run Try.prog w = .ok (.enter 42 vs) w := by kernel_rfl
theorem dig_is (l k : Nat) (h1 : l ≤ 8 * 2 ^ k) (h2 : k = 0 ∨ 8 * 2 ^ k < 2 * l) : (decide (8 * 2 ^ k = l) && decide (8 * 2 ^ k ≤ 8192)) = isP (l : Int) := by
  rcases Bool.eq_false_or_eq_true (isP (l : Int)) with hp | hp
  · rw [hp]
    obtain ⟨t, ht, e⟩ := (isP_iff _).1 hp
    have e2 : l = 8 * 2 ^ t := by
      have : ((8 * 2 ^ t : Nat) : Int) = 8 * 2 ^ t := by push_cast; rfl
      omega
    have hk : k = t := by
      rcases Nat.lt_trichotomy k t with h | h | h
      · have := Nat.pow_lt_pow_right (a := 2) (by decide) h
        omega
      · exact h
      · have := Nat.pow_le_pow_right (n := 2) (by decide) (show t + 1 ≤ k from h)
        rw [Nat.pow_succ] at this
        rcases h2 with h2 | h2 <;> omega
    subst hk
    have := Nat.pow_le_pow_right (n := 2) (by decide) ht
    have e3 : (2 : Nat) ^ 10 = 1024 := by decide
    simp [e2]
    omega
  · rw [hp]
    by_cases he : 8 * 2 ^ k = l
    · by_cases hl : 8 * 2 ^ k ≤ 8192
      · exfalso
        have hk : k ≤ 10 := by
          rcases Nat.lt_or_ge 10 k with h | h
          · have := Nat.pow_le_pow_right (n := 2) (by decide) (show 11 ≤ k from h)
            have e3 : (2 : Nat) ^ 11 = 2048 := by decide
            omega
          · exact h
        have : isP (l : Int) = true := (isP_iff _).2 ⟨k, hk, by rw [← he]; push_cast; rfl⟩
        rw [hp] at this
        cases this
      · simp [hl]
    · simp [he]
set_option maxRecDepth 8000 in
set_option maxHeartbeats 1000000 in
theorem digest_any (v : Value) (l : List Int) (w : World) (h : RowAt w v l) (hl : l.length ≤ 140737488355328) : Calls Try.prog 42 #[v] w fun e w' => e = .returned (.bool (isP (l.length : Int))) ∧ w' = w := by
  obtain ⟨a, c, rfl⟩ := row_form h
  obtain ⟨n, hn⟩ : ∃ n, n = l.length := ⟨_, rfl⟩
  rw [← hn] at hl ⊢
  clear h hn
  go_enter Try.func42, Try.ntmps42
  go_wp2
  go_loopw [3] (fun i wr => ∃ p : Nat, i = .int .i64 (p : Int) ∧ 8 ≤ p ∧ p < 281474976710656 ∧ Keep (∃ k, p = 8 * 2 ^ k ∧ (k = 0 ∨ 8 * 2 ^ k < 2 * n)) ∧ wr = w) (fun i _ => n - (intOf i).toNat)
  case atStart => exact ⟨8, rfl, by omega, by omega, ⟨0, rfl, .inl rfl⟩, rfl⟩
  case round =>
    obtain ⟨p, rfl, hp, hq, HK, rfl⟩ := hrel
    by_cases hlt : p < n
    · have hlt' : (p : Int) < (n : Int) := by omega
      have HK2 : Keep (∃ k, p * 2 = 8 * 2 ^ k ∧ (k = 0 ∨ 8 * 2 ^ k < 2 * n)) := ⟨by obtain ⟨k, e, _⟩ := HK.out; exact ⟨k + 1, by rw [e, Nat.pow_succ]; omega, .inr (by rw [Nat.pow_succ]; omega)⟩⟩
      go_wp2
      go_roundw
      case rel => exact ⟨p * 2, by push_cast; go_num, by omega, by omega, HK2, trivial⟩
      case measure => simp [intOf]; omega
    · have hlt' : ¬ (p : Int) < (n : Int) := by omega
      have HD : Keep ((decide (p = n) && decide (p ≤ 8192)) = isP (n : Int)) := ⟨by obtain ⟨k, e, h⟩ := HK.out; rw [e]; exact dig_is n k (by omega) h⟩
      by_cases he : p = n
      · subst he
        by_cases h8 : (p : Int) ≤ 8192
        · go_wp2
          go_ret
          exact ⟨by rw [← HD.out]; simp; omega, rfl⟩
        · go_wp2
          go_ret
          exact ⟨by rw [← HD.out]; simp; omega, rfl⟩
      · have he' : ¬ (p : Int) = (n : Int) := by omega
        go_wp2
        go_ret
        exact ⟨by rw [← HD.out]; simp [he], rfl⟩
theorem Try.in14 (w : World) (vs : Array Value) : (callFunc 14 vs).run Try.prog w = .ok (.enter 14 vs) w := by kernel_rfl
theorem ms_set1 (c : MC) (v : Value) : (msA c).setIfInBounds 1 v = msA { c with h := v } := by simp [msA]
theorem ms_set2 (c : MC) (v : Int) : (msA c).setIfInBounds 2 (.int .u64 v) = msA { c with s := v } := by simp [msA]
theorem ms_set3 (c : MC) (v : Value) : (msA c).setIfInBounds 3 v = msA { c with b := v } := by simp [msA]
theorem ms_set4 (c : MC) (v : Value) : (msA c).setIfInBounds 4 v = msA { c with w := v } := by simp [msA]
theorem ms_set5 (c : MC) (v : Value) : (msA c).setIfInBounds 5 v = msA { c with x := v } := by simp [msA]
def hor (l : List Int) : Nat → Int
  | 0 => 0
  | t + 1 => 256 * hor l t + l.getD (l.length - 1 - t) 0
theorem hor_rng (l : List Int) (hB : Byts l) : ∀ t, 0 ≤ hor l t ∧ hor l t < 256 ^ t
  | 0 => by simp [hor]
  | t + 1 => by
    have h := hor_rng l hB t
    have h2 := hB.getD (l.length - 1 - t)
    rw [hor, Int.pow_succ]
    omega
theorem hor_le (l : List Int) : ∀ t, t ≤ l.length → leP l l.length = leP l (l.length - t) + 256 ^ (l.length - t) * hor l t
  | 0, _ => by simp [hor]
  | t + 1, h => by
    have ih := hor_le l t (by omega)
    obtain ⟨j, hj⟩ : ∃ j, l.length - t = j + 1 := ⟨l.length - t - 1, by omega⟩
    have e1 : l.length - (t + 1) = j := by omega
    have e2 : l.length - 1 - t = j := by omega
    rw [hj, leP, Int.pow_succ] at ih
    rw [ih, e1, hor, e2, Int.mul_add, Int.mul_comm (l.getD j 0), Int.mul_assoc]
    omega
theorem leP_take (D : List Int) (n : Nat) : ∀ t, t ≤ n → leP (D.take n) t = leP D t
  | 0, _ => rfl
  | t + 1, h => by
    rw [leP, leP, leP_take D n t (by omega), List.getD_eq_getElem?_getD, List.getD_eq_getElem?_getD, List.getElem?_take, if_pos (by omega)]
theorem pow_le8 (t : Nat) (h : t ≤ 8) : (256 : Int) ^ t ≤ 18446744073709551616 := by
  have h8 : t = 0 ∨ t = 1 ∨ t = 2 ∨ t = 3 ∨ t = 4 ∨ t = 5 ∨ t = 6 ∨ t = 7 ∨ t = 8 := by omega
  rcases h8 with rfl | rfl | rfl | rfl | rfl | rfl | rfl | rfl | rfl <;> decide
theorem stRaw_len (L : List Int) (y : Int) (a : Nat) : (stRaw L 8 y a).2.2.length ≤ 8 ∧ ((stRaw L 8 y a).1 = 0 → y = 0 ∧ (stRaw L 8 y a).2.2 = (L.drop a).take 8 ∧ (stRaw L 8 y a).2.2.length = 8 ∧ (stRaw L 8 y a).2.1 = a + 8) := by
  unfold stRaw
  by_cases hy : y = 0
  · simp only [if_pos hy]
    by_cases hw : nextW (L.drop a) 8 = 0
    · have h := nextN_0 _ _ hw
      rw [h.1]
      have h3 : (8 : Int).toNat = 8 := rfl
      rw [h3] at h ⊢
      exact ⟨by rw [List.length_take]; omega, fun _ => ⟨hy, rfl, by rw [List.length_take]; omega, rfl⟩⟩
    · rw [nextN_1 _ _ hw]
      exact ⟨by simp, fun h => absurd h hw⟩
  · simp only [if_neg hy]
    exact ⟨by simp, fun h => absurd h hy⟩
theorem ref1_is {L : List Int} {y1 y2 y3 : Int} {a1 a2 a3 : Nat} {H1 : List Hs} {sl dl : List Int} (M0 : MsgV) (e1 : (y1, a1, H1) = hsR L 4096 1) (e2 : (y2, a2, sl) = stRaw L 8 y1 a1) (e3 : (y3, a3, dl) = stByt L 8192 y2 a2) :
    (y3 ≠ 0 → (getFs L [0, 1, 2, 3] M0 1).1 = y3 ∧ (getFs L [0, 1, 2, 3] M0 1).2.1 = a3) ∧
    (y3 = 0 → isP (dl.length : Int) = false → (getFs L [0, 1, 2, 3] M0 1).1 = 60 ∧ (getFs L [0, 1, 2, 3] M0 1).2.1 = a2) ∧
    (y3 = 0 → isP (dl.length : Int) = true → (getFs L [0, 1, 2, 3] M0 1).1 = (hsR L 4096 a3).1 ∧ (getFs L [0, 1, 2, 3] M0 1).2.1 = (hsR L 4096 a3).2.1 ∧ ((hsR L 4096 a3).1 = 0 → (getFs L [0, 1, 2, 3] M0 1).2.2 = { M0 with hd := H1, sa := hor sl sl.length, bl := dl, wt := (hsR L 4096 a3).2.2 })) := by
  have g0 : getF L 0 M0 1 = (y1, a1, { M0 with hd := H1 }) := by unfold getF; rw [if_pos rfl, ← e1]
  by_cases h1 : y1 = 0
  · by_cases h2 : y2 = 0
    · have s1 := stRaw_len L y1 a1
      rw [← e2] at s1
      simp only at s1
      obtain ⟨_, s2, s3, s4⟩ := s1.2 h2
      have sv : hor sl sl.length = leP (L.drop a1) 8 := by
        have h := hor_le sl sl.length (Nat.le_refl _)
        rw [Nat.sub_self, leP] at h
        rw [s3] at h
        rw [s3, show hor sl 8 = leP sl 8 by rw [h]; simp, s2, leP_take _ _ _ (Nat.le_refl _)]
      have nw : nextW (L.drop a1) 8 = 0 := by
        have h := congrArg (·.1) e2
        simp only [stRaw, if_pos h1] at h
        rw [← h]; exact h2
      have g1 : getF L 1 { M0 with hd := H1 } a1 = (0, a2, { M0 with hd := H1, sa := hor sl sl.length }) := by
        unfold getF saR
        rw [if_neg (by decide), if_pos rfl, if_neg (by simp [nw]), sv, s4]
      have e3' : (y3, a3, dl) = ((byt (L.drop a2) 8192).1, a2 + (byt (L.drop a2) 8192).2.1, (byt (L.drop a2) 8192).2.2) := by rw [e3, stByt, if_pos h2]
      injection e3' with d1 d2
      injection d2 with d2 d3
      refine ⟨fun h3 => ?_, fun h3 hp => ?_, fun h3 hp => ?_⟩
      · have g2 : getF L 2 { M0 with hd := H1, sa := hor sl sl.length } a2 = (y3, a3, { M0 with hd := H1, sa := hor sl sl.length, bl := [] }) := by
          unfold getF dgR
          rw [← d1, ← d2, ← d3, if_neg (by decide), if_neg (by decide), if_pos rfl, if_pos h3]
        simp [getFs, g0, g1, g2, h1, h3]
      · have g2 : getF L 2 { M0 with hd := H1, sa := hor sl sl.length } a2 = (60, a2, { M0 with hd := H1, sa := hor sl sl.length, bl := [] }) := by
          unfold getF dgR
          rw [← d1, ← d2, ← d3, if_neg (by decide), if_neg (by decide), if_pos rfl, if_neg (by simp [h3]), if_pos hp]
        simp [getFs, g0, g1, g2, h1]
      · have g2 : getF L 2 { M0 with hd := H1, sa := hor sl sl.length } a2 = (0, a3, { M0 with hd := H1, sa := hor sl sl.length, bl := dl }) := by
          unfold getF dgR
          rw [← d1, ← d2, ← d3, if_neg (by decide), if_neg (by decide), if_pos rfl, if_neg (by simp [h3]), if_neg (by simp [hp])]
        have g3 : getF L 3 { M0 with hd := H1, sa := hor sl sl.length, bl := dl } a3 = ((hsR L 4096 a3).1, (hsR L 4096 a3).2.1, { M0 with hd := H1, sa := hor sl sl.length, bl := dl, wt := (hsR L 4096 a3).2.2 }) := by
          unfold getF
          rw [if_neg (by decide), if_neg (by decide), if_neg (by decide), if_pos rfl]
        by_cases h5 : (hsR L 4096 a3).1 = 0
        · simp [getFs, g0, g1, g2, g3, h1, h5]
        · simp [getFs, g0, g1, g2, g3, h1, h5]
    · have nw : nextW (L.drop a1) 8 = y2 ∧ a2 = a1 + nextN (L.drop a1) 8 := by
        have h := congrArg (·.1) e2
        have h' := congrArg (·.2.1) e2
        simp only [stRaw, if_pos h1] at h h'
        exact ⟨h.symm, h'⟩
      have g1 : getF L 1 { M0 with hd := H1 } a1 = (y2, a2, { M0 with hd := H1, sa := 0 }) := by
        unfold getF saR
        rw [if_neg (by decide), if_pos rfl, if_pos (by rw [nw.1]; exact h2), nw.1, ← nw.2]
      rw [stByt, if_neg h2] at e3
      injection e3 with d1 d2
      injection d2 with d2 d3
      subst d1 d2
      refine ⟨fun _ => ?_, fun h => absurd h h2, fun h => absurd h h2⟩
      simp [getFs, g0, g1, h1, h2]
  · rw [stRaw, if_neg h1] at e2
    injection e2 with d1 d2
    injection d2 with d2 d3
    subst d1 d2
    rw [stByt, if_neg h1] at e3
    injection e3 with d1 d2
    injection d2 with d2 d3
    subst d1 d2
    refine ⟨fun _ => ?_, fun h => absurd h h1, fun h => absurd h h1⟩
    simp [getFs, g0, h1]
theorem decM_of {L : List Int} (h0 : nextW L 1 = 0) (h1 : hasI (L.getD 0 0) ≠ []) (G : Int × Nat × MsgV) (hG : G = getFs L (hasI (L.getD 0 0)) { zeroM with k := L.getD 0 0 } 1) : (decM L).1 = stEnd L G.1 G.2.1 ∧ (decM L).2.1 = G.2.1 ∧ (stEnd L G.1 G.2.1 = 0 → (decM L).2.2 = G.2.2) := by
  unfold decM stEnd
  rw [if_neg (by simp [h0]), if_neg h1, ← hG]
  by_cases h2 : G.1 = 0
  · by_cases h3 : G.2.1 < L.length
    · rw [if_neg (by simp [h2]), if_pos h3, if_pos h2, if_pos h3]
      exact ⟨rfl, rfl, fun h => absurd h (by decide)⟩
    · rw [if_neg (by simp [h2]), if_neg h3, if_pos h2, if_neg h3]
      exact ⟨h2, rfl, fun _ => rfl⟩
  · rw [if_pos h2, if_neg h2]
    exact ⟨rfl, rfl, fun h => absurd h h2⟩
theorem getFs_sing (L : List Int) (i : Nat) (M : MsgV) (a : Nat) : getFs L [i] M a = getF L i M a := by
  rw [getFs]
  split
  · rfl
  · rename_i h
    simp only [ne_eq, Decidable.not_not] at h
    rw [getFs, ← h]
theorem byt_len (D : List Int) (mm : Int) : (byt D mm).2.2.length ≤ D.length := by
  unfold byt
  split
  · simp only [List.length_take, List.length_drop]; omega
  · simp
theorem stByt_0 {L : List Int} {mm y y' : Int} {a a' : Nat} {l : List Int} (e : (y', a', l) = stByt L mm y a) (h : y' = 0) : y = 0 := by
  unfold stByt at e
  split at e
  · assumption
  · injection e with e1 _; rw [← e1]; exact h
theorem stRaw_0 {L : List Int} {n y y' : Int} {a a' : Nat} {l : List Int} (e : (y', a', l) = stRaw L n y a) (h : y' = 0) : y = 0 := by
  unfold stRaw at e
  split at e
  · assumption
  · injection e with e1 _; rw [← e1]; exact h
theorem in_built (p : Option Addr) (n c : Nat) : Try.prog.built 83 [(0, .slice p n c)] = some #[.slice p n c, .int .i64 0, .int .i64 0, .int .i64 0] := by kernel_rfl
theorem run_bldM (w : World) : (Next.value <$> Instr.build 28 #[]).run Try.prog w = .ok (.value (.agg (msA zeroC))) w := by kernel_rfl
theorem wp_cellG {P : Program} {o : Oper} {a : Act} {w : World} {K : Act → World → Prop} {Q : Exit → Act → World → Prop} (w' : World) (hrun : (execOp a.eval o).run P w = .ok .skip w') (h : K (a.put o.dst undef) w') : o.wp P a w K Q := by
  unfold Oper.wp; rw [hrun, Oper.upon_skip]; exact h
structure DS (w0 : World) (g2 g3 x g6 g7 B0 : Nat) (vB : Value) (L : List Int) (why : Int) (a : Nat) (ew eb : Int) (T : World → Prop) (c : MC) (w : World) : Prop where
  rx : RX w0 x vB L why a w
  m : Blk w g7 28 (msA c)
  b2 : Blk w g2 28 (msA zeroC)
  b3 : Blk w g3 41 (erA 0 0)
  b6 : Blk w g6 41 (erA ew eb)
  at_ : ∀ wx, (Grown w wx fun k => k < B0) → T wx
  n27 : g2 ≠ g7
  n36 : g3 ≠ g6
  lo : w0.heap.size ≤ g2 ∧ w0.heap.size ≤ g3 ∧ w0.heap.size ≤ g6 ∧ w0.heap.size ≤ g7
  hi : g2 < B0 ∧ g3 < B0 ∧ g6 < B0 ∧ g7 < B0 ∧ x < B0 ∧ B0 ≤ w.heap.size
theorem DS.below {w0 : World} {g2 g3 x g6 g7 B0 : Nat} {vB : Value} {L : List Int} {why : Int} {a : Nat} {ew eb : Int} {T : World → Prop} {c : MC} {w : World} {w' : World} (h : DS w0 g2 g3 x g6 g7 B0 vB L why a ew eb T c w) (hb : Below w.heap.size w w') : DS w0 g2 g3 x g6 g7 B0 vB L why a ew eb T c w' :=
  ⟨h.rx.below hb, h.m.below hb h.m.lt, h.b2.below hb h.b2.lt, h.b3.below hb h.b3.lt, h.b6.below hb h.b6.lt, fun wx hw => h.at_ wx ((Grown.below hb).trans hw), h.n27, h.n36, h.lo, ⟨h.hi.1, h.hi.2.1, h.hi.2.2.1, h.hi.2.2.2.1, h.hi.2.2.2.2.1, Nat.le_trans h.hi.2.2.2.2.2 hb.size⟩⟩
theorem DS.rd {w0 : World} {g2 g3 x g6 g7 B0 : Nat} {vB : Value} {L : List Int} {why : Int} {a : Nat} {ew eb : Int} {T : World → Prop} {c : MC} {w : World} {w' : World} {why' : Int} {a' : Nat} (h : DS w0 g2 g3 x g6 g7 B0 vB L why a ew eb T c w) (hr : RX w0 x vB L why' a' w') (hg : Grown w w' fun k => k = x) : DS w0 g2 g3 x g6 g7 B0 vB L why' a' ew eb T c w' :=
  ⟨hr, hg.blk h.m (blk_ne h.m h.rx.blk (by decide)), hg.blk h.b2 (blk_ne h.b2 h.rx.blk (by decide)), hg.blk h.b3 (blk_ne h.b3 h.rx.blk (by decide)), hg.blk h.b6 (blk_ne h.b6 h.rx.blk (by decide)), fun wx hw => h.at_ wx ((hg.mono fun k _ e => by rw [e]; exact h.hi.2.2.2.2.1).trans hw), h.n27, h.n36, h.lo, ⟨h.hi.1, h.hi.2.1, h.hi.2.2.1, h.hi.2.2.2.1, h.hi.2.2.2.2.1, Nat.le_trans h.hi.2.2.2.2.2 hg.size⟩⟩
theorem DS.setM {w0 : World} {g2 g3 x g6 g7 B0 : Nat} {vB : Value} {L : List Int} {why : Int} {a : Nat} {ew eb : Int} {T : World → Prop} {c : MC} {w : World} {w' : World} (h : DS w0 g2 g3 x g6 g7 B0 vB L why a ew eb T c w) {T' : World → Prop} {c' : MC} (hb : Blk w' g7 28 (msA c')) (hg : Grown w w' fun k => k = g7) (ha : ∀ wx, (Grown w wx fun k => k < B0) → T' wx) : DS w0 g2 g3 x g6 g7 B0 vB L why a ew eb T' c' w' :=
  ⟨h.rx.keep hg (fun e => blk_ne h.m h.rx.blk (by decide) e.symm) (fun k hk e => by have := h.lo.2.2.2; omega), hb, hg.blk h.b2 h.n27, hg.blk h.b3 (blk_ne h.b3 h.m (by decide)), hg.blk h.b6 (blk_ne h.b6 h.m (by decide)), fun wx hw => ha wx ((hg.mono fun k _ e => by rw [e]; exact h.hi.2.2.2.1).trans hw), h.n27, h.n36, h.lo, ⟨h.hi.1, h.hi.2.1, h.hi.2.2.1, h.hi.2.2.2.1, h.hi.2.2.2.2.1, Nat.le_trans h.hi.2.2.2.2.2 hg.size⟩⟩
theorem DS.setE {w0 : World} {g2 g3 x g6 g7 B0 : Nat} {vB : Value} {L : List Int} {why : Int} {a : Nat} {ew eb : Int} {T : World → Prop} {c : MC} {w : World} (h : DS w0 g2 g3 x g6 g7 B0 vB L why a ew eb T c w) (ew' eb' : Int) : DS w0 g2 g3 x g6 g7 B0 vB L why a ew' eb' T c (w.setRow g6 (erA ew' eb')) := by
  have hg : Grown w (w.setRow g6 (erA ew' eb')) fun k => k = g6 := Grown.setRow w g6 _ fun _ => rfl
  exact ⟨h.rx.keep hg (fun e => blk_ne h.b6 h.rx.blk (by decide) e.symm) (fun k hk e => by have := h.lo.2.2.1; omega), hg.blk h.m (blk_ne h.m h.b6 (by decide)), hg.blk h.b2 (blk_ne h.b2 h.b6 (by decide)), hg.blk h.b3 h.n36, h.b6.setRow _, fun wx hw => h.at_ wx ((hg.mono fun k _ e => by rw [e]; exact h.hi.2.2.1).trans hw), h.n27, h.n36, h.lo, ⟨h.hi.1, h.hi.2.1, h.hi.2.2.1, h.hi.2.2.2.1, h.hi.2.2.2.2.1, Nat.le_trans h.hi.2.2.2.2.2 hg.size⟩⟩
theorem DS.has {w0 : World} {g2 g3 x g6 g7 B0 : Nat} {vB : Value} {L : List Int} {why : Int} {a : Nat} {ew eb : Int} {T : World → Prop} {c : MC} {w : World} (h : DS w0 g2 g3 x g6 g7 B0 vB L why a ew eb T c w) : T w := h.at_ w (Grown.refl _ _)
theorem xend_y {w0 : World} {x : Nat} {vB : Value} {L : List Int} {why : Int} {a : Nat} {w : World} (h : RX w0 x vB L why a w) :
    Calls Try.prog 44 #[ptr x] w fun e w' => e = .returned (.agg (erA (stEnd L why a) (bOf (stEnd L why a) a))) ∧ RX w0 x vB L (stEnd L why a) a w' ∧ Grown w w' fun k => k = x := by
  unfold stEnd
  by_cases hw : why = 0
  · subst hw
    simp only [if_pos]
    obtain ⟨va, vc, hv⟩ := row_form h.row
    have h2 := h.good
    subst hv
    refine (xend_good x va L.length vc a w h2 h.le h.len _ rfl).mono ?_
    rintro e w' ⟨b, h1, rfl, h4, h3⟩
    have hb := bOf_is h1
    subst hb
    exact ⟨rfl, h.step h4 rfl h3 h.le, h3⟩
  · simp only [if_neg hw]
    refine (xend_bad x vB a why _ w h.rf hw).mono ?_
    rintro e w' ⟨rfl, hb⟩
    exact ⟨rfl, h.below hb, Grown.below hb⟩
end Go.Proofs.Ytlogkojhcccogaa
