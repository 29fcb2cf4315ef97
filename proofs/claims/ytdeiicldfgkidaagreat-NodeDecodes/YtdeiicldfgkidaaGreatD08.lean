import Derived.Test.YtdeiicldfgkidaaGreatD04
import Derived.Test.YtdeiicldfgkidaaGreatD07
namespace Go.Proofs.YtdeiicldfgkidaaGreat
open Go.RowKit

set_option maxRecDepth 8000 in
set_option maxHeartbeats 1000000 in
theorem xnum_bad (x : Nat) (vB : Value) (a : Nat) (why b : Int) (v : Value) (w : World) (h : RfAt w x vB a why b) (hw : why ≠ 0) :
  Calls Tryz.prog 58 #[ptr x, v] w (RfStuck why b (.int .u64 0) w) := by
 have HS := Keep.mk (RS.start h)
 have HB := Keep.mk (below_new w (.cells #[.int .i64 0, .int .i64 0] 34))
 have hy1 : (why == 0) = false := by simpa using hw
 clear h
 go_enter Tryz.func58, Tryz.ntmps58
 go_wp2_with (first | (refine wpList_new rfl 34 rfl _ Tryz.new34 ?_; refine Hid.out ?_))
 refine hid_in ?_
 generalize w.alloc (.cells #[.int .i64 0, .int .i64 0] 34) = w1 at *
 have c2 := RfAt.c2 HS.out.rf
 have c3 := RfAt.c3 HS.out.rf
 have d0 := HS.out.d0
 have d1 := HS.out.d1
 have e0 := HS.out.cell.frozen 0
 have e1 := HS.out.cell.frozen 1
 go_wp2_with fail
 go_region
 go_wp2
 exact bodyPost_ret (results_tmp_cell_row Tryz.results58 _ _ w.heap.size 34 _ (0, 0) _ _ rfl rfl (HS.out.fin (.int .i64 why) (.int .i64 b)).1.drew Tryz.underlying34 rfl Tryz.size34) rfl ⟨rfl, (below_two HB.out (Nat.le_refl _) _ _).drew⟩

theorem pow_bnd (t : Nat) (c y : Int) (ht : t ≤ 9) (h9 : t = 9 → c ≤ 1) (c0 : 0 ≤ c) (c1 : c < 256) (y0 : 0 ≤ y) (y1 : y < 2 ^ (7 * t)) :
  0 ≤ c % 128 * 2 ^ (7 * t) ∧ c % 128 * 2 ^ (7 * t) < 18446744073709551616 ∧ y + c % 128 * 2 ^ (7 * t) < 18446744073709551616 ∧ (t ≤ 8 → y + c % 128 * 2 ^ (7 * t) < 2 ^ (7 * (t + 1))) := by
 rcases (by omega : t = 0 ∨ t = 1 ∨ t = 2 ∨ t = 3 ∨ t = 4 ∨ t = 5 ∨ t = 6 ∨ t = 7 ∨ t = 8 ∨ t = 9) with rfl | rfl | rfl | rfl | rfl | rfl | rfl | rfl | rfl | rfl <;>
  (simp only [Nat.reduceMul, Nat.reduceAdd, Int.reducePow] at y1 ⊢; omega)
theorem fstM_err {D : List Int} {e : Int} (h : fstG D 0 0 = (0, 0, e)) (he : e ≠ 0) (most : Int) : fstM D most = (0, 0, e) := by
 unfold fstM; rw [h, if_neg (fun h => he h.1)]
theorem fstM_over {D : List Int} {s n most : Int} (h : fstG D 0 0 = (s, n, 0)) (hm : most < s) : fstM D most = (0, 0, 22) := by
 unfold fstM; rw [h, if_pos ⟨rfl, hm⟩]
theorem fstM_ok {D : List Int} {s n most : Int} (h : fstG D 0 0 = (s, n, 0)) (hm : ¬ most < s) : fstM D most = (s, n, 0) := by
 unfold fstM; rw [h, if_neg (fun h => hm h.2)]
theorem tri {X W X' W' : Int} {N N' : Nat} (h : (X', (N' : Int), W') = (X, (N : Int), W)) : X = X' ∧ N = N' ∧ W = W' := by
 injection h with h1 h2
 injection h2 with h2 h3
 exact ⟨h1.symm, by omega, h3.symm⟩

set_option maxRecDepth 8000 in
set_option maxHeartbeats 4000000 in
theorem xnum_good (x : Nat) (vB : Value) (l : List Int) (a most : Nat) (w : World) (h : RfAt w x vB a 0 0) (hR : ∀ wx, (Grown w wx fun k => k = x) → RowAt wx vB l) (ha : a ≤ l.length) (hb : l.length ≤ 140737488355328) (hby : Byts l) (D : List Int) (hD : D = l.drop a) (W X : Int) (N : Nat) (hM : fstM D most = (X, (N : Int), W)) :
  Calls Tryz.prog 58 #[ptr x, .int .u64 (most : Int)] w (RfPost x vB W (a + N) (.int .u64 X) w) := by
 have HM := Keep.mk hM
 have HS := Keep.mk (RS.start h)
 have HR := Keep.mk hR
 have hlen : D.length = l.length - a := by rw [hD, List.length_drop]
 have HBy : Keep (∀ t, t < D.length → 0 ≤ D.getD t 0 ∧ D.getD t 0 < 256) := ⟨fun t ht => by
  have h1 : D.getD t 0 ∈ l := by
   rw [List.getD_eq_getElem?_getD, List.getElem?_eq_getElem ht, Option.getD_some]
   exact List.mem_of_mem_drop (by rw [← hD]; exact List.getElem_mem ht)
  exact hby _ h1⟩
 obtain ⟨va, vc, hvB⟩ := row_form (hR w (Grown.refl _ _))
 subst hvB
 have HDg : Keep (∀ t, t < D.length → D.drop t = D.getD t 0 :: D.drop (t + 1)) := ⟨fun t ht => by
  rw [List.drop_eq_getElem_cons ht, List.getD_eq_getElem?_getD, List.getElem?_eq_getElem ht, Option.getD_some]⟩
 have HRc : Keep (∀ wx, (Grown w wx fun k => k = x) → ∀ t, t < D.length → ∃ gb go, va = some ⟨gb, go, none⟩ ∧ wx.cell? ⟨gb, go + (a + t), none⟩ = some (.int .u8 (D.getD t 0))) := ⟨fun wx hg t ht => by
  rcases HR.out wx hg with ⟨_, e⟩ | ⟨_, _, _, e⟩ | ⟨g, o, _, e, _, h3⟩
  ·have : l.length = 0 := by rw [e]; rfl
   omega
  ·have : l.length = 0 := by rw [e]; rfl
   omega
  ·injection e with e1 e2
   refine ⟨g, o, e1, ?_⟩
   rw [h3 (a + t) (by omega), hD]
   simp [List.getD_eq_getElem?_getD]⟩
 have Hb := Keep.mk hb
 have Ha := Keep.mk ha
 have hbi : (l.length : Int) ≤ 140737488355328 := by omega
 have hai : (a : Int) ≤ (l.length : Int) := by omega
 have Hlen := Keep.mk hlen
 clear h hR hlen ha hb hD hby HR hM
 go_enter Tryz.func58, Tryz.ntmps58
 go_wp2_with (first | (refine wpList_new rfl 34 rfl _ Tryz.new34 ?_; refine Hid.out ?_))
 refine hid_in ?_
 generalize w.alloc (.cells #[.int .i64 0, .int .i64 0] 34) = w1 at *
 have c2 := RfAt.c2 HS.out.rf
 go_wp2_with fail
 clear c2
 go_loopw [6, 7] (fun u i wr => ∃ (t : Nat) (y : Int), t ≤ 9 ∧ t ≤ D.length ∧ u = .int .u64 y ∧ i = .int .i64 (t : Int) ∧ Keep (fstG (D.drop t) t y = fstG D 0 0) ∧ Keep (0 ≤ y ∧ y < 2 ^ (7 * t)) ∧ RS w x (.slice va l.length vc) a 0 0 wr) (fun _ i _ => 10 - (intOf i).toNat)
 case atStart => exact ⟨0, 0, by omega, by omega, rfl, rfl, ⟨by simp⟩, ⟨by simp⟩, HS.out⟩
 case round =>
  clear HS
  obtain ⟨t, y, ht, htD, rfl, rfl, hF, hy, hS⟩ := hrel
  have HS := Keep.mk hS
  have hti : (t : Int) < 10 := by omega
  clear hS
  go_wp2_with fail
  refine (xleft_any x _ l.length vc a 0 0 wr HS.out.rf Ha.out Hb.out).mono ?_
  rintro e w2 ⟨rfl, qd, hw2⟩
  have HS2 := Keep.mk (HS.out.later (w2 := w2) (by rw [hw2]; exact below_drewN _ _))
  clear hw2 HS
  by_cases hlt : t < D.length
  ·have hlt' : ¬ ((l.length : Int) - (a : Int) ≤ (t : Int)) := by have := Hlen.out; omega
   obtain ⟨gb, go, rfl, hc⟩ := HRc.out w2 HS2.out.gr t hlt
   have hcb := HBy.out t hlt
   have hDg := HDg.out t hlt
   obtain ⟨c, hcc⟩ : ∃ c, Keep (c = D.getD t 0) := ⟨_, ⟨rfl⟩⟩
   rw [← hcc.out] at hc hcb hDg
   obtain ⟨hc0, hc1⟩ := hcb
   rw [hDg] at hF
   have g0 := RfAt.c0 HS2.out.rf
   have g1 := RfAt.c1 HS2.out.rf
   clear hDg
   by_cases h9 : t = 9
   ·have hb9 : ((t : Int) == 9) = true := by rw [h9]; rfl
    have hp0 : (0 : Int) < (t : Int) := by omega
    by_cases h1 : 1 < c
    ·have h1' : 1 < c := h1
     have hG : Keep (fstG D 0 0 = (0, 0, 22)) := ⟨by rw [← hF.out, fstG, if_pos ⟨h9, h1⟩]⟩
     obtain ⟨rfl, rfl, rfl⟩ := tri ((show (0, ((0 : Nat) : Int), (22 : Int)) = fstM D most from (fstM_err hG.out (by decide) _).symm).trans HM.out)
     clear HM
     try clear h9
     try clear hp
     go_wp2_with fail
     go_quiet (fail)
     obtain ⟨w3, hw3⟩ : ∃ w3, Keep (w3 = w2.drewN nq) := ⟨_, ⟨rfl⟩⟩
     rw [← hw3.out]
     have HS3 := Keep.mk (HS2.out.later (w2 := w3) (by rw [hw3.out]; exact below_drewN _ _))
     have k1 := RfAt.c1 HS3.out.rf
     clear hw3 g0 g1 hc HS2
     go_wp2_with fail
     refine (xwrong_any x _ a 22 w3 HS3.out.rf).mono ?_
     rintro e w4 ⟨rfl, hr, hg⟩
     have HS4 := Keep.mk (HS3.out.turned hr hg)
     clear hr hg k1
     have d0 := HS4.out.d0
     have d1 := HS4.out.d1
     have e0 := HS4.out.cell.frozen 0
     have e1 := HS4.out.cell.frozen 1
     go_wp2
     have hf := HS4.out.fin (.int .i64 22) (.int .i64 (a : Int))
     exact bodyPost_ret (results_tmp_cell_row Tryz.results58 _ _ w.heap.size 34 _ (0, 0) _ _ rfl rfl hf.1 Tryz.underlying34 rfl Tryz.size34) rfl ⟨_, .inr ⟨by decide, rfl⟩, rfl, hf.2.1, hf.2.2⟩
    ·have H9 : t = 9 → c ≤ 1 := fun _ => by omega
     have h128 : ¬ (128 : Int) ≤ c := by omega
     have hpb := pow_bnd t c y ht H9 hc0 hc1 hy.out.1 hy.out.2
     obtain ⟨sv, hsv⟩ : ∃ sv, Keep (sv = y + c % 128 * 2 ^ (7 * t)) := ⟨_, ⟨rfl⟩⟩
     have hwr : IntKind.u64.wrap (y + IntKind.u64.wrap (c % 128 * 2 ^ (7 * t))) = sv := by
      rw [IntKind.wrap_u64, IntKind.wrap_u64, hsv.out]
      have := hy.out.1
      omega
     have Hpb := Keep.mk hpb
     clear hpb H9
     by_cases h0 : c = 0
     ·have h0' : (c == 0) = true := by simp [h0]
      have hG : Keep (fstG D 0 0 = (0, 0, 21)) := ⟨by rw [← hF.out, fstG, if_neg (by omega), if_pos ⟨h0, by omega⟩]⟩
      clear h0
      obtain ⟨rfl, rfl, rfl⟩ := tri ((show (0, ((0 : Nat) : Int), (21 : Int)) = fstM D most from (fstM_err hG.out (by decide) _).symm).trans HM.out)
      clear HM
      try clear h9
      try clear hp
      go_wp2_with fail
      go_quiet (fail)
      obtain ⟨w3, hw3⟩ : ∃ w3, Keep (w3 = w2.drewN nq) := ⟨_, ⟨rfl⟩⟩
      rw [← hw3.out]
      have HS3 := Keep.mk (HS2.out.later (w2 := w3) (by rw [hw3.out]; exact below_drewN _ _))
      have k1 := RfAt.c1 HS3.out.rf
      clear hw3 g0 g1 hc HS2
      go_wp2_with fail
      refine (xwrong_any x _ a 21 w3 HS3.out.rf).mono ?_
      rintro e w4 ⟨rfl, hr, hg⟩
      have HS4 := Keep.mk (HS3.out.turned hr hg)
      clear hr hg k1
      have d0 := HS4.out.d0
      have d1 := HS4.out.d1
      have e0 := HS4.out.cell.frozen 0
      have e1 := HS4.out.cell.frozen 1
      go_wp2
      have hf := HS4.out.fin (.int .i64 21) (.int .i64 (a : Int))
      exact bodyPost_ret (results_tmp_cell_row Tryz.results58 _ _ w.heap.size 34 _ (0, 0) _ _ rfl rfl hf.1 Tryz.underlying34 rfl Tryz.size34) rfl ⟨_, .inr ⟨by decide, rfl⟩, rfl, hf.2.1, hf.2.2⟩
     ·have h0' : (c == 0) = false := by simpa using h0
      have hG : Keep (fstG D 0 0 = (sv, ((t + 1 : Nat) : Int), 0)) := ⟨by rw [← hF.out, fstG, if_neg (by omega), if_neg (by omega), if_pos (by omega), hsv.out]; rfl⟩
      by_cases hmost : (most : Int) < sv
      ·have hmost' : (most : Int) < sv := hmost
       obtain ⟨rfl, rfl, rfl⟩ := tri ((show (0, ((0 : Nat) : Int), (22 : Int)) = fstM D most from (fstM_over hG.out hmost).symm).trans HM.out)
       clear HM
       try clear h9
       try clear hp
       go_wp2_with fail
       go_quiet (fail)
       obtain ⟨w3, hw3⟩ : ∃ w3, Keep (w3 = w2.drewN nq) := ⟨_, ⟨rfl⟩⟩
       rw [← hw3.out]
       have HS3 := Keep.mk (HS2.out.later (w2 := w3) (by rw [hw3.out]; exact below_drewN _ _))
       have k1 := RfAt.c1 HS3.out.rf
       clear hw3 g0 g1 hc HS2
       go_wp2_with fail
       refine (xwrong_any x _ a 22 w3 HS3.out.rf).mono ?_
       rintro e w4 ⟨rfl, hr, hg⟩
       have HS4 := Keep.mk (HS3.out.turned hr hg)
       clear hr hg k1
       have d0 := HS4.out.d0
       have d1 := HS4.out.d1
       have e0 := HS4.out.cell.frozen 0
       have e1 := HS4.out.cell.frozen 1
       go_wp2
       have hf := HS4.out.fin (.int .i64 22) (.int .i64 (a : Int))
       exact bodyPost_ret (results_tmp_cell_row Tryz.results58 _ _ w.heap.size 34 _ (0, 0) _ _ rfl rfl hf.1 Tryz.underlying34 rfl Tryz.size34) rfl ⟨_, .inr ⟨by decide, rfl⟩, rfl, hf.2.1, hf.2.2⟩
      ·have hmost' : ¬ ((most : Int) < sv) := hmost
       obtain ⟨rfl, rfl, rfl⟩ := tri ((show (sv, ((t + 1 : Nat) : Int), (0 : Int)) = fstM D most from (fstM_ok hG.out hmost).symm).trans HM.out)
       clear HM
       try clear h9
       try clear hp
       go_wp2_with fail
       go_quiet (fail)
       obtain ⟨w3, hw3⟩ : ∃ w3, Keep (w3 = w2.drewN nq) := ⟨_, ⟨rfl⟩⟩
       rw [← hw3.out]
       have HS3 := Keep.mk (HS2.out.later (w2 := w3) (by rw [hw3.out]; exact below_drewN _ _))
       have k1 := RfAt.c1 HS3.out.rf
       clear hw3 g0 g1 hc HS2
       have hne : x ≠ w.heap.size := by have := HS3.out.lt; omega
       have hne' : w.heap.size ≠ x := fun e => hne e.symm
       have f1 := Blk.frozen HS3.out.rf 1
       have d0 := HS3.out.d0
       have d1 := HS3.out.d1
       have e0 := HS3.out.cell.frozen 0
       have e1 := HS3.out.cell.frozen 1
       go_wp2
       have hf := (HS3.out.step (a + (t + 1))).fin (.int .i64 0) (.int .i64 0)
       exact bodyPost_ret (results_tmp_cell_row Tryz.results58 _ _ w.heap.size 34 _ (0, 0) _ _ rfl rfl hf.1 Tryz.underlying34 rfl Tryz.size34) rfl ⟨_, .inl ⟨rfl, rfl⟩, rfl, hf.2.1, hf.2.2⟩
   ·have hb9 : ((t : Int) == 9) = false := by simp; omega
    have H9 : t = 9 → c ≤ 1 := fun h => absurd h h9
    have hpb := pow_bnd t c y ht H9 hc0 hc1 hy.out.1 hy.out.2
    obtain ⟨sv, hsv⟩ : ∃ sv, Keep (sv = y + c % 128 * 2 ^ (7 * t)) := ⟨_, ⟨rfl⟩⟩
    have hwr : IntKind.u64.wrap (y + IntKind.u64.wrap (c % 128 * 2 ^ (7 * t))) = sv := by
     rw [IntKind.wrap_u64, IntKind.wrap_u64, hsv.out]
     have := hy.out.1
     omega
    have Hpb := Keep.mk hpb
    clear hpb H9
    by_cases h128 : 128 ≤ c
    ·have h128' : (128 : Int) ≤ c := h128
     have K9 := Keep.mk h9
     try clear h9
     try clear hp
     go_wp2_with fail
     go_quiet (fail)
     obtain ⟨w3, hw3⟩ : ∃ w3, Keep (w3 = w2.drewN nq) := ⟨_, ⟨rfl⟩⟩
     rw [← hw3.out]
     have HS3 := Keep.mk (HS2.out.later (w2 := w3) (by rw [hw3.out]; exact below_drewN _ _))
     have k1 := RfAt.c1 HS3.out.rf
     clear hw3 g0 g1 hc HS2
     go_wp2_with fail
     go_roundw
     case rel => exact ⟨t + 1, sv, by have := K9.out; omega, by omega, rfl, by go_num, ⟨by rw [← hF.out, fstG, if_neg (by have := K9.out; omega), if_neg (by omega), if_neg (by omega), hsv.out]⟩, ⟨by rw [hsv.out]; have := Hpb.out.1; have := hy.out.1; omega, by rw [hsv.out]; exact Hpb.out.2.2.2 (by have := K9.out; omega)⟩, HS3.out⟩
     case measure => simp only [intOf]; omega
    ·have h128' : ¬ (128 : Int) ≤ c := h128
     by_cases hp : t = 0
     ·have hp0 : ¬ (0 : Int) < (t : Int) := by omega
      have hG : Keep (fstG D 0 0 = (sv, ((t + 1 : Nat) : Int), 0)) := ⟨by rw [← hF.out, fstG, if_neg (by omega), if_neg (by omega), if_pos (by omega), hsv.out]; rfl⟩
      by_cases hmost : (most : Int) < sv
      ·have hmost' : (most : Int) < sv := hmost
       obtain ⟨rfl, rfl, rfl⟩ := tri ((show (0, ((0 : Nat) : Int), (22 : Int)) = fstM D most from (fstM_over hG.out hmost).symm).trans HM.out)
       clear HM
       try clear h9
       try clear hp
       go_wp2_with fail
       go_quiet (fail)
       obtain ⟨w3, hw3⟩ : ∃ w3, Keep (w3 = w2.drewN nq) := ⟨_, ⟨rfl⟩⟩
       rw [← hw3.out]
       have HS3 := Keep.mk (HS2.out.later (w2 := w3) (by rw [hw3.out]; exact below_drewN _ _))
       have k1 := RfAt.c1 HS3.out.rf
       clear hw3 g0 g1 hc HS2
       go_wp2_with fail
       refine (xwrong_any x _ a 22 w3 HS3.out.rf).mono ?_
       rintro e w4 ⟨rfl, hr, hg⟩
       have HS4 := Keep.mk (HS3.out.turned hr hg)
       clear hr hg k1
       have d0 := HS4.out.d0
       have d1 := HS4.out.d1
       have e0 := HS4.out.cell.frozen 0
       have e1 := HS4.out.cell.frozen 1
       go_wp2
       have hf := HS4.out.fin (.int .i64 22) (.int .i64 (a : Int))
       exact bodyPost_ret (results_tmp_cell_row Tryz.results58 _ _ w.heap.size 34 _ (0, 0) _ _ rfl rfl hf.1 Tryz.underlying34 rfl Tryz.size34) rfl ⟨_, .inr ⟨by decide, rfl⟩, rfl, hf.2.1, hf.2.2⟩
      ·have hmost' : ¬ ((most : Int) < sv) := hmost
       obtain ⟨rfl, rfl, rfl⟩ := tri ((show (sv, ((t + 1 : Nat) : Int), (0 : Int)) = fstM D most from (fstM_ok hG.out hmost).symm).trans HM.out)
       clear HM
       try clear h9
       try clear hp
       go_wp2_with fail
       go_quiet (fail)
       obtain ⟨w3, hw3⟩ : ∃ w3, Keep (w3 = w2.drewN nq) := ⟨_, ⟨rfl⟩⟩
       rw [← hw3.out]
       have HS3 := Keep.mk (HS2.out.later (w2 := w3) (by rw [hw3.out]; exact below_drewN _ _))
       have k1 := RfAt.c1 HS3.out.rf
       clear hw3 g0 g1 hc HS2
       have hne : x ≠ w.heap.size := by have := HS3.out.lt; omega
       have hne' : w.heap.size ≠ x := fun e => hne e.symm
       have f1 := Blk.frozen HS3.out.rf 1
       have d0 := HS3.out.d0
       have d1 := HS3.out.d1
       have e0 := HS3.out.cell.frozen 0
       have e1 := HS3.out.cell.frozen 1
       go_wp2
       have hf := (HS3.out.step (a + (t + 1))).fin (.int .i64 0) (.int .i64 0)
       exact bodyPost_ret (results_tmp_cell_row Tryz.results58 _ _ w.heap.size 34 _ (0, 0) _ _ rfl rfl hf.1 Tryz.underlying34 rfl Tryz.size34) rfl ⟨_, .inl ⟨rfl, rfl⟩, rfl, hf.2.1, hf.2.2⟩
     ·have hp0 : (0 : Int) < (t : Int) := by omega
      by_cases h0 : c = 0
      ·have h0' : (c == 0) = true := by simp [h0]
       have hG : Keep (fstG D 0 0 = (0, 0, 21)) := ⟨by rw [← hF.out, fstG, if_neg (by omega), if_pos ⟨h0, by omega⟩]⟩
       clear h0
       obtain ⟨rfl, rfl, rfl⟩ := tri ((show (0, ((0 : Nat) : Int), (21 : Int)) = fstM D most from (fstM_err hG.out (by decide) _).symm).trans HM.out)
       clear HM
       try clear h9
       try clear hp
       go_wp2_with fail
       go_quiet (fail)
       obtain ⟨w3, hw3⟩ : ∃ w3, Keep (w3 = w2.drewN nq) := ⟨_, ⟨rfl⟩⟩
       rw [← hw3.out]
       have HS3 := Keep.mk (HS2.out.later (w2 := w3) (by rw [hw3.out]; exact below_drewN _ _))
       have k1 := RfAt.c1 HS3.out.rf
       clear hw3 g0 g1 hc HS2
       go_wp2_with fail
       refine (xwrong_any x _ a 21 w3 HS3.out.rf).mono ?_
       rintro e w4 ⟨rfl, hr, hg⟩
       have HS4 := Keep.mk (HS3.out.turned hr hg)
       clear hr hg k1
       have d0 := HS4.out.d0
       have d1 := HS4.out.d1
       have e0 := HS4.out.cell.frozen 0
       have e1 := HS4.out.cell.frozen 1
       go_wp2
       have hf := HS4.out.fin (.int .i64 21) (.int .i64 (a : Int))
       exact bodyPost_ret (results_tmp_cell_row Tryz.results58 _ _ w.heap.size 34 _ (0, 0) _ _ rfl rfl hf.1 Tryz.underlying34 rfl Tryz.size34) rfl ⟨_, .inr ⟨by decide, rfl⟩, rfl, hf.2.1, hf.2.2⟩
      ·have h0' : (c == 0) = false := by simpa using h0
       have hG : Keep (fstG D 0 0 = (sv, ((t + 1 : Nat) : Int), 0)) := ⟨by rw [← hF.out, fstG, if_neg (by omega), if_neg (by omega), if_pos (by omega), hsv.out]; rfl⟩
       by_cases hmost : (most : Int) < sv
       ·have hmost' : (most : Int) < sv := hmost
        obtain ⟨rfl, rfl, rfl⟩ := tri ((show (0, ((0 : Nat) : Int), (22 : Int)) = fstM D most from (fstM_over hG.out hmost).symm).trans HM.out)
        clear HM
        try clear h9
        try clear hp
        go_wp2_with fail
        go_quiet (fail)
        obtain ⟨w3, hw3⟩ : ∃ w3, Keep (w3 = w2.drewN nq) := ⟨_, ⟨rfl⟩⟩
        rw [← hw3.out]
        have HS3 := Keep.mk (HS2.out.later (w2 := w3) (by rw [hw3.out]; exact below_drewN _ _))
        have k1 := RfAt.c1 HS3.out.rf
        clear hw3 g0 g1 hc HS2
        go_wp2_with fail
        refine (xwrong_any x _ a 22 w3 HS3.out.rf).mono ?_
        rintro e w4 ⟨rfl, hr, hg⟩
        have HS4 := Keep.mk (HS3.out.turned hr hg)
        clear hr hg k1
        have d0 := HS4.out.d0
        have d1 := HS4.out.d1
        have e0 := HS4.out.cell.frozen 0
        have e1 := HS4.out.cell.frozen 1
        go_wp2
        have hf := HS4.out.fin (.int .i64 22) (.int .i64 (a : Int))
        exact bodyPost_ret (results_tmp_cell_row Tryz.results58 _ _ w.heap.size 34 _ (0, 0) _ _ rfl rfl hf.1 Tryz.underlying34 rfl Tryz.size34) rfl ⟨_, .inr ⟨by decide, rfl⟩, rfl, hf.2.1, hf.2.2⟩
       ·have hmost' : ¬ ((most : Int) < sv) := hmost
        obtain ⟨rfl, rfl, rfl⟩ := tri ((show (sv, ((t + 1 : Nat) : Int), (0 : Int)) = fstM D most from (fstM_ok hG.out hmost).symm).trans HM.out)
        clear HM
        try clear h9
        try clear hp
        go_wp2_with fail
        go_quiet (fail)
        obtain ⟨w3, hw3⟩ : ∃ w3, Keep (w3 = w2.drewN nq) := ⟨_, ⟨rfl⟩⟩
        rw [← hw3.out]
        have HS3 := Keep.mk (HS2.out.later (w2 := w3) (by rw [hw3.out]; exact below_drewN _ _))
        have k1 := RfAt.c1 HS3.out.rf
        clear hw3 g0 g1 hc HS2
        have hne : x ≠ w.heap.size := by have := HS3.out.lt; omega
        have hne' : w.heap.size ≠ x := fun e => hne e.symm
        have f1 := Blk.frozen HS3.out.rf 1
        have d0 := HS3.out.d0
        have d1 := HS3.out.d1
        have e0 := HS3.out.cell.frozen 0
        have e1 := HS3.out.cell.frozen 1
        go_wp2
        have hf := (HS3.out.step (a + (t + 1))).fin (.int .i64 0) (.int .i64 0)
        exact bodyPost_ret (results_tmp_cell_row Tryz.results58 _ _ w.heap.size 34 _ (0, 0) _ _ rfl rfl hf.1 Tryz.underlying34 rfl Tryz.size34) rfl ⟨_, .inl ⟨rfl, rfl⟩, rfl, hf.2.1, hf.2.2⟩
  ·have hlt' : (l.length : Int) - (a : Int) ≤ (t : Int) := by have := Hlen.out; omega
   have hG : Keep (fstG D 0 0 = (0, 0, 20)) := ⟨by rw [← hF.out, List.drop_of_length_le (by omega), fstG]⟩
   have k1 := RfAt.c1 HS2.out.rf
   obtain ⟨rfl, rfl, rfl⟩ := tri ((show (0, ((0 : Nat) : Int), (20 : Int)) = fstM D most from (fstM_err hG.out (by decide) _).symm).trans HM.out)
   clear HM
   go_wp2_with fail
   refine (xwrong_any x _ a 20 w2 HS2.out.rf).mono ?_
   rintro e w4 ⟨rfl, hr, hg⟩
   have HS4 := Keep.mk (HS2.out.turned hr hg)
   clear hr hg k1
   have d0 := HS4.out.d0
   have d1 := HS4.out.d1
   have e0 := HS4.out.cell.frozen 0
   have e1 := HS4.out.cell.frozen 1
   go_wp2
   have hf := HS4.out.fin (.int .i64 20) (.int .i64 (a : Int))
   exact bodyPost_ret (results_tmp_cell_row Tryz.results58 _ _ w.heap.size 34 _ (0, 0) _ _ rfl rfl hf.1 Tryz.underlying34 rfl Tryz.size34) rfl ⟨_, .inr ⟨by decide, rfl⟩, rfl, hf.2.1, hf.2.2⟩
theorem own_empty (w : World) (g : Nat) (h : Blk w g 5 #[]) : Own w (.slice (some ⟨g, 0, none⟩) 0 0) [] := Own.mk (l := []) h (Nat.le_refl _) (Nat.zero_le _) rfl (by simp [bv])
theorem wp_app {Q : Exit → Act → World → Prop} {o : Oper} {a : Act} {w : World} {K : Act → World → Prop} (s x : Operand)
  (ho : o.op = .call { callee := .builtin .append, args := #[s, x], argTypes := #[24, 24] }) (v vx : Value) (l m : List Int)
  (hs : a.eval s = v) (hx : a.eval x = vx) (hown : Own w v l) (hrow : RowAt w vx m) (hb : l.length + m.length ≤ 140737488355328)
  (h : ∀ v' w', AppPost w v (l ++ m) v' w' → K (a.put o.dst v') w') : o.wp Tryz.prog a w K Q := by
 obtain ⟨v', w', hr, h2⟩ := run_app_row w o.type v vx l m hown hrow (by omega)
 unfold Oper.wp execOp
 simp only [ho, resolve, invoke, builtin, Sem.run_bind, Sem.run_pure, Result.andThen_ok, List.map_toArray, List.map_cons, List.map_nil, hs, hx, hr]
 exact h v' w' h2
theorem yieldsIf_slice2 {P : Program} {ops : Array Oper} {S : World → Prop} {op : Oper} {a : Act} (hw : Region.wanted op (yielded ops a.tmps) = true) (t : TypeId) (x lo hi : Operand) (ho : op.op = .slice t x (some lo) (some hi) none)
  (vx vl vh vs : Value) (hx : a.eval x = vx) (hl : a.eval lo = vl) (hh : a.eval hi = vh) (hr : ∀ w : World, (Instr.sliceAt t vx (some vl) (some vh) none).run P w = .ok vs w) : YieldsIf P ops S op vs a :=
 .inl ⟨hw, fun w _ => by
  unfold execOp
  simp only [ho, hx, hl, hh, Option.map_some, Option.map_none, Sem.run_bind, hr w, Result.andThen_ok, Sem.run_pure]⟩
theorem sl_run2 (base : Option Addr) (n cap a b : Nat) (hab : a ≤ b) (hb : b ≤ cap) (wx : World) : (Instr.sliceAt 24 (.slice base n cap) (some (.int .i64 (a : Int))) (some (.int .i64 (b : Int))) none).run Tryz.prog wx = .ok (sliced base a b cap 1) wx := by
 have hu : Tryz.prog.underlying 24 = some (.slice (Tryz.prog.elem 24)) := by rw [Tryz.elem24]; exact Tryz.underlying24
 have h1 := run_slice_lh (P := Tryz.prog) (w := wx) 24 base n cap hu .i64 .i64 (a : Int) (b : Int) (by omega) (by omega) (by omega)
 have h2 := run_sliceAt_slice (P := Tryz.prog) (w := wx) 24 (.slice base n cap) (some (.int .i64 (a : Int))) (some (.int .i64 (b : Int))) none hu
 rw [Tryz.elem24] at h1
 rw [h2, h1]
 refine (congrArg (fun z => Result.andThen z fun s w => Result.ok (sliced base (a : Int).toNat (b : Int).toNat cap s) w) (Tryz.sizeOf5 wx)).trans ?_
 show Result.ok (sliced base (a : Int).toNat (b : Int).toNat cap 1) wx = _
 rw [Int.toNat_natCast, Int.toNat_natCast]
theorem mid_any (vb : Value) (lb : List Int) (w : World) (hr : RowAt w vb lb) (a M : Nat) (ha : a + M ≤ lb.length) :
  ∃ vs, (∀ wx : World, (Instr.sliceAt 24 vb (some (.int .i64 (a : Int))) (some (.int .i64 ((a : Int) + (M : Int)))) none).run Tryz.prog wx = .ok vs wx) ∧ ∀ wx, RowAt wx vb lb → RowAt wx vs ((lb.drop a).take M) := by
 have e : ((a : Int) + (M : Int)) = ((a + M : Nat) : Int) := by omega
 rw [e]
 have hl : ((lb.drop a).take M).length = M := by rw [List.length_take, List.length_drop]; omega
 rcases hr with ⟨rfl, rfl⟩ | ⟨ad, c, rfl, rfl⟩ | ⟨h, off, cap, rfl, hc, _⟩
 ·obtain rfl : a = 0 := by simp at ha; omega
  obtain rfl : M = 0 := by simp at ha; omega
  exact ⟨_, sl_run2 none 0 0 0 0 (by omega) (by omega), fun wx h => .inl ⟨rfl, by simp⟩⟩
 ·obtain rfl : a = 0 := by simp at ha; omega
  obtain rfl : M = 0 := by simp at ha; omega
  refine ⟨_, sl_run2 (some ad) 0 c 0 0 (by omega) (by omega), fun wx h => .inr (.inl ?_)⟩
  unfold sliced
  split
  ·exact ⟨_, _, rfl, by simp⟩
  ·exact ⟨_, _, rfl, by simp⟩
 ·refine ⟨_, sl_run2 (some ⟨h, off, none⟩) lb.length cap a (a + M) (by omega) (by omega), fun wx hx => ?_⟩
  unfold sliced
  by_cases hca : cap = a
  ·obtain rfl : M = 0 := by omega
   rw [if_pos hca]
   exact .inr (.inl ⟨_, _, by rw [Nat.add_zero, Nat.sub_self], by simp⟩)
  ·rw [if_neg hca]
   rcases hx with ⟨e, _⟩ | ⟨ad, c, e, h0⟩ | ⟨h', off', cap', e, _, h3⟩
   ·cases e
   ·injection e with e1 e2
    obtain rfl : M = 0 := by omega
    exact .inr (.inl ⟨_, _, by rw [Nat.add_zero, Nat.sub_self]; rfl, by simp⟩)
   ·injection e with e1 e2 e3
    injection e1 with e1
    injection e1 with e1 e4
    subst e1 e3 e4
    refine .inr (.inr ⟨h, off + a, cap - a, ?_, by omega, fun i hi => ?_⟩)
    ·rw [hl, show a + M - a = M by omega]
     show Value.slice (some (Addr.add ⟨h, off, none⟩ (a * 1))) M (cap - a) = _
     rw [Nat.mul_one]
     cases a <;> rfl
    ·rw [hl] at hi
     rw [Nat.add_assoc, h3 (a + i) (by omega)]
     simp [List.getD_eq_getElem?_getD, hi]

def RfPostB (x : Nat) (vB : Value) (why : Int) (a : Nat) (l : List Int) (w : World) (e : Ending) (w' : World) : Prop :=
 ∃ b res, ErrB why a b ∧ e = .returned (.tuple #[res, .agg #[.int .i64 why, .int .i64 b]]) ∧ RfAt w' x vB a why b ∧ (Grown w w' fun k => k = x) ∧ RowAt w' res l ∧ ∀ k, res.ownBlock = some k → w.heap.size ≤ k
theorem row_two {w : World} {g : Nat} {v : Value} {l : List Int} (h : RowAt w v l) (hg : v.ownBlock ≠ some g) (a b : Value) : RowAt ((w.setCell ⟨g, 0, none⟩ a).setCell ⟨g, 1, none⟩ b) v l :=
 (h.grown (Grown.setCell w g 0 a (S := fun k => k = g) fun _ => rfl) (fun k hk _ e => hg (by rw [hk, e]))).grown (Grown.setCell _ g 1 b (S := fun k => k = g) fun _ => rfl) (fun k hk _ e => hg (by rw [hk, e]))


set_option maxRecDepth 8000 in
set_option maxHeartbeats 4000000 in
theorem xraw_good (x : Nat) (vB : Value) (l : List Int) (a : Nat) (n : Int) (w : World) (h : RfAt w x vB a 0 0) (hR : ∀ wx, (Grown w wx fun k => k = x) → RowAt wx vB l) (ha : a ≤ l.length) (hb : l.length ≤ 140737488355328) (D : List Int) (hD : D = l.drop a) (W : Int) (hW : W = nextW D n) (N : Nat) (hN : N = nextN D n) :
  Calls Tryz.prog 90 #[ptr x, .int .i64 n] w (RfPostB x vB W (a + N) (D.take N) w) := by
 have HS := Keep.mk (RS.start h)
 have HR := Keep.mk hR
 have hlen : D.length = l.length - a := by rw [hD, List.length_drop]
 obtain ⟨va, vc, hvB⟩ := row_form (hR w (Grown.refl _ _))
 subst hvB
 have Hb := Keep.mk hb
 have Ha := Keep.mk ha
 have hbi : (l.length : Int) ≤ 140737488355328 := by omega
 have hai : (a : Int) ≤ (l.length : Int) := by omega
 by_cases hneg : n < 0
 ·have HW : W = 1 := by rw [hW]; unfold nextW; rw [if_pos hneg]
  have HN : N = 0 := by rw [hN]; exact nextN_1 D n (by rw [← hW, HW]; decide)
  subst HN
  rw [HW]
  clear h hR hW hN hlen ha hb hD HW
  go_enter Tryz.func90, Tryz.ntmps90
  go_wp2_with (first | (refine wpList_new rfl 34 rfl _ Tryz.new34 ?_; refine Hid.out ?_))
  refine hid_in ?_
  generalize w.alloc (.cells #[.int .i64 0, .int .i64 0] 34) = w1 at *
  have c2 := RfAt.c2 HS.out.rf
  have k1 := RfAt.c1 HS.out.rf
  go_wp2_with fail
  refine (xwrong_any x _ a 1 w1 HS.out.rf).mono ?_
  rintro e w4 ⟨rfl, hr, hg⟩
  have HS4 := Keep.mk (HS.out.turned hr hg)
  clear hr hg k1
  have d0 := HS4.out.d0
  have d1 := HS4.out.d1
  have e0 := HS4.out.cell.frozen 0
  have e1 := HS4.out.cell.frozen 1
  go_wp2
  have hf := HS4.out.fin (.int .i64 1) (.int .i64 (a : Int))
  exact bodyPost_ret (results_tmp_cell_row Tryz.results90 _ _ w.heap.size 34 _ (0, 0) _ _ rfl rfl hf.1 Tryz.underlying34 rfl Tryz.size34) rfl ⟨_, _, .inr ⟨by decide, rfl⟩, rfl, hf.2.1, hf.2.2, .inl ⟨rfl, by simp⟩, fun k hk => by simp [Value.ownBlock] at hk⟩
 by_cases hbig : (D.length : Int) < n
 ·have HW : W = 20 := by rw [hW]; unfold nextW; rw [if_neg hneg, if_pos hbig]
  have HN : N = 0 := by rw [hN]; exact nextN_1 D n (by rw [← hW, HW]; decide)
  subst HN
  rw [HW]
  have hbig' : (l.length : Int) - (a : Int) < n := by omega
  clear h hR hW hN hlen ha hb hD HW
  go_enter Tryz.func90, Tryz.ntmps90
  go_wp2_with (first | (refine wpList_new rfl 34 rfl _ Tryz.new34 ?_; refine Hid.out ?_))
  refine hid_in ?_
  generalize w.alloc (.cells #[.int .i64 0, .int .i64 0] 34) = w1 at *
  have c2 := RfAt.c2 HS.out.rf
  go_wp2_with fail
  refine (xleft_any x _ l.length vc a 0 0 w1 HS.out.rf Ha.out Hb.out).mono ?_
  rintro e w2 ⟨rfl, qd, hw2⟩
  have HS2 := Keep.mk (HS.out.later (w2 := w2) (by rw [hw2]; exact below_drewN _ _))
  clear hw2 c2 HS
  have k1 := RfAt.c1 HS2.out.rf
  go_wp2_with fail
  refine (xwrong_any x _ a 20 w2 HS2.out.rf).mono ?_
  rintro e w4 ⟨rfl, hr, hg⟩
  have HS4 := Keep.mk (HS2.out.turned hr hg)
  clear hr hg k1
  have d0 := HS4.out.d0
  have d1 := HS4.out.d1
  have e0 := HS4.out.cell.frozen 0
  have e1 := HS4.out.cell.frozen 1
  go_wp2
  have hf := HS4.out.fin (.int .i64 20) (.int .i64 (a : Int))
  exact bodyPost_ret (results_tmp_cell_row Tryz.results90 _ _ w.heap.size 34 _ (0, 0) _ _ rfl rfl hf.1 Tryz.underlying34 rfl Tryz.size34) rfl ⟨_, _, .inr ⟨by decide, rfl⟩, rfl, hf.2.1, hf.2.2, .inl ⟨rfl, by simp⟩, fun k hk => by simp [Value.ownBlock] at hk⟩
 ·obtain ⟨M, rfl⟩ : ∃ M : Nat, n = (M : Int) := ⟨n.toNat, by omega⟩
  have HW : W = 0 := by rw [hW]; unfold nextW; rw [if_neg hneg, if_neg hbig]
  have HN : N = M := by rw [hN, (nextN_0 D (M : Int) (by rw [← hW, HW])).1]; rfl
  subst HN
  rw [HW, hD]
  have hbig' : ¬ ((l.length : Int) - (a : Int) < (N : Int)) := by omega
  have hMl : a + N ≤ l.length := by omega
  have HMl : Keep (a + N ≤ l.length) := ⟨hMl⟩
  have hMi : (a : Int) + (N : Int) ≤ (l.length : Int) := by omega
  obtain ⟨vs, hsl, hrs⟩ := mid_any _ l w (hR w (Grown.refl _ _)) a N hMl
  have HRs := Keep.mk hrs
  clear hrs hMl
  clear h hR hW hN hlen ha hb hD HW
  go_enter Tryz.func90, Tryz.ntmps90
  go_wp2_with (first | (refine wpList_new rfl 34 rfl _ Tryz.new34 ?_; refine Hid.out ?_))
  refine hid_in ?_
  generalize w.alloc (.cells #[.int .i64 0, .int .i64 0] 34) = w1 at *
  have c2 := RfAt.c2 HS.out.rf
  go_wp2_with fail
  refine (xleft_any x _ l.length vc a 0 0 w1 HS.out.rf Ha.out Hb.out).mono ?_
  rintro e w2 ⟨rfl, qd, hw2⟩
  have HS2 := Keep.mk (HS.out.later (w2 := w2) (by rw [hw2]; exact below_drewN _ _))
  clear hw2 c2 HS
  have c2 := RfAt.c2 HS2.out.rf
  go_wp2_with fail
  obtain ⟨wk, rfl⟩ : ∃ wk, wk = w2 := ⟨_, rfl⟩
  have HE := Keep.mk (Blk.new wk 5 #[])
  have HS4 := Keep.mk (HS2.out.later (below_new wk (.cells #[] 5)))
  have Hxk : Keep (x < wk.heap.size) := ⟨Blk.lt HS2.out.rf⟩
  have Hgk : Keep (w.heap.size < wk.heap.size) := ⟨HS2.out.cell.lt⟩
  generalize wk.alloc (.cells #[] 5) = w4 at *
  have HRv : Keep (RowAt w4.drew vs ((l.drop a).take N)) := ⟨HRs.out _ (HR.out _ HS4.out.gr.drew)⟩
  have g0 : w4.drew.cell? ⟨x, 0, none⟩ = some (Value.slice va l.length vc) := RfAt.c0 HS4.out.rf
  have g1 : w4.drew.cell? ⟨x, 1, none⟩ = some (.int .i64 (a : Int)) := RfAt.c1 HS4.out.rf
  have hwi : IntKind.i64.wrap ((a : Int) + (N : Int)) = (a : Int) + (N : Int) := by rw [IntKind.wrap_i64]; omega
  clear c2 HS2
  refine wp_region_held_drew (S := fun wx => wx.cell? ⟨x, 0, none⟩ = some (Value.slice va l.length vc) ∧ wx.cell? ⟨x, 1, none⟩ = some (.int .i64 (a : Int))) (by kernel_rfl) ⟨g0, g1⟩ (fun hHeld => ?_)
  refine tkS (i := 0) (oi := ⟨some 36, Op.move (Operand.tmp 6), 24, _, _, none⟩) (v := .slice (some ⟨wk.heap.size, 0, none⟩) 0 0) rfl (Or.inl ⟨by rfl, fun w hS => by go_simp⟩) hHeld ?_
  refine tkS (i := 1) (oi := ⟨some 37, Op.move (Operand.tmp 0), 76, _, _, none⟩) (v := ptr x) rfl (Or.inl ⟨by rfl, fun w hS => by go_simp⟩) hHeld ?_
  refine tkS (i := 2) (oi := ⟨some 38, Op.nilCheck (Operand.tmp 37), 0, _, _, none⟩) (v := .pointer (some ⟨x, 0, none⟩)) rfl (Or.inl ⟨by rfl, fun w hS => by go_simp⟩) hHeld ?_
  refine tkS (i := 3) (oi := ⟨some 39, Op.fieldAddr 78 (Operand.tmp 38) 0, 0, _, _, none⟩) (v := .pointer (some ⟨x, 0, none⟩)) rfl (Or.inl ⟨by rfl, fun w hS => by go_simp⟩) hHeld ?_
  refine tkS (i := 4) (oi := ⟨some 40, Op.load 24 (Operand.tmp 39), 24, _, _, none⟩) (v := Value.slice va l.length vc) rfl (Or.inl ⟨by rfl, fun w hS => by (obtain ⟨hS1, hS2⟩ := hS; clear hS2; go_simp)⟩) hHeld ?_
  refine tkS (i := 5) (oi := ⟨some 41, Op.move (Operand.tmp 0), 76, _, _, none⟩) (v := ptr x) rfl (Or.inl ⟨by rfl, fun w hS => by go_simp⟩) hHeld ?_
  refine tkS (i := 6) (oi := ⟨some 42, Op.nilCheck (Operand.tmp 41), 0, _, _, none⟩) (v := .pointer (some ⟨x, 0, none⟩)) rfl (Or.inl ⟨by rfl, fun w hS => by go_simp⟩) hHeld ?_
  refine tkS (i := 7) (oi := ⟨some 43, Op.fieldAddr 78 (Operand.tmp 42) 1, 0, _, _, none⟩) (v := .pointer (some ⟨x, 1, none⟩)) rfl (Or.inl ⟨by rfl, fun w hS => by go_simp⟩) hHeld ?_
  refine tkS (i := 8) (oi := ⟨some 44, Op.load 3 (Operand.tmp 43), 3, _, _, none⟩) (v := .int .i64 (a : Int)) rfl (Or.inl ⟨by rfl, fun w hS => by (obtain ⟨hS1, hS2⟩ := hS; clear hS1; go_simp)⟩) hHeld ?_
  refine tkS (i := 9) (oi := ⟨some 45, Op.move (Operand.tmp 0), 76, _, _, none⟩) (v := ptr x) rfl (Or.inl ⟨by rfl, fun w hS => by go_simp⟩) hHeld ?_
  refine tkS (i := 10) (oi := ⟨some 46, Op.nilCheck (Operand.tmp 45), 0, _, _, none⟩) (v := .pointer (some ⟨x, 0, none⟩)) rfl (Or.inl ⟨by rfl, fun w hS => by go_simp⟩) hHeld ?_
  refine tkS (i := 11) (oi := ⟨some 47, Op.fieldAddr 78 (Operand.tmp 46) 1, 0, _, _, none⟩) (v := .pointer (some ⟨x, 1, none⟩)) rfl (Or.inl ⟨by rfl, fun w hS => by go_simp⟩) hHeld ?_
  refine tkS (i := 12) (oi := ⟨some 48, Op.load 3 (Operand.tmp 47), 3, _, _, none⟩) (v := .int .i64 (a : Int)) rfl (Or.inl ⟨by rfl, fun w hS => by (obtain ⟨hS1, hS2⟩ := hS; clear hS1; go_simp)⟩) hHeld ?_
  refine tkS (i := 13) (oi := ⟨some 49, Op.move (Operand.tmp 1), 3, _, _, none⟩) (v := .int .i64 (N : Int)) rfl (Or.inl ⟨by rfl, fun w hS => by go_simp⟩) hHeld ?_
  refine tkS (i := 14) (oi := ⟨some 50, Op.binOp BinOp.add 3 (Operand.tmp 48) (Operand.tmp 49) 3, 3, _, _, none⟩) (v := .int .i64 ((a : Int) + (N : Int))) rfl (Or.inl ⟨by rfl, fun w hS => by go_simp⟩) hHeld ?_
  refine tkS (i := 15) (oi := ⟨some 51, Op.slice 24 (Operand.tmp 40) (some (Operand.tmp 44)) (some (Operand.tmp 50)) none, 24, _, _, none⟩) (v := vs) rfl (yieldsIf_slice2 (by rfl) 24 (.tmp 40) (.tmp 44) (.tmp 50) rfl (Value.slice va l.length vc) (.int .i64 (a : Int)) (.int .i64 ((a : Int) + (N : Int))) vs rfl rfl rfl hsl) hHeld ?_
  refine wpAnyH_ready (rs := [16]) (by kernel_rfl) (by simp) ?_
  refine AllReadyH.cons (o := ⟨some 52, Op.call { callee := Callee.builtin Builtin.append, args := #[Operand.tmp 36, Operand.tmp 51], argTypes := #[24, 24] }, 24, _, _, none⟩) rfl (fun K hK => ?_) AllReadyH.nil
  rw [if_pos (by rfl)]
  refine wp_app (.tmp 36) (.tmp 51) rfl (.slice (some ⟨wk.heap.size, 0, none⟩) 0 0) vs [] ((l.drop a).take N) rfl rfl (own_empty _ _ HE.out.drew) HRv.out (by rw [List.length_take, List.length_nil]; have := Hb.out; have := HMl.out; omega) ?_
  intro v' w5 hp
  have HP := Keep.mk hp
  have hrx : RfAt w5 x (Value.slice va l.length vc) a 0 0 := HP.out.grown.blk (Blk.drew HS4.out.rf) (by simp [Value.ownBlock]; have := Hxk.out; omega)
  refine hK.out _ _ ⟨hrx.c0, hrx.c1⟩ fun hHeld5 => ?_
  clear hK
  simp only [Act.put, pqA, pqB, pqC]
  refine tkS (i := 17) (oi := ⟨some 6, Op.assign (Operand.tmp 52), 24, _, _, none⟩) (v := v') rfl (Or.inl ⟨by rfl, fun w hS => by go_simp⟩) hHeld5 ?_
  refine wpAnyH_done (by kernel_rfl) ?_ _
  have HS5 : Keep (RS w x (Value.slice va l.length vc) a 0 0 w5) := ⟨⟨hrx, HP.out.grown.blk (Blk.drew HS4.out.cell) (by simp [Value.ownBlock]; have := Hgk.out; omega), HS4.out.gr.drew.next HP.out.grown (fun k hk e => by simp [Value.ownBlock] at e; have := Hgk.out; omega), HS4.out.lt⟩⟩
  have hO := HP.out.1
  rw [List.nil_append] at hO
  have hnx : v'.ownBlock ≠ some x := fun e => absurd ((Blk.typ hrx).one (hO.typ e)) (by decide)
  have hng : v'.ownBlock ≠ some w.heap.size := fun e => absurd (HS5.out.cell.typ.one (hO.typ e)) (by decide)
  have HOk : Keep (∀ k, v'.ownBlock = some k → w.heap.size ≤ k) := ⟨fun k hk => by
   rcases HP.out.moved with e | ⟨k', e, hk'⟩
   ·rw [e] at hk; simp [Value.ownBlock] at hk; have := Hgk.out; omega
   ·rw [e] at hk
    injection hk with hk
    have : w4.heap.size ≤ k' := hk'
    have := HS4.out.gr.size
    omega⟩
  have HRo : Keep (RowAt (((w5.setCell ⟨x, 1, none⟩ (.int .i64 ((a : Int) + (N : Int)))).setCell ⟨w.heap.size, 0, none⟩ (.int .i64 0)).setCell ⟨w.heap.size, 1, none⟩ (.int .i64 0)) v' ((l.drop a).take N)) := ⟨row_two (hO.row.grown (Grown.setCell w5 x 1 _ (S := fun k => k = x) fun _ => rfl) (fun k hk _ e => hnx (by rw [hk, e]))) hng _ _⟩
  have hne : x ≠ w.heap.size := by have := HS5.out.lt; omega
  have hne' : w.heap.size ≠ x := fun e => hne e.symm
  have k1 := RfAt.c1 HS5.out.rf
  have f1 := Blk.frozen HS5.out.rf 1
  have d0 := HS5.out.d0
  have d1 := HS5.out.d1
  have e0 := HS5.out.cell.frozen 0
  have e1 := HS5.out.cell.frozen 1
  clear hO hnx hng hrx HP HS4 HE HRv g0 g1 hsl HR HRs hp
  go_wp2
  have hf := (HS5.out.step (a + N)).fin (.int .i64 0) (.int .i64 0)
  exact bodyPost_ret (results_tmp_cell_row Tryz.results90 _ _ w.heap.size 34 _ (0, 0) _ _ rfl rfl hf.1 Tryz.underlying34 rfl Tryz.size34) rfl ⟨_, _, .inl ⟨rfl, rfl⟩, rfl, hf.2.1, hf.2.2, HRo.out, HOk.out⟩
set_option maxRecDepth 8000 in
set_option maxHeartbeats 1000000 in
theorem xzag_any (x : Int) (w : World) (hx0 : 0 ≤ x) (hx1 : x < 18446744073709551616) :
  Calls Tryz.prog 115 #[.int .u64 x] w fun e w' => e = .returned (.int .i64 (zag x)) ∧ w' = w := by
 have h2 : 0 ≤ x / 2 := by omega
 have h3 : x / 2 ≤ 9223372036854775807 := by omega
 obtain ⟨z, hz⟩ : ∃ z, Keep (z = zag x) := ⟨_, ⟨rfl⟩⟩
 rw [← hz.out]
 by_cases h : x % 2 = 0
 ·have h' : (x % 2 == 0) = true := by simp [h]
  have hy : Keep (z = x / 2) := ⟨by rw [hz.out]; unfold zag; rw [if_neg (by omega)]⟩
  clear hx1 h hz
  go_enter Tryz.func115, Tryz.ntmps115
  go_wp2
  go_ret
  refine ⟨?_, rfl⟩
  rw [hy.out]
  try rfl
 ·have h' : (x % 2 == 0) = false := by simpa using h
  have hy : Keep (z = -(x / 2) - 1) := ⟨by rw [hz.out]; unfold zag; rw [if_pos (by omega)]⟩
  clear hx1 h hz
  go_enter Tryz.func115, Tryz.ntmps115
  go_wp2
  go_ret
  refine ⟨?_, rfl⟩
  rw [hy.out]
  try rfl

set_option maxRecDepth 8000 in
set_option maxHeartbeats 2000000 in
theorem xsigned_bad (x : Nat) (vB : Value) (a : Nat) (why b : Int) (w : World) (h : RfAt w x vB a why b) (hw : why ≠ 0) :
  Calls Tryz.prog 93 #[ptr x] w (RfStuck why b (.int .i64 0) w) := by
 have HS := Keep.mk (RS.start h)
 have HB := Keep.mk (below_new w (.cells #[.int .i64 0, .int .i64 0] 34))
 have hy1 : (why == 0) = false := by simpa using hw
 have Hw := Keep.mk hw
 clear h hw
 go_enter Tryz.func93, Tryz.ntmps93
 go_wp2_with (first | (refine wpList_new rfl 34 rfl _ Tryz.new34 ?_; refine Hid.out ?_))
 refine hid_in ?_
 generalize w.alloc (.cells #[.int .i64 0, .int .i64 0] 34) = w1 at *
 go_wp2_with fail
 refine (xnum_bad x vB a why b _ w1 HS.out.rf Hw.out).mono ?_
 rintro e w2 ⟨rfl, hb2⟩
 have HS2 := Keep.mk (HS.out.later hb2)
 have HB2 := Keep.mk (HB.out.trans (hb2.mono HB.out.size))
 clear hb2 HS HB
 go_wp2_with (first | (refine wpList_new rfl 34 rfl _ Tryz.new34 ?_; refine Hid.out ?_))
 refine hid_in ?_
 have HN := Keep.mk (Blk.new w2 34 #[.int .i64 0, .int .i64 0])
 have HA := Keep.mk (below_new w2 (.cells #[.int .i64 0, .int .i64 0] 34))
 generalize w2.alloc (.cells #[.int .i64 0, .int .i64 0] 34) = w3 at *
 have n0 : w3.cell? ⟨w2.heap.size, 0, none⟩ = some (.int .i64 0) := by rw [HN.out.cell]; rfl
 have n1 : w3.cell? ⟨w2.heap.size, 1, none⟩ = some (.int .i64 0) := by rw [HN.out.cell]; rfl
 have m0 := HN.out.frozen 0
 have m1 := HN.out.frozen 1
 go_wp2_with fail
 have HN4 := Keep.mk (show Blk ((w3.setCell ⟨w2.heap.size, 0, none⟩ (.int .i64 why)).setCell ⟨w2.heap.size, 1, none⟩ (.int .i64 b)) w2.heap.size 34 #[.int .i64 why, .int .i64 b] from (HN.out.set 0 _).set 1 _)
 have HB4 := Keep.mk (below_two HA.out (Nat.le_refl _) (.int .i64 why) (.int .i64 b))
 clear n0 n1 m0 m1 HN HA
 generalize (w3.setCell ⟨w2.heap.size, 0, none⟩ (.int .i64 why)).setCell ⟨w2.heap.size, 1, none⟩ (.int .i64 b) = w4 at *
 have HS4 := Keep.mk (HS2.out.later HB4.out)
 have HB5 := Keep.mk (HB2.out.trans (HB4.out.mono HB2.out.size))
 have n0 : w4.cell? ⟨w2.heap.size, 0, none⟩ = some (.int .i64 why) := by rw [HN4.out.cell]; rfl
 have n1 : w4.cell? ⟨w2.heap.size, 1, none⟩ = some (.int .i64 b) := by rw [HN4.out.cell]; rfl
 have d0 := HS4.out.d0
 have d1 := HS4.out.d1
 have e0 := HS4.out.cell.frozen 0
 have e1 := HS4.out.cell.frozen 1
 clear HS2 HB2 HB4 HN4
 go_region
 go_wp2
 exact bodyPost_ret (results_tmp_cell_row Tryz.results93 _ _ w.heap.size 34 _ (0, 0) _ _ rfl rfl (HS4.out.fin (.int .i64 why) (.int .i64 b)).1.drew Tryz.underlying34 rfl Tryz.size34) rfl ⟨rfl, (below_two HB5.out (Nat.le_refl _) _ _).drew⟩

set_option maxRecDepth 8000 in
set_option maxHeartbeats 4000000 in
theorem xsigned_good (x : Nat) (vB : Value) (l : List Int) (a : Nat) (w : World) (h : RfAt w x vB a 0 0) (hR : ∀ wx, (Grown w wx fun k => k = x) → RowAt wx vB l) (ha : a ≤ l.length) (hb : l.length ≤ 140737488355328) (hby : Byts l) (D : List Int) (hD : D = l.drop a) (W X : Int) (N : Nat) (hM : fstM D 18446744073709551615 = (X, (N : Int), W)) (y : Int) (hy : y = if W = 0 then zag X else 0) (hx0 : 0 ≤ X) (hx1 : X < 18446744073709551616) :
  Calls Tryz.prog 93 #[ptr x] w (RfPost x vB W (a + N) (.int .i64 y) w) := by
 have HS := Keep.mk (RS.start h)
 have HC : Keep (∀ w1, RS w x vB a 0 0 w1 → Calls Tryz.prog 58 #[ptr x, .int .u64 18446744073709551615] w1 (RfPost x vB W (a + N) (.int .u64 X) w1)) := ⟨fun w1 hs => by
  have := xnum_good x vB l a 18446744073709551615 w1 hs.rf (fun wx hg => hR wx (hs.gr.trans hg)) ha hb hby D hD W X N hM
  rw [show ((18446744073709551615 : Nat) : Int) = 18446744073709551615 from rfl] at this
  exact this⟩
 have HX0 := Keep.mk hx0
 have HX1 := Keep.mk hx1
 have HY := Keep.mk hy
 clear h hR ha hb hby hD hM hy hx0 hx1
 go_enter Tryz.func93, Tryz.ntmps93
 go_wp2_with (first | (refine wpList_new rfl 34 rfl _ Tryz.new34 ?_; refine Hid.out ?_))
 refine hid_in ?_
 generalize w.alloc (.cells #[.int .i64 0, .int .i64 0] 34) = w1 at *
 go_wp2_with fail
 refine (HC.out w1 HS.out).mono ?_
 rintro e w2 ⟨b, hE, rfl, hr, hg⟩
 have HS2 := Keep.mk (HS.out.turned hr hg)
 clear hr hg HS HC
 rcases hE with ⟨hW, rfl⟩ | ⟨hW, rfl⟩
 ·obtain rfl : y = zag X := by rw [HY.out, if_pos hW]
  subst hW
  clear HY
  go_wp2_with (first | (refine wpList_new rfl 34 rfl _ Tryz.new34 ?_; refine Hid.out ?_))
  refine hid_in ?_
  have HN := Keep.mk (Blk.new w2 34 #[.int .i64 0, .int .i64 0])
  have HA := Keep.mk (below_new w2 (.cells #[.int .i64 0, .int .i64 0] 34))
  generalize w2.alloc (.cells #[.int .i64 0, .int .i64 0] 34) = w3 at *
  have n0 : w3.cell? ⟨w2.heap.size, 0, none⟩ = some (.int .i64 0) := by rw [HN.out.cell]; rfl
  have n1 : w3.cell? ⟨w2.heap.size, 1, none⟩ = some (.int .i64 0) := by rw [HN.out.cell]; rfl
  have m0 := HN.out.frozen 0
  have m1 := HN.out.frozen 1
  go_wp2_with fail
  have HN4 := Keep.mk (show Blk ((w3.setCell ⟨w2.heap.size, 0, none⟩ (.int .i64 0)).setCell ⟨w2.heap.size, 1, none⟩ (.int .i64 0)) w2.heap.size 34 #[.int .i64 0, .int .i64 0] from (HN.out.set 0 _).set 1 _)
  have HB4 := Keep.mk (below_two HA.out (Nat.le_refl _) (.int .i64 0) (.int .i64 0))
  clear n0 n1 m0 m1 HN HA
  generalize (w3.setCell ⟨w2.heap.size, 0, none⟩ (.int .i64 0)).setCell ⟨w2.heap.size, 1, none⟩ (.int .i64 0) = w4 at *
  have HS4 := Keep.mk (HS2.out.later HB4.out)
  have n0 : w4.cell? ⟨w2.heap.size, 0, none⟩ = some (.int .i64 0) := by rw [HN4.out.cell]; rfl
  have n1 : w4.cell? ⟨w2.heap.size, 1, none⟩ = some (.int .i64 0) := by rw [HN4.out.cell]; rfl
  have d0 := HS4.out.d0
  have d1 := HS4.out.d1
  have e0 := HS4.out.cell.frozen 0
  have e1 := HS4.out.cell.frozen 1
  clear HB4 HN4 HS2
  go_region_with (go_at_call 115; refine (xzag_any X _ HX0.out HX1.out).mono ?_; rintro e w' ⟨rfl, rfl⟩)
  all_goals
   go_wp2
   have hf := HS4.out.fin (.int .i64 0) (.int .i64 0)
   exact bodyPost_ret (results_tmp_cell_row Tryz.results93 _ _ w.heap.size 34 _ (0, 0) _ _ rfl rfl hf.1.drew Tryz.underlying34 rfl Tryz.size34) rfl ⟨_, .inl ⟨rfl, rfl⟩, rfl, (Blk.drew hf.2.1), hf.2.2.drew⟩
 ·obtain rfl : y = 0 := by rw [HY.out, if_neg hW]
  have Hw0 := Keep.mk hW
  have hy1 : (W == 0) = false := by simpa using hW
  clear HY hW
  go_wp2_with (first | (refine wpList_new rfl 34 rfl _ Tryz.new34 ?_; refine Hid.out ?_))
  refine hid_in ?_
  have HN := Keep.mk (Blk.new w2 34 #[.int .i64 0, .int .i64 0])
  have HA := Keep.mk (below_new w2 (.cells #[.int .i64 0, .int .i64 0] 34))
  generalize w2.alloc (.cells #[.int .i64 0, .int .i64 0] 34) = w3 at *
  have n0 : w3.cell? ⟨w2.heap.size, 0, none⟩ = some (.int .i64 0) := by rw [HN.out.cell]; rfl
  have n1 : w3.cell? ⟨w2.heap.size, 1, none⟩ = some (.int .i64 0) := by rw [HN.out.cell]; rfl
  have m0 := HN.out.frozen 0
  have m1 := HN.out.frozen 1
  go_wp2_with fail
  have HN4 := Keep.mk (show Blk ((w3.setCell ⟨w2.heap.size, 0, none⟩ (.int .i64 W)).setCell ⟨w2.heap.size, 1, none⟩ (.int .i64 ((a : Int) + (N : Int)))) w2.heap.size 34 #[.int .i64 W, .int .i64 ((a : Int) + (N : Int))] from (HN.out.set 0 _).set 1 _)
  have HB4 := Keep.mk (below_two HA.out (Nat.le_refl _) (.int .i64 W) (.int .i64 ((a : Int) + (N : Int))))
  clear n0 n1 m0 m1 HN HA
  generalize (w3.setCell ⟨w2.heap.size, 0, none⟩ (.int .i64 W)).setCell ⟨w2.heap.size, 1, none⟩ (.int .i64 ((a : Int) + (N : Int))) = w4 at *
  have HS4 := Keep.mk (HS2.out.later HB4.out)
  have n0 : w4.cell? ⟨w2.heap.size, 0, none⟩ = some (.int .i64 W) := by rw [HN4.out.cell]; rfl
  have n1 : w4.cell? ⟨w2.heap.size, 1, none⟩ = some (.int .i64 ((a : Int) + (N : Int))) := by rw [HN4.out.cell]; rfl
  have d0 := HS4.out.d0
  have d1 := HS4.out.d1
  have e0 := HS4.out.cell.frozen 0
  have e1 := HS4.out.cell.frozen 1
  clear HB4 HN4 HS2
  go_region
  go_wp2
  have hf := HS4.out.fin (.int .i64 W) (.int .i64 ((a : Int) + (N : Int)))
  exact bodyPost_ret (results_tmp_cell_row Tryz.results93 _ _ w.heap.size 34 _ (0, 0) _ _ rfl rfl hf.1.drew Tryz.underlying34 rfl Tryz.size34) rfl ⟨_, .inr ⟨Hw0.out, rfl⟩, rfl, (Blk.drew hf.2.1), hf.2.2.drew⟩

set_option maxRecDepth 8000 in
set_option maxHeartbeats 2000000 in
theorem xbytes_bad (x : Nat) (vB : Value) (a : Nat) (why b most : Int) (w : World) (h : RfAt w x vB a why b) (hw : why ≠ 0) (hm1 : -9223372036854775808 ≤ most) (hm2 : most ≤ 9223372036854775807) :
  Calls Tryz.prog 114 #[ptr x, .int .i64 most] w (RfStuck why b (.slice none 0 0) w) := by
 have HS := Keep.mk (RS.start h)
 have HB := Keep.mk (below_new w (.cells #[.int .i64 0, .int .i64 0] 34))
 have hy1 : (why == 0) = false := by simpa using hw
 have Hw := Keep.mk hw
 have hwm : Keep (0 ≤ most → IntKind.u64.wrap most = most) := ⟨fun h => by rw [IntKind.wrap_u64]; omega⟩
 clear h hw hm1 hm2
 by_cases hneg : most < 0
 all_goals
  go_enter Tryz.func114, Tryz.ntmps114
  go_wp2_with (first | (refine wpList_new rfl 34 rfl _ Tryz.new34 ?_; refine Hid.out ?_))
  refine hid_in ?_
  generalize w.alloc (.cells #[.int .i64 0, .int .i64 0] 34) = w1 at *
  go_wp2_with fail
  refine (xnum_bad x vB a why b _ w1 HS.out.rf Hw.out).mono ?_
  rintro e w2 ⟨rfl, hb2⟩
  have HS2 := Keep.mk (HS.out.later hb2)
  have HB2 := Keep.mk (HB.out.trans (hb2.mono HB.out.size))
  clear hb2 HS HB
  go_wp2_with (first | (refine wpList_new rfl 34 rfl _ Tryz.new34 ?_; refine Hid.out ?_))
  refine hid_in ?_
  have HN := Keep.mk (Blk.new w2 34 #[.int .i64 0, .int .i64 0])
  have HA := Keep.mk (below_new w2 (.cells #[.int .i64 0, .int .i64 0] 34))
  generalize w2.alloc (.cells #[.int .i64 0, .int .i64 0] 34) = w3 at *
  have n0 : w3.cell? ⟨w2.heap.size, 0, none⟩ = some (.int .i64 0) := by rw [HN.out.cell]; rfl
  have n1 : w3.cell? ⟨w2.heap.size, 1, none⟩ = some (.int .i64 0) := by rw [HN.out.cell]; rfl
  have m0 := HN.out.frozen 0
  have m1 := HN.out.frozen 1
  go_wp2_with fail
  have HN4 := Keep.mk (show Blk ((w3.setCell ⟨w2.heap.size, 0, none⟩ (.int .i64 why)).setCell ⟨w2.heap.size, 1, none⟩ (.int .i64 b)) w2.heap.size 34 #[.int .i64 why, .int .i64 b] from (HN.out.set 0 _).set 1 _)
  have HB4 := Keep.mk (below_two HA.out (Nat.le_refl _) (.int .i64 why) (.int .i64 b))
  clear n0 n1 m0 m1 HN HA
  generalize (w3.setCell ⟨w2.heap.size, 0, none⟩ (.int .i64 why)).setCell ⟨w2.heap.size, 1, none⟩ (.int .i64 b) = w4 at *
  have HS4 := Keep.mk (HS2.out.later HB4.out)
  have HB5 := Keep.mk (HB2.out.trans (HB4.out.mono HB2.out.size))
  have n0 : w4.cell? ⟨w2.heap.size, 0, none⟩ = some (.int .i64 why) := by rw [HN4.out.cell]; rfl
  have n1 : w4.cell? ⟨w2.heap.size, 1, none⟩ = some (.int .i64 b) := by rw [HN4.out.cell]; rfl
  have d0 := HS4.out.d0
  have d1 := HS4.out.d1
  have e0 := HS4.out.cell.frozen 0
  have e1 := HS4.out.cell.frozen 1
  clear HS2 HB2 HB4 HN4
  go_region
  go_wp2
  exact bodyPost_ret (results_tmp_cell_row Tryz.results114 _ _ w.heap.size 34 _ (0, 0) _ _ rfl rfl (HS4.out.fin (.int .i64 why) (.int .i64 b)).1.drew Tryz.underlying34 rfl Tryz.size34) rfl ⟨rfl, (below_two HB5.out (Nat.le_refl _) _ _).drew⟩
set_option maxRecDepth 8000 in
set_option maxHeartbeats 4000000 in
theorem xbytes_good (x : Nat) (vB : Value) (l : List Int) (a : Nat) (w : World) (h : RfAt w x vB a 0 0) (hR : ∀ wx, (Grown w wx fun k => k = x) → RowAt wx vB l) (ha : a ≤ l.length) (hb : l.length ≤ 140737488355328) (hby : Byts l) (D : List Int) (hD : D = l.drop a) (most : Int) (mm : Nat) (hmm : (mm : Int) = max most 0) (hm2 : mm ≤ 9223372036854775807) (W : Int) (hW : W = (byt D (mm : Int)).1) (N : Nat) (hN : N = (byt D (mm : Int)).2.1) (L : List Int) (hL : L = (byt D (mm : Int)).2.2) :
  Calls Tryz.prog 114 #[ptr x, .int .i64 most] w (RfPostB x vB W (a + N) L w) := by
 have HS := Keep.mk (RS.start h)
 have HR := Keep.mk hR
 have Hb := Keep.mk hb
 have HD := Keep.mk hD
 have hsh := fstM_shape D (mm : Int)
 have hle := fstM_le D (mm : Int) (by rw [hD]; exact fun c hc => hby c (List.mem_of_mem_drop hc))
 have hby2 := byt_eq D (mm : Int)
 have hDl : D.length = l.length - a := by rw [hD, List.length_drop]
 obtain ⟨X, N1, W1, hM⟩ : ∃ X N1 W1, fstM D (mm : Int) = (X, ((N1 : Nat) : Int), W1) := ⟨(fstM D (mm : Int)).1, (fstM D (mm : Int)).2.1.toNat, (fstM D (mm : Int)).2.2, by rw [Int.toNat_of_nonneg hsh.2.1]⟩
 have hC := fun (w1 : World) (hs : RS w x vB a 0 0 w1) => xnum_good x vB l a mm w1 hs.rf (fun wx hg => hR wx (hs.gr.trans hg)) ha hb hby D hD W1 X N1 hM
 rw [hM] at hsh hle hby2
 simp only [Int.toNat_natCast] at hsh hle hby2
 rw [hby2] at hW hN hL
 have HZ : Keep (W1 = 0 → 0 ≤ X ∧ X ≤ 9223372036854775807 ∧ W = nextW (D.drop N1) X ∧ N = N1 + nextN (D.drop N1) X ∧ L = (D.drop N1).take (nextN (D.drop N1) X) ∧ a + N1 ≤ l.length) := ⟨fun h0 => by
  rw [if_pos h0] at hW hN hL
  have := hle h0
  exact ⟨this.1, by omega, hW, hN, hL, by omega⟩⟩
 have HF : Keep (W1 ≠ 0 → W = W1 ∧ N = 0 ∧ L = [] ∧ N1 = 0) := ⟨fun h0 => by
  rw [if_neg h0] at hW hN hL
  exact ⟨hW, hN, hL, by have := (hsh.1 h0).2; omega⟩⟩
 have Hmm := Keep.mk hmm
 have Hm2 := Keep.mk hm2
 clear h hR ha hb hby hD hsh hle hby2 hDl hM hW hN hL hmm hm2
 by_cases hneg : most < 0
 ·have HC : Keep (∀ w1, RS w x vB a 0 0 w1 → Calls Tryz.prog 58 #[ptr x, .int .u64 0] w1 (RfPost x vB W1 (a + N1) (.int .u64 X) w1)) := ⟨fun w1 hs => by
   have := hC w1 hs
   rw [show (mm : Int) = 0 by have := Hmm.out; omega] at this
   exact this⟩
  clear hC
  go_enter Tryz.func114, Tryz.ntmps114
  go_wp2_with (first | (refine wpList_new rfl 34 rfl _ Tryz.new34 ?_; refine Hid.out ?_))
  refine hid_in ?_
  generalize w.alloc (.cells #[.int .i64 0, .int .i64 0] 34) = w1 at *
  go_wp2_with fail
  refine (HC.out w1 HS.out).mono ?_
  rintro e w2 ⟨b, hE, rfl, hr, hg⟩
  have HS2 := Keep.mk (HS.out.turned hr hg)
  clear hr hg HS HC
  rcases hE with ⟨hW, rfl⟩ | ⟨hW, rfl⟩
  ·subst hW
   obtain ⟨hX0, hXm, hWe, hNe, hLe, hN1⟩ := HZ.out rfl
   have hXw : IntKind.i64.wrap X = X := by rw [IntKind.wrap_i64]; omega
   have HNe := Keep.mk hNe
   have HXr := Keep.mk (And.intro hX0 hXm)
   have HRaw : Keep (∀ w4, RS w x vB (a + N1) 0 0 w4 → Calls Tryz.prog 90 #[ptr x, .int .i64 X] w4 (RfPostB x vB W (a + N) L w4)) := ⟨fun w4 hs => by
    have := xraw_good x vB l (a + N1) X w4 hs.rf (fun wx hg => HR.out wx (hs.gr.trans hg)) hN1 Hb.out (D.drop N1) (by rw [HD.out, List.drop_drop]) W hWe (nextN (D.drop N1) X) rfl
    rw [Nat.add_assoc, ← hNe, ← hLe] at this
    exact this⟩
   clear hX0 hXm hWe hNe hLe hN1 HZ HF
   go_wp2_with (first | (refine wpList_new rfl 34 rfl _ Tryz.new34 ?_; refine Hid.out ?_))
   refine hid_in ?_
   have HN := Keep.mk (Blk.new w2 34 #[.int .i64 0, .int .i64 0])
   have HA := Keep.mk (below_new w2 (.cells #[.int .i64 0, .int .i64 0] 34))
   generalize w2.alloc (.cells #[.int .i64 0, .int .i64 0] 34) = w3 at *
   have n0 : w3.cell? ⟨w2.heap.size, 0, none⟩ = some (.int .i64 0) := by rw [HN.out.cell]; rfl
   have n1 : w3.cell? ⟨w2.heap.size, 1, none⟩ = some (.int .i64 0) := by rw [HN.out.cell]; rfl
   have m0 := HN.out.frozen 0
   have m1 := HN.out.frozen 1
   go_wp2_with fail
   have HN4 := Keep.mk (show Blk ((w3.setCell ⟨w2.heap.size, 0, none⟩ (.int .i64 0)).setCell ⟨w2.heap.size, 1, none⟩ (.int .i64 0)) w2.heap.size 34 #[.int .i64 0, .int .i64 0] from (HN.out.set 0 _).set 1 _)
   have HB4 := Keep.mk (below_two HA.out (Nat.le_refl _) (.int .i64 0) (.int .i64 0))
   clear n0 n1 m0 m1 HN HA
   generalize (w3.setCell ⟨w2.heap.size, 0, none⟩ (.int .i64 0)).setCell ⟨w2.heap.size, 1, none⟩ (.int .i64 0) = w4 at *
   have HS4 := Keep.mk (HS2.out.later HB4.out)
   have n0 : w4.cell? ⟨w2.heap.size, 0, none⟩ = some (.int .i64 0) := by rw [HN4.out.cell]; rfl
   have n1 : w4.cell? ⟨w2.heap.size, 1, none⟩ = some (.int .i64 0) := by rw [HN4.out.cell]; rfl
   have d0 := HS4.out.d0
   have d1 := HS4.out.d1
   have e0 := HS4.out.cell.frozen 0
   have e1 := HS4.out.cell.frozen 1
   clear HB4 HN4 HS2 n0 n1 d0 d1 e0 e1
   go_wp2_with fail
   refine (HRaw.out w4 HS4.out).mono ?_
   rintro e w5 ⟨b, res, hE, rfl, hr, hg, hrow, hok⟩
   have hls : w.heap.size < w4.heap.size := HS4.out.cell.lt
   have HS5 := Keep.mk (HS4.out.turned hr hg)
   have HRo := Keep.mk (row_two (g := w.heap.size) hrow (fun e => by have := hok _ e; omega) (.int .i64 W) (.int .i64 b))
   have HOk : Keep (∀ k, res.ownBlock = some k → w.heap.size ≤ k) := ⟨fun k hk => by have := hok k hk; omega⟩
   have HE := Keep.mk hE
   clear hr hg hrow hok hE hls HS4 HRaw
   have d0 := HS5.out.d0
   have d1 := HS5.out.d1
   have e0 := HS5.out.cell.frozen 0
   have e1 := HS5.out.cell.frozen 1
   go_wp2
   have hf := HS5.out.fin (.int .i64 W) (.int .i64 b)
   exact bodyPost_ret (results_tmp_cell_row Tryz.results114 _ _ w.heap.size 34 _ (0, 0) _ _ rfl rfl hf.1 Tryz.underlying34 rfl Tryz.size34) rfl ⟨_, _, HE.out, rfl, hf.2.1, hf.2.2, HRo.out, HOk.out⟩
  ·obtain ⟨rfl, rfl, rfl, rfl⟩ := HF.out hW
   have Hw0 := Keep.mk hW
   have hy1 : (W == 0) = false := by simpa using hW
   clear HZ HF hW
   simp only [Nat.add_zero] at HS2 ⊢
   go_wp2_with (first | (refine wpList_new rfl 34 rfl _ Tryz.new34 ?_; refine Hid.out ?_))
   refine hid_in ?_
   have HN := Keep.mk (Blk.new w2 34 #[.int .i64 0, .int .i64 0])
   have HA := Keep.mk (below_new w2 (.cells #[.int .i64 0, .int .i64 0] 34))
   generalize w2.alloc (.cells #[.int .i64 0, .int .i64 0] 34) = w3 at *
   have n0 : w3.cell? ⟨w2.heap.size, 0, none⟩ = some (.int .i64 0) := by rw [HN.out.cell]; rfl
   have n1 : w3.cell? ⟨w2.heap.size, 1, none⟩ = some (.int .i64 0) := by rw [HN.out.cell]; rfl
   have m0 := HN.out.frozen 0
   have m1 := HN.out.frozen 1
   go_wp2_with fail
   have HN4 := Keep.mk (show Blk ((w3.setCell ⟨w2.heap.size, 0, none⟩ (.int .i64 W)).setCell ⟨w2.heap.size, 1, none⟩ (.int .i64 (a : Int))) w2.heap.size 34 #[.int .i64 W, .int .i64 (a : Int)] from (HN.out.set 0 _).set 1 _)
   have HB4 := Keep.mk (below_two HA.out (Nat.le_refl _) (.int .i64 W) (.int .i64 (a : Int)))
   clear n0 n1 m0 m1 HN HA
   generalize (w3.setCell ⟨w2.heap.size, 0, none⟩ (.int .i64 W)).setCell ⟨w2.heap.size, 1, none⟩ (.int .i64 (a : Int)) = w4 at *
   have HS4 := Keep.mk (HS2.out.later HB4.out)
   have n0 : w4.cell? ⟨w2.heap.size, 0, none⟩ = some (.int .i64 W) := by rw [HN4.out.cell]; rfl
   have n1 : w4.cell? ⟨w2.heap.size, 1, none⟩ = some (.int .i64 (a : Int)) := by rw [HN4.out.cell]; rfl
   have d0 := HS4.out.d0
   have d1 := HS4.out.d1
   have e0 := HS4.out.cell.frozen 0
   have e1 := HS4.out.cell.frozen 1
   clear HB4 HN4 HS2
   go_region
   go_wp2
   have hf := HS4.out.fin (.int .i64 W) (.int .i64 (a : Int))
   exact bodyPost_ret (results_tmp_cell_row Tryz.results114 _ _ w.heap.size 34 _ (0, 0) _ _ rfl rfl hf.1.drew Tryz.underlying34 rfl Tryz.size34) rfl ⟨_, _, .inr ⟨Hw0.out, rfl⟩, rfl, (Blk.drew hf.2.1), hf.2.2.drew, .inl ⟨rfl, rfl⟩, fun k hk => by simp [Value.ownBlock] at hk⟩
 ·have HC : Keep (∀ w1, RS w x vB a 0 0 w1 → Calls Tryz.prog 58 #[ptr x, .int .u64 most] w1 (RfPost x vB W1 (a + N1) (.int .u64 X) w1)) := ⟨fun w1 hs => by
   have := hC w1 hs
   rw [show (mm : Int) = most by have := Hmm.out; omega] at this
   exact this⟩
  have hwm : IntKind.u64.wrap most = most := by rw [IntKind.wrap_u64]; have := Hmm.out; have := Hm2.out; omega
  clear hC
  go_enter Tryz.func114, Tryz.ntmps114
  go_wp2_with (first | (refine wpList_new rfl 34 rfl _ Tryz.new34 ?_; refine Hid.out ?_))
  refine hid_in ?_
  generalize w.alloc (.cells #[.int .i64 0, .int .i64 0] 34) = w1 at *
  go_wp2_with fail
  refine (HC.out w1 HS.out).mono ?_
  rintro e w2 ⟨b, hE, rfl, hr, hg⟩
  have HS2 := Keep.mk (HS.out.turned hr hg)
  clear hr hg HS HC
  rcases hE with ⟨hW, rfl⟩ | ⟨hW, rfl⟩
  ·subst hW
   obtain ⟨hX0, hXm, hWe, hNe, hLe, hN1⟩ := HZ.out rfl
   have hXw : IntKind.i64.wrap X = X := by rw [IntKind.wrap_i64]; omega
   have HNe := Keep.mk hNe
   have HXr := Keep.mk (And.intro hX0 hXm)
   have HRaw : Keep (∀ w4, RS w x vB (a + N1) 0 0 w4 → Calls Tryz.prog 90 #[ptr x, .int .i64 X] w4 (RfPostB x vB W (a + N) L w4)) := ⟨fun w4 hs => by
    have := xraw_good x vB l (a + N1) X w4 hs.rf (fun wx hg => HR.out wx (hs.gr.trans hg)) hN1 Hb.out (D.drop N1) (by rw [HD.out, List.drop_drop]) W hWe (nextN (D.drop N1) X) rfl
    rw [Nat.add_assoc, ← hNe, ← hLe] at this
    exact this⟩
   clear hX0 hXm hWe hNe hLe hN1 HZ HF
   go_wp2_with (first | (refine wpList_new rfl 34 rfl _ Tryz.new34 ?_; refine Hid.out ?_))
   refine hid_in ?_
   have HN := Keep.mk (Blk.new w2 34 #[.int .i64 0, .int .i64 0])
   have HA := Keep.mk (below_new w2 (.cells #[.int .i64 0, .int .i64 0] 34))
   generalize w2.alloc (.cells #[.int .i64 0, .int .i64 0] 34) = w3 at *
   have n0 : w3.cell? ⟨w2.heap.size, 0, none⟩ = some (.int .i64 0) := by rw [HN.out.cell]; rfl
   have n1 : w3.cell? ⟨w2.heap.size, 1, none⟩ = some (.int .i64 0) := by rw [HN.out.cell]; rfl
   have m0 := HN.out.frozen 0
   have m1 := HN.out.frozen 1
   go_wp2_with fail
   have HN4 := Keep.mk (show Blk ((w3.setCell ⟨w2.heap.size, 0, none⟩ (.int .i64 0)).setCell ⟨w2.heap.size, 1, none⟩ (.int .i64 0)) w2.heap.size 34 #[.int .i64 0, .int .i64 0] from (HN.out.set 0 _).set 1 _)
   have HB4 := Keep.mk (below_two HA.out (Nat.le_refl _) (.int .i64 0) (.int .i64 0))
   clear n0 n1 m0 m1 HN HA
   generalize (w3.setCell ⟨w2.heap.size, 0, none⟩ (.int .i64 0)).setCell ⟨w2.heap.size, 1, none⟩ (.int .i64 0) = w4 at *
   have HS4 := Keep.mk (HS2.out.later HB4.out)
   have n0 : w4.cell? ⟨w2.heap.size, 0, none⟩ = some (.int .i64 0) := by rw [HN4.out.cell]; rfl
   have n1 : w4.cell? ⟨w2.heap.size, 1, none⟩ = some (.int .i64 0) := by rw [HN4.out.cell]; rfl
   have d0 := HS4.out.d0
   have d1 := HS4.out.d1
   have e0 := HS4.out.cell.frozen 0
   have e1 := HS4.out.cell.frozen 1
   clear HB4 HN4 HS2 n0 n1 d0 d1 e0 e1
   go_wp2_with fail
   refine (HRaw.out w4 HS4.out).mono ?_
   rintro e w5 ⟨b, res, hE, rfl, hr, hg, hrow, hok⟩
   have hls : w.heap.size < w4.heap.size := HS4.out.cell.lt
   have HS5 := Keep.mk (HS4.out.turned hr hg)
   have HRo := Keep.mk (row_two (g := w.heap.size) hrow (fun e => by have := hok _ e; omega) (.int .i64 W) (.int .i64 b))
   have HOk : Keep (∀ k, res.ownBlock = some k → w.heap.size ≤ k) := ⟨fun k hk => by have := hok k hk; omega⟩
   have HE := Keep.mk hE
   clear hr hg hrow hok hE hls HS4 HRaw
   have d0 := HS5.out.d0
   have d1 := HS5.out.d1
   have e0 := HS5.out.cell.frozen 0
   have e1 := HS5.out.cell.frozen 1
   go_wp2
   have hf := HS5.out.fin (.int .i64 W) (.int .i64 b)
   exact bodyPost_ret (results_tmp_cell_row Tryz.results114 _ _ w.heap.size 34 _ (0, 0) _ _ rfl rfl hf.1 Tryz.underlying34 rfl Tryz.size34) rfl ⟨_, _, HE.out, rfl, hf.2.1, hf.2.2, HRo.out, HOk.out⟩
  ·obtain ⟨rfl, rfl, rfl, rfl⟩ := HF.out hW
   have Hw0 := Keep.mk hW
   have hy1 : (W == 0) = false := by simpa using hW
   clear HZ HF hW
   simp only [Nat.add_zero] at HS2 ⊢
   go_wp2_with (first | (refine wpList_new rfl 34 rfl _ Tryz.new34 ?_; refine Hid.out ?_))
   refine hid_in ?_
   have HN := Keep.mk (Blk.new w2 34 #[.int .i64 0, .int .i64 0])
   have HA := Keep.mk (below_new w2 (.cells #[.int .i64 0, .int .i64 0] 34))
   generalize w2.alloc (.cells #[.int .i64 0, .int .i64 0] 34) = w3 at *
   have n0 : w3.cell? ⟨w2.heap.size, 0, none⟩ = some (.int .i64 0) := by rw [HN.out.cell]; rfl
   have n1 : w3.cell? ⟨w2.heap.size, 1, none⟩ = some (.int .i64 0) := by rw [HN.out.cell]; rfl
   have m0 := HN.out.frozen 0
   have m1 := HN.out.frozen 1
   go_wp2_with fail
   have HN4 := Keep.mk (show Blk ((w3.setCell ⟨w2.heap.size, 0, none⟩ (.int .i64 W)).setCell ⟨w2.heap.size, 1, none⟩ (.int .i64 (a : Int))) w2.heap.size 34 #[.int .i64 W, .int .i64 (a : Int)] from (HN.out.set 0 _).set 1 _)
   have HB4 := Keep.mk (below_two HA.out (Nat.le_refl _) (.int .i64 W) (.int .i64 (a : Int)))
   clear n0 n1 m0 m1 HN HA
   generalize (w3.setCell ⟨w2.heap.size, 0, none⟩ (.int .i64 W)).setCell ⟨w2.heap.size, 1, none⟩ (.int .i64 (a : Int)) = w4 at *
   have HS4 := Keep.mk (HS2.out.later HB4.out)
   have n0 : w4.cell? ⟨w2.heap.size, 0, none⟩ = some (.int .i64 W) := by rw [HN4.out.cell]; rfl
   have n1 : w4.cell? ⟨w2.heap.size, 1, none⟩ = some (.int .i64 (a : Int)) := by rw [HN4.out.cell]; rfl
   have d0 := HS4.out.d0
   have d1 := HS4.out.d1
   have e0 := HS4.out.cell.frozen 0
   have e1 := HS4.out.cell.frozen 1
   clear HB4 HN4 HS2
   go_region
   go_wp2
   have hf := HS4.out.fin (.int .i64 W) (.int .i64 (a : Int))
   exact bodyPost_ret (results_tmp_cell_row Tryz.results114 _ _ w.heap.size 34 _ (0, 0) _ _ rfl rfl hf.1.drew Tryz.underlying34 rfl Tryz.size34) rfl ⟨_, _, .inr ⟨Hw0.out, rfl⟩, rfl, (Blk.drew hf.2.1), hf.2.2.drew, .inl ⟨rfl, rfl⟩, fun k hk => by simp [Value.ownBlock] at hk⟩

set_option maxRecDepth 8000 in
set_option maxHeartbeats 4000000 in
theorem xtext_good (x : Nat) (vB : Value) (l : List Int) (a : Nat) (w : World) (h : RfAt w x vB a 0 0) (hR : ∀ wx, (Grown w wx fun k => k = x) → RowAt wx vB l) (ha : a ≤ l.length) (hb : l.length ≤ 140737488355328) (hby : Byts l) (D : List Int) (hD : D = l.drop a) (most : Int) (mm : Nat) (hmm : (mm : Int) = max most 0) (hm2 : mm ≤ 9223372036854775807) (W : Int) (hW : W = (byt D (mm : Int)).1) (N : Nat) (hN : N = (byt D (mm : Int)).2.1) (L : List Int) (hL : L = (byt D (mm : Int)).2.2) (st : ByteArray) (hst : st = strOfNums L) :
  Calls Tryz.prog 91 #[ptr x, .int .i64 most] w (RfPost x vB W (a + N) (.string st) w) := by
 have HS := Keep.mk (RS.start h)
 have HC : Keep (∀ w1, RS w x vB a 0 0 w1 → Calls Tryz.prog 114 #[ptr x, .int .i64 most] w1 (RfPostB x vB W (a + N) L w1)) := ⟨fun w1 hs => xbytes_good x vB l a w1 hs.rf (fun wx hg => hR wx (hs.gr.trans hg)) ha hb hby D hD most mm hmm hm2 W hW N hN L hL⟩
 have Hst := Keep.mk hst
 clear h hR ha hb hby hD hmm hm2 hW hN hL hst
 go_enter Tryz.func91, Tryz.ntmps91
 go_wp2_with (first | (refine wpList_new rfl 34 rfl _ Tryz.new34 ?_; refine Hid.out ?_))
 refine hid_in ?_
 generalize w.alloc (.cells #[.int .i64 0, .int .i64 0] 34) = w1 at *
 go_wp2_with fail
 refine (HC.out w1 HS.out).mono ?_
 rintro e w2 ⟨b, res, hE, rfl, hr, hg, hrow, hok⟩
 have HS2 := Keep.mk (HS.out.turned hr hg)
 have HRo := Keep.mk hrow
 have HE := Keep.mk hE
 clear hr hg HS HC hE hrow hok
 go_wp2_with (first | (refine wpList_new rfl 34 rfl _ Tryz.new34 ?_; refine Hid.out ?_))
 refine hid_in ?_
 have HN := Keep.mk (Blk.new w2 34 #[.int .i64 0, .int .i64 0])
 have HA := Keep.mk (below_new w2 (.cells #[.int .i64 0, .int .i64 0] 34))
 generalize w2.alloc (.cells #[.int .i64 0, .int .i64 0] 34) = w3 at *
 have n0 : w3.cell? ⟨w2.heap.size, 0, none⟩ = some (.int .i64 0) := by rw [HN.out.cell]; rfl
 have n1 : w3.cell? ⟨w2.heap.size, 1, none⟩ = some (.int .i64 0) := by rw [HN.out.cell]; rfl
 have m0 := HN.out.frozen 0
 have m1 := HN.out.frozen 1
 go_wp2_with fail
 have HN4 := Keep.mk (show Blk ((w3.setCell ⟨w2.heap.size, 0, none⟩ (.int .i64 W)).setCell ⟨w2.heap.size, 1, none⟩ (.int .i64 b)) w2.heap.size 34 #[.int .i64 W, .int .i64 b] from (HN.out.set 0 _).set 1 _)
 have HB4 := Keep.mk (below_two HA.out (Nat.le_refl _) (.int .i64 W) (.int .i64 b))
 clear n0 n1 m0 m1 HN HA
 generalize (w3.setCell ⟨w2.heap.size, 0, none⟩ (.int .i64 W)).setCell ⟨w2.heap.size, 1, none⟩ (.int .i64 b) = w4 at *
 have HS4 := Keep.mk (HS2.out.later HB4.out)
 have n0 : w4.cell? ⟨w2.heap.size, 0, none⟩ = some (.int .i64 W) := by rw [HN4.out.cell]; rfl
 have n1 : w4.cell? ⟨w2.heap.size, 1, none⟩ = some (.int .i64 b) := by rw [HN4.out.cell]; rfl
 have d0 := HS4.out.d0
 have d1 := HS4.out.d1
 have e0 := HS4.out.cell.frozen 0
 have e1 := HS4.out.cell.frozen 1
 have hcv : (convert 24 9 res).run Tryz.prog w4.drew = .ok (.string st) w4.drew := by rw [Hst.out]; exact conv_row _ _ _ (HRo.out.below HB4.out.drew)
 clear HB4 HN4 HS2
 go_region
 go_wp2
 have hf := HS4.out.fin (.int .i64 W) (.int .i64 b)
 exact bodyPost_ret (results_tmp_cell_row Tryz.results91 _ _ w.heap.size 34 _ (0, 0) _ _ rfl rfl hf.1.drew Tryz.underlying34 rfl Tryz.size34) rfl ⟨_, HE.out, rfl, (Blk.drew hf.2.1), hf.2.2.drew⟩

set_option maxRecDepth 8000 in
set_option maxHeartbeats 4000000 in
theorem xtext_bad (x : Nat) (vB : Value) (a : Nat) (why b most : Int) (w : World) (h : RfAt w x vB a why b) (hw : why ≠ 0) (hm1 : -9223372036854775808 ≤ most) (hm2 : most ≤ 9223372036854775807) :
  Calls Tryz.prog 91 #[ptr x, .int .i64 most] w (RfStuck why b (.string ByteArray.empty) w) := by
 have HS := Keep.mk (RS.start h)
 have HB := Keep.mk (below_new w (.cells #[.int .i64 0, .int .i64 0] 34))
 have HC : Keep (∀ w1, RS w x vB a why b w1 → Calls Tryz.prog 114 #[ptr x, .int .i64 most] w1 (RfStuck why b (.slice none 0 0) w1)) := ⟨fun w1 hs => xbytes_bad x vB a why b most w1 hs.rf hw hm1 hm2⟩
 clear h hw hm1 hm2
 go_enter Tryz.func91, Tryz.ntmps91
 go_wp2_with (first | (refine wpList_new rfl 34 rfl _ Tryz.new34 ?_; refine Hid.out ?_))
 refine hid_in ?_
 generalize w.alloc (.cells #[.int .i64 0, .int .i64 0] 34) = w1 at *
 go_wp2_with fail
 refine (HC.out w1 HS.out).mono ?_
 rintro e w2 ⟨rfl, hb2⟩
 have HS2 := Keep.mk (HS.out.later hb2)
 have HB2 := Keep.mk (HB.out.trans (hb2.mono HB.out.size))
 clear hb2 HS HB HC
 go_wp2_with (first | (refine wpList_new rfl 34 rfl _ Tryz.new34 ?_; refine Hid.out ?_))
 refine hid_in ?_
 have HN := Keep.mk (Blk.new w2 34 #[.int .i64 0, .int .i64 0])
 have HA := Keep.mk (below_new w2 (.cells #[.int .i64 0, .int .i64 0] 34))
 generalize w2.alloc (.cells #[.int .i64 0, .int .i64 0] 34) = w3 at *
 have n0 : w3.cell? ⟨w2.heap.size, 0, none⟩ = some (.int .i64 0) := by rw [HN.out.cell]; rfl
 have n1 : w3.cell? ⟨w2.heap.size, 1, none⟩ = some (.int .i64 0) := by rw [HN.out.cell]; rfl
 have m0 := HN.out.frozen 0
 have m1 := HN.out.frozen 1
 go_wp2_with fail
 have HN4 := Keep.mk (show Blk ((w3.setCell ⟨w2.heap.size, 0, none⟩ (.int .i64 why)).setCell ⟨w2.heap.size, 1, none⟩ (.int .i64 b)) w2.heap.size 34 #[.int .i64 why, .int .i64 b] from (HN.out.set 0 _).set 1 _)
 have HB4 := Keep.mk (below_two HA.out (Nat.le_refl _) (.int .i64 why) (.int .i64 b))
 clear n0 n1 m0 m1 HN HA
 generalize (w3.setCell ⟨w2.heap.size, 0, none⟩ (.int .i64 why)).setCell ⟨w2.heap.size, 1, none⟩ (.int .i64 b) = w4 at *
 have HS4 := Keep.mk (HS2.out.later HB4.out)
 have HB5 := Keep.mk (HB2.out.trans (HB4.out.mono HB2.out.size))
 have n0 : w4.cell? ⟨w2.heap.size, 0, none⟩ = some (.int .i64 why) := by rw [HN4.out.cell]; rfl
 have n1 : w4.cell? ⟨w2.heap.size, 1, none⟩ = some (.int .i64 b) := by rw [HN4.out.cell]; rfl
 have d0 := HS4.out.d0
 have d1 := HS4.out.d1
 have e0 := HS4.out.cell.frozen 0
 have e1 := HS4.out.cell.frozen 1
 have hcv : (convert 24 9 (.slice none 0 0)).run Tryz.prog w4.drew = .ok (.string ByteArray.empty) w4.drew := conv_row _ [] _ (.inl ⟨rfl, rfl⟩)
 clear HB4 HN4 HS2 HB2
 go_region
 go_wp2
 exact bodyPost_ret (results_tmp_cell_row Tryz.results91 _ _ w.heap.size 34 _ (0, 0) _ _ rfl rfl (HS4.out.fin (.int .i64 why) (.int .i64 b)).1.drew Tryz.underlying34 rfl Tryz.size34) rfl ⟨rfl, (below_two HB5.out (Nat.le_refl _) _ _).drew⟩

theorem build84 : (#[.int .u8 0, .int .u8 0, .int .u8 0, .int .u8 0, .int .u8 0, .int .u8 0, .int .u8 0, .int .u8 0, .int .u8 0, .int .u8 0, .int .u8 0, .int .u8 0, .int .u8 0, .int .u8 0, .int .u8 0, .int .u8 0, .int .u8 0, .int .u8 0, .int .u8 0, .int .u8 0, .int .u8 0, .int .u8 0, .int .u8 0, .int .u8 0, .int .u8 0, .int .u8 0, .int .u8 0, .int .u8 0, .int .u8 0, .int .u8 0, .int .u8 0, .int .u8 0] : Array Value) = bytesA 32 fun _ => 0 := by kernel_rfl
theorem copy_next (L : List Int) (t : Nat) : ∀ i, (upd (fun i => if i < t then L.getD i 0 else 0) t (L.getD t 0)) i = (fun i => if i < t + 1 then L.getD i 0 else 0) i := by
 intro i
 unfold upd
 by_cases h : i = t
 ·subst h; simp
 ·simp only [if_neg h]
  by_cases h2 : i < t
  ·rw [if_pos h2, if_pos (by omega)]
  ·rw [if_neg h2, if_neg (by omega)]

set_option maxRecDepth 8000 in
set_option maxHeartbeats 1000000 in
theorem xhash_core (x : Nat) (w : World) (W b : Int) (L : List Int) (R : World → Prop)
  (hC : ∀ wB, Below w.heap.size w wB → Calls Tryz.prog 90 #[ptr x, .int .i64 32] wB (fun e w' => ∃ res, e = .returned (.tuple #[res, .agg #[.int .i64 W, .int .i64 b]]) ∧ R w' ∧ RowAt w' res L ∧ (∀ k, res.ownBlock = some k → wB.heap.size ≤ k) ∧ Grown wB w' fun k => k = x))
  (hRk : ∀ wa wb, R wa → (Grown wa wb fun k => w.heap.size ≤ k) → R wb) (hx : x < w.heap.size) (hL : L.length ≤ 32) :
  Calls Tryz.prog 59 #[ptr x] w (fun e w' => e = .returned (.tuple #[.agg (bytesA 32 fun i => L.getD i 0), .agg #[.int .i64 W, .int .i64 b]]) ∧ R w' ∧ Grown w w' fun k => k = x) := by
 have HC := Keep.mk hC
 have HK := Keep.mk hRk
 have Hx := Keep.mk hx
 have HL := Keep.mk hL
 have hLi : (L.length : Int) ≤ 32 := by omega
 obtain ⟨n, hn⟩ : ∃ n, Keep (n = w.heap.size) := ⟨_, ⟨rfl⟩⟩
 have hA : Blk (((w.alloc (.cells (bytesA 32 fun _ => 0) 41)).alloc (.cells #[.int .i64 0, .int .i64 0] 34)).alloc (.cells (bytesA 32 fun _ => 0) 41)) w.heap.size 41 (bytesA 32 fun _ => 0) := ((Blk.new w 41 _).alloc _).alloc _
 have hB : Blk (((w.alloc (.cells (bytesA 32 fun _ => 0) 41)).alloc (.cells #[.int .i64 0, .int .i64 0] 34)).alloc (.cells (bytesA 32 fun _ => 0) 41)) (w.heap.size + 1) 34 #[.int .i64 0, .int .i64 0] := by
  have h := (Blk.new (w.alloc (.cells (bytesA 32 fun _ => 0) 41)) 34 #[.int .i64 0, .int .i64 0]).alloc (.cells (bytesA 32 fun _ => 0) 41)
  simp only [World.size_alloc] at h
  exact h
 have hH : Blk (((w.alloc (.cells (bytesA 32 fun _ => 0) 41)).alloc (.cells #[.int .i64 0, .int .i64 0] 34)).alloc (.cells (bytesA 32 fun _ => 0) 41)) (w.heap.size + 2) 41 (bytesA 32 fun _ => 0) := by
  have h := Blk.new ((w.alloc (.cells (bytesA 32 fun _ => 0) 41)).alloc (.cells #[.int .i64 0, .int .i64 0] 34)) 41 (bytesA 32 fun _ => 0)
  simp only [World.size_alloc] at h
  exact h
 have hBl : Below w.heap.size w (((w.alloc (.cells (bytesA 32 fun _ => 0) 41)).alloc (.cells #[.int .i64 0, .int .i64 0] 34)).alloc (.cells (bytesA 32 fun _ => 0) 41)) := (((Below.refl _ _).alloc (Nat.le_refl _) _).alloc (by simp) _).alloc (by simp; omega) _
 have hsz : (((w.alloc (.cells (bytesA 32 fun _ => 0) 41)).alloc (.cells #[.int .i64 0, .int .i64 0] 34)).alloc (.cells (bytesA 32 fun _ => 0) 41)).heap.size = w.heap.size + 3 := by simp
 have HH := Keep.mk hH
 have HA := Keep.mk hA
 have HB := Keep.mk hB
 have HBl := Keep.mk hBl
 have Hsz := Keep.mk hsz
 clear hC hRk hx hL hA hB hH hBl hsz
 go_enter Tryz.func59, Tryz.ntmps59
 go_wp2_with (first | (refine wpList_new rfl 41 rfl _ Tryz.new41 ?_; refine Hid.out ?_) | (refine wpList_new rfl 34 rfl _ Tryz.new34 ?_; refine Hid.out ?_))
 refine hid_in ?_
 go_wp2_with (first | (refine wpList_new rfl 41 rfl _ Tryz.new41 ?_; refine Hid.out ?_) | (refine wpList_new rfl 34 rfl _ Tryz.new34 ?_; refine Hid.out ?_))
 refine hid_in ?_
 refine wpList_store_row rfl 41 (.tmp 4) (.tmp 8) rfl (w.heap.size + 1 + 1) (bytesA 32 fun _ => 0) rfl (congrArg Value.agg build84) 41 (bytesA 32 fun _ => 0) HH.out (Tryz.size41B _) (bytesA_sizes _ _ _) (bytesA_one _ _) ?_
 have HH2 : Keep (Blk ((((w.alloc (.cells (bytesA 32 fun _ => 0) 41)).alloc (.cells #[.int .i64 0, .int .i64 0] 34)).alloc (.cells (bytesA 32 fun _ => 0) 41)).setRow (w.heap.size + 1 + 1) (bytesA 32 fun _ => 0)) (w.heap.size + 1 + 1) 41 (bytesA 32 fun _ => 0)) := ⟨HH.out.setRow (bytesA 32 fun _ => 0)⟩
 have HA2 := Keep.mk (HA.out.setRow_ne (b' := w.heap.size + 1 + 1) (by omega) (bytesA 32 fun _ => 0))
 have HB2 := Keep.mk (HB.out.setRow_ne (b' := w.heap.size + 1 + 1) (by omega) (bytesA 32 fun _ => 0))
 have HBl2 := Keep.mk (below_setRow (b := w.heap.size + 1 + 1) HBl.out (by omega) (bytesA 32 fun _ => 0))
 have Hsz2 : Keep (w.heap.size + 3 ≤ ((((w.alloc (.cells (bytesA 32 fun _ => 0) 41)).alloc (.cells #[.int .i64 0, .int .i64 0] 34)).alloc (.cells (bytesA 32 fun _ => 0) 41)).setRow (w.heap.size + 1 + 1) (bytesA 32 fun _ => 0)).heap.size) := ⟨by
  have := (Grown.setRow (((w.alloc (.cells (bytesA 32 fun _ => 0) 41)).alloc (.cells #[.int .i64 0, .int .i64 0] 34)).alloc (.cells (bytesA 32 fun _ => 0) 41)) (w.heap.size + 1 + 1) (bytesA 32 fun _ => 0) (S := fun _ => True) fun _ => trivial).size
  have := Hsz.out
  omega⟩
 clear HH HA HB HBl Hsz
 generalize (((w.alloc (.cells (bytesA 32 fun _ => 0) 41)).alloc (.cells #[.int .i64 0, .int .i64 0] 34)).alloc (.cells (bytesA 32 fun _ => 0) 41)).setRow (w.heap.size + 1 + 1) (bytesA 32 fun _ => 0) = wB at *
 simp only [Act.put]
 go_wp2_with fail
 refine (HC.out wB HBl2.out).mono ?_
 rintro e w5 ⟨res, rfl, hr, hrow, hok, hg⟩
 obtain ⟨ra, rc, rfl⟩ := row_form hrow
 have HA5 := Keep.mk (hg.blk HA2.out (by have := Hx.out; omega))
 have HB5 := Keep.mk (hg.blk HB2.out (by have := Hx.out; omega))
 have HH5 := Keep.mk (hg.blk HH2.out (by have := Hx.out; omega))
 have HG5 : Keep (Grown w w5 fun k => k = x) := ⟨(Grown.below HBl2.out).trans hg⟩
 have HR5 := Keep.mk hr
 have HRow := Keep.mk hrow
 have HOk : Keep (∀ k, (Value.slice ra L.length rc).ownBlock = some k → w.heap.size + 3 ≤ k) := ⟨fun k hk => Nat.le_trans Hsz2.out (hok k hk)⟩
 have Hg6 : Keep (w.heap.size + 3 ≤ w5.heap.size) := ⟨Nat.le_trans Hsz2.out hg.size⟩
 clear hr hrow hok hg HA2 HB2 HH2 HBl2 Hsz2 HC
 go_wp2_with (first | (refine wpList_new rfl 34 rfl _ Tryz.new34 ?_; refine Hid.out ?_))
 refine hid_in ?_
 have HN := Keep.mk (Blk.new w5 34 #[.int .i64 0, .int .i64 0])
 have HAl := Keep.mk (below_new w5 (.cells #[.int .i64 0, .int .i64 0] 34))
 generalize w5.alloc (.cells #[.int .i64 0, .int .i64 0] 34) = w6 at *
 have n0 : w6.cell? ⟨w5.heap.size, 0, none⟩ = some (.int .i64 0) := by rw [HN.out.cell]; rfl
 have n1 : w6.cell? ⟨w5.heap.size, 1, none⟩ = some (.int .i64 0) := by rw [HN.out.cell]; rfl
 have m0 := HN.out.frozen 0
 have m1 := HN.out.frozen 1
 go_wp2_with fail
 have HN4 := Keep.mk (show Blk ((w6.setCell ⟨w5.heap.size, 0, none⟩ (.int .i64 W)).setCell ⟨w5.heap.size, 1, none⟩ (.int .i64 b)) w5.heap.size 34 #[.int .i64 W, .int .i64 b] from (HN.out.set 0 _).set 1 _)
 have HB4 := Keep.mk (below_two HAl.out (Nat.le_refl _) (.int .i64 W) (.int .i64 b))
 clear n0 n1 m0 m1 HN HAl
 generalize (w6.setCell ⟨w5.heap.size, 0, none⟩ (.int .i64 W)).setCell ⟨w5.heap.size, 1, none⟩ (.int .i64 b) = w7 at *
 have HA7 := Keep.mk (HA5.out.below HB4.out HA5.out.lt)
 have HB7 := Keep.mk (HB5.out.below HB4.out HB5.out.lt)
 have HH7 := Keep.mk (HH5.out.below HB4.out HH5.out.lt)
 have HG7 : Keep (Grown w w7 fun k => k = x) := ⟨HG5.out.trans (Grown.below HB4.out)⟩
 have HR7 : Keep (R w7) := ⟨HK.out _ _ HR5.out (Grown.below HB4.out)⟩
 have HRow7 := Keep.mk (HRow.out.below HB4.out)
 obtain ⟨g6, hg6⟩ : ∃ g6, Keep (g6 = w5.heap.size) := ⟨_, ⟨rfl⟩⟩
 rw [← hg6.out] at HN4 Hg6 ⊢
 clear HA5 HB5 HH5 HG5 HR5 HRow HB4 hg6
 go_loopw [7] (fun i wr => ∃ t : Nat, t ≤ L.length ∧ i = .int .i64 (t : Int) ∧ Blk wr (w.heap.size + 1 + 1) 41 (bytesA 32 fun i => if i < t then L.getD i 0 else 0) ∧ Grown w7 wr (fun k => k = w.heap.size + 1 + 1)) (fun i _ => L.length - (intOf i).toNat)
 case atStart => exact ⟨0, by omega, rfl, by rw [show (fun i => if i < 0 then L.getD i 0 else 0) = (fun _ => (0 : Int)) from funext fun i => by simp]; exact HH7.out, Grown.refl _ _⟩
 case round =>
  obtain ⟨t, ht, rfl, hH, hG⟩ := hrel
  have HH9 := Keep.mk hH
  have HG9 := Keep.mk hG
  by_cases hlt : t < L.length
  ·have hlt' : (t : Int) < (L.length : Int) := by omega
   have hrw : RowAt wr (Value.slice ra L.length rc) L := HRow7.out.grown hG (fun k hk _ e => by have := HOk.out k hk; omega)
   obtain ⟨gb, go, rfl, hc⟩ : ∃ gb go, ra = some ⟨gb, go, none⟩ ∧ wr.cell? ⟨gb, go + t, none⟩ = some (.int .u8 (L.getD t 0)) := by
    rcases hrw with ⟨_, e⟩ | ⟨_, _, _, e⟩ | ⟨g, o, _, e, _, h3⟩
    ·have : L.length = 0 := by rw [e]; rfl
     omega
    ·have : L.length = 0 := by rw [e]; rfl
     omega
    ·injection e with e1 e2
     exact ⟨g, o, e1, h3 t hlt⟩
   have d0 : wr.cell? ⟨w.heap.size + 1 + 1, t, none⟩ = some (.int .u8 (if t < t then L.getD t 0 else 0)) := by rw [hH.cell, bytesA_get _ _ _ (by have := HL.out; omega)]
   rw [if_neg (Nat.lt_irrefl t)] at d0
   have e0 := hH.frozen t
   have ht32 : (t : Int) < 32 := by omega
   obtain ⟨cv, hcv⟩ : ∃ cv, Keep (cv = L.getD t 0) := ⟨_, ⟨rfl⟩⟩
   rw [← hcv.out] at hc
   clear hH hG hrw
   go_wp2
   go_roundw
   case rel =>
    refine ⟨t + 1, by omega, by go_num, ?_, HG9.out.trans (Grown.setCell wr (w.heap.size + 1 + 1) t _ fun _ => rfl)⟩
    have := HH9.out.set t (.int .u8 cv)
    rw [bytesA_set, hcv.out] at this
    rw [hcv.out, ← show bytesA 32 (upd (fun i => if i < t then L.getD i 0 else 0) t (L.getD t 0)) = bytesA 32 (fun i => if i < t + 1 then L.getD i 0 else 0) from bytesA_congr fun i _ => copy_next L t i]
    exact this
   case measure => simp only [intOf]; omega
  ·obtain rfl : t = L.length := by omega
   have hlt' : ¬ ((L.length : Int) < (L.length : Int)) := by omega
   have HA9 := Keep.mk (hG.blk HA7.out (by omega))
   have HB9 := Keep.mk (hG.blk HB7.out (by omega))
   have HC9 := Keep.mk (hG.blk HN4.out (by have := Hg6.out; omega))
   obtain ⟨c, hcd⟩ : ∃ c : Nat → Int, Keep (c = fun i => if i < L.length then L.getD i 0 else 0) := ⟨_, ⟨rfl⟩⟩
   rw [← hcd.out] at HH9
   obtain ⟨ca, hca⟩ : ∃ ca, Keep (ca = bytesA 32 c) := ⟨_, ⟨rfl⟩⟩
   have Hca1 : Keep ((Tryz.prog.info? 41).map (·.size) = some ca.size) := ⟨by rw [hca.out]; exact Tryz.size41B c⟩
   have Hca2 : Keep ((bytesA 32 fun _ => 0).size = ca.size) := ⟨by rw [hca.out]; exact bytesA_sizes _ _ _⟩
   have Hca3 : Keep (ca.all (·.oneCell') = true) := ⟨by rw [hca.out]; exact bytesA_one _ _⟩
   rw [← hca.out] at HH9
   have hi84 : (Tryz.prog.info? 41).map (·.size) = some ca.toList.length := by rw [Array.length_toList]; exact Hca1.out
   clear hH hG
   go_wp2_with fail
   refine wp_region_held_drew (S := fun wx => wx.rangeAt (w.heap.size + 1 + 1) 0 ca.toList ∧ wx.rangeAt g6 0 [.int .i64 W, .int .i64 b]) (by kernel_rfl) ⟨blk_range HH9.out.drew, blk_range HC9.out.drew⟩ (fun hHeld => ?_)
   refine tkS (i := 0) (oi := ⟨some 26, Op.load 41 (Operand.tmp 4), 41, _, _, none⟩) (v := .agg ca.toList.toArray) rfl (yieldsIf_load_mid (by rfl) 41 (.tmp 4) rfl (w.heap.size + 1 + 1) 0 rfl ca.toList _ (fun w hS => hS.1) Tryz.underlying41 rfl hi84) hHeld ?_
   simp only [Array.toArray_toList]
   refine tkS (i := 1) (oi := ⟨some 27, Op.load 34 (Operand.tmp 6), 34, _, _, none⟩) (v := .agg [.int .i64 W, .int .i64 b].toArray) rfl (yieldsIf_load_mid (by rfl) 34 (.tmp 6) rfl g6 0 rfl [.int .i64 W, .int .i64 b] _ (fun w hS => hS.2) Tryz.underlying34 rfl Tryz.size34) hHeld ?_
   refine wpAnyH_ready (rs := [2]) (by kernel_rfl) (by simp) ?_
   refine AllReadyH.cons (o := ⟨none, Op.store 41 (Operand.tmp 2) (Operand.tmp 26), 0, _, _, none⟩) rfl (fun K hK => ?_) AllReadyH.nil
   rw [if_pos (by rfl)]
   refine wp_store_row 41 (.tmp 2) (.tmp 26) rfl w.heap.size ca (by simp [Act.eval]) (by simp [Act.eval]) 41 (bytesA 32 fun _ => 0) HA9.out.drew Hca1.out Hca2.out Hca3.out ?_
   refine hK.out _ _ ⟨blk_range (HH9.out.drew.setRow_ne (by omega) _), blk_range (HC9.out.drew.setRow_ne (by have := Hg6.out; omega) _)⟩ fun hHeld5 => ?_
   clear hK
   simp only [Act.put]
   refine wpAnyH_ready (rs := [3]) (by kernel_rfl) (by simp) ?_
   refine AllReadyH.cons (o := ⟨none, Op.store 34 (Operand.tmp 3) (Operand.tmp 27), 0, _, _, none⟩) rfl (fun K hK => ?_) AllReadyH.nil
   rw [if_pos (by rfl)]
   refine wp_store_row 34 (.tmp 3) (.tmp 27) rfl (w.heap.size + 1) #[.int .i64 W, .int .i64 b] (by simp [Act.eval]) (by simp [Act.eval]) 34 #[.int .i64 0, .int .i64 0] (HB9.out.drew.setRow_ne (by omega) _) Tryz.size34 rfl (all_oneCell_toArray (cs := [.int .i64 W, .int .i64 b]) (fun v hv => by simp at hv; rcases hv with rfl | rfl <;> rfl)) ?_
   refine hK.out _ _ ⟨blk_range ((HH9.out.drew.setRow_ne (by omega) _).setRow_ne (by omega) _), blk_range ((HC9.out.drew.setRow_ne (by have := Hg6.out; omega) _).setRow_ne (by have := Hg6.out; omega) _)⟩ fun hHeld6 => ?_
   clear hK
   refine wpAnyH_done (by kernel_rfl) ?_ _
   go_wp2
   have hfin := bytesA_congr (n := 32) (c := c) (d := fun i => L.getD i 0) (fun i _ => by
    rw [hcd.out]
    by_cases hi : i < L.length
    ·simp only [if_pos hi]
    ·simp only [if_neg hi]
     rw [List.getD_eq_getElem?_getD, List.getElem?_eq_none (by omega)]; rfl)
   have hgf : Grown wr ((wr.drew.setRow w.heap.size ca).setRow (w.heap.size + 1) #[.int .i64 W, .int .i64 b]) (fun k => w.heap.size ≤ k) := ((Grown.refl wr _).drew.trans (Grown.setRow _ _ _ fun _ => Nat.le_refl _)).trans (Grown.setRow _ _ _ fun _ => Nat.le_succ _)
   refine bodyPost_ret (results_cell_cell_row Tryz.results59 _ _ w.heap.size (w.heap.size + 1) 41 34 _ _ (0, 0) (0, 0) _ _ rfl rfl ((HA9.out.drew.setRow _).setRow_ne (by omega) _) ((HB9.out.drew.setRow_ne (by omega) _).setRow _) Tryz.underlying41 rfl Hca1.out Tryz.underlying34 rfl Tryz.size34) rfl ⟨by rw [← hfin, hca.out], ?_, ?_⟩
   ·exact HK.out _ _ HR7.out ((HG9.out.mono fun k _ e => by omega).trans hgf)
   ·exact (HG7.out.next HG9.out fun k hk e => by omega).next hgf fun k hk e => by omega

theorem errB_one {why : Int} {a : Nat} {b : Int} (h : ErrB why a b) : b = if why = 0 then 0 else (a : Int) := by
 rcases h with ⟨h0, h1⟩ | ⟨h0, h1⟩
 ·rw [if_pos h0, h1]
 ·rw [if_neg h0, h1]
theorem errB_is (why : Int) (a : Nat) : ErrB why a (if why = 0 then 0 else (a : Int)) := by
 by_cases h : why = 0
 ·rw [if_pos h]; exact .inl ⟨h, rfl⟩
 ·rw [if_neg h]; exact .inr ⟨h, rfl⟩
theorem xhash_good (x : Nat) (vB : Value) (l : List Int) (a : Nat) (w : World) (h : RfAt w x vB a 0 0) (hR : ∀ wx, (Grown w wx fun k => k = x) → RowAt wx vB l) (ha : a ≤ l.length) (hb : l.length ≤ 140737488355328) (D : List Int) (hD : D = l.drop a) (W : Int) (hW : W = nextW D 32) (N : Nat) (hN : N = nextN D 32) :
  Calls Tryz.prog 59 #[ptr x] w (RfPost x vB W (a + N) (.agg (bytesA 32 (hrd D W))) w) := by
 have hx : x < w.heap.size := Blk.lt h
 have hN32 : N ≤ 32 := by
  by_cases h0 : W = 0
  ·rw [hN, (nextN_0 D 32 (by rw [← hW]; exact h0)).1]; decide
  ·rw [hN, nextN_1 D 32 (by rw [← hW]; exact h0)]; decide
 have hc := xhash_core x w W (if W = 0 then 0 else ((a + N : Nat) : Int)) (D.take N) (fun w' => RfAt w' x vB (a + N) W (if W = 0 then 0 else ((a + N : Nat) : Int))) (fun wB hB => by
  refine (xraw_good x vB l a 32 wB (Blk.below h hB hx) (fun wx hg => hR wx ((Grown.below hB).trans hg)) ha hb D hD W hW N hN).mono ?_
  rintro e w' ⟨b, res, hE, rfl, hr, hg, hrow, hok⟩
  have e := errB_one hE
  rw [e] at hr
  exact ⟨res, by rw [e], hr, hrow, hok, hg⟩)
  (fun wa wb h1 hg => hg.blk h1 (by omega)) hx (by rw [List.length_take]; omega)
 refine hc.mono ?_
 rintro e w' ⟨rfl, hr, hg⟩
 refine ⟨_, errB_is W (a + N), ?_, hr, hg⟩
 rw [bytesA_congr (n := 32) (c := fun i => (D.take N).getD i 0) (d := hrd D W) (fun i hi => ?_)]
 unfold hrd
 by_cases h0 : W = 0
 ·have : N = 32 := by rw [hN, (nextN_0 D 32 (by rw [← hW]; exact h0)).1]; rfl
  rw [if_pos h0, this]
  simp [List.getD_eq_getElem?_getD, hi]
 ·have : N = 0 := by rw [hN, nextN_1 D 32 (by rw [← hW]; exact h0)]
  rw [if_neg h0, this]
  simp
end Go.Proofs.YtdeiicldfgkidaaGreat
namespace Go.Proofs.YtdeiicldfgkidaaGreat
open Go.RowKit
set_option linter.unusedSimpArgs false

def erA (why b : Int) : Array Value := #[.int .i64 why, .int .i64 b]
theorem Tryz.size34B (why b : Int) : (Tryz.prog.info? 34).map (·.size) = some (erA why b).size := by kernel_rfl
theorem Tryz.new34E (w : World) : (Instr.alloc 34 true (.tuple #[])).run Tryz.prog w = .ok (.pointer (some ⟨w.heap.size, 0, none⟩)) (w.alloc (.cells (erA 0 0) 34)) := by kernel_rfl
theorem erA_sizes (a b c d : Int) : (erA a b).size = (erA c d).size := rfl
theorem erA_one (a b : Int) : (erA a b).all (·.oneCell') = true := by simp [erA, Value.oneCell']
theorem erA_built (a b : Int) : Tryz.prog.built 34 [(0, .int .i64 a), (1, .int .i64 b)] = some (erA a b) := by kernel_rfl
theorem erA_0 (a b : Int) : (erA a b)[0]? = some (.int .i64 a) := rfl
theorem assertBad (v : Value) (W : World) : (Instr.typeAssert (.iface 69 v) 30 69 true).run Tryz.prog W = .ok (.tuple #[v, .bool true]) W := assert22 v W
end Go.Proofs.YtdeiicldfgkidaaGreat
namespace Go.Proofs.YtdeiicldfgkidaaGreat
open Go.RowKit
set_option maxRecDepth 8000 in
theorem xwrongG (x : Nat) (vB : Value) (a q : Nat) (why : Int) (w : World) (h : RfAt w x vB a 0 0) : Calls Tryz.prog 57 #[ptr x, .int .i64 why, .int .i64 (q : Int)] w fun e w' => e = .returned (.agg (erA why (q : Int))) ∧ RfAt w' x vB q why (q : Int) ∧ Grown w w' fun k => k = x := by
 have HF : Keep (Blk w x 78 #[vB, .int .i64 (a : Int), .int .i64 0, .int .i64 0]) := ⟨h⟩
 clear h
 go_enter Tryz.func57, Tryz.ntmps57
 refine wp_seq_k fun K1 hK1 => rgn ?_
 refine WL.new (by kernel_rfl) 34 rfl _ Tryz.new34E ?_
 have HZ := Keep.mk (Blk.new w 34 (erA 0 0))
 have HF1 : Keep (Blk (w.alloc (.cells (erA 0 0) 34)) x 78 #[vB, .int .i64 (a : Int), .int .i64 0, .int .i64 0]) := ⟨HF.out.alloc _⟩
 have HG1 : Keep (Grown w (w.alloc (.cells (erA 0 0) 34)) fun k => k = x) := ⟨Grown.alloc w _ _⟩
 generalize w.alloc (.cells (erA 0 0) 34) = w1 at *
 have c2 := HF1.out.c 2 rfl
 simp only [Act.put, pqA, pqB, pqC]
 refine WL.nil (hK1 _ _ ?_)
 refine wp_seq_k fun K2 hK2 => ?_
 refine wp_seq_k fun K3 hK3 => rgn ?_
 refine VlS (.pointer (some ⟨x, 0, none⟩)) ?_
 refine VlS (.pointer (some ⟨x, 0, none⟩)) ?_
 refine VlS (.pointer (some ⟨x, 2, none⟩)) ?_
 refine VlS (.pointer (some ⟨x, 2, none⟩)) ?_
 refine VlS (.int .i64 0) ?_
 refine VlS (.bool true) ?_
 refine WL.nil (hK3 _ _ ?_)
 refine wp_cond_true rfl ?_
 refine wp_seq_k fun K4 hK4 => rgn ?_
 refine VlS (.pointer (some ⟨x, 0, none⟩)) ?_
 refine VlS (.int .i64 why) ?_
 refine VlS (.int .i64 (q : Int)) ?_
 refine WL.bld (by kernel_rfl) 34 _ rfl [(0, .int .i64 why), (1, .int .i64 (q : Int))] (by simp [Act.eval]) (erA why (q : Int)) (erA_built _ _) ?_
 simp only [Act.put, pqA, pqB, pqC]
 refine VlS (.pointer (some ⟨x, 0, none⟩)) ?_
 refine VlS (.pointer (some ⟨x, 2, none⟩)) ?_
 refine WL.part (by kernel_rfl) 34 (.tmp 18) (.tmp 16) rfl x 2 (erA why (q : Int)) rfl rfl 78 #[vB, .int .i64 (a : Int), .int .i64 0, .int .i64 0] HF1.out (Tryz.size34B _ _) (show 2 + 2 ≤ 4 by decide) (erA_one _ _) #[vB, .int .i64 (a : Int), .int .i64 why, .int .i64 (q : Int)] (by simp [erA]) ?_
 have HF2 := Keep.mk (HF1.out.setRow #[vB, .int .i64 (a : Int), .int .i64 why, .int .i64 (q : Int)])
 have HZ2 := Keep.mk (HZ.out.setRow_ne (b' := x) (blk_ne HZ.out HF1.out (by decide)) #[vB, .int .i64 (a : Int), .int .i64 why, .int .i64 (q : Int)])
 have HG2 : Keep (Grown w (w1.setRow x #[vB, .int .i64 (a : Int), .int .i64 why, .int .i64 (q : Int)]) fun k => k = x) := ⟨HG1.out.trans (Grown.setRow w1 x _ fun _ => rfl)⟩
 generalize w1.setRow x #[vB, .int .i64 (a : Int), .int .i64 why, .int .i64 (q : Int)] = w2 at *
 have d1 := HF2.out.c 1 rfl
 have e1 := HF2.out.frozen 1
 clear c2
 simp only [Act.put]
 refine WL.nil (hK4 _ _ ?_)
 refine rgn ?_
 refine VlS (.pointer (some ⟨x, 0, none⟩)) ?_
 refine VlS (.int .i64 (q : Int)) ?_
 refine VlS (.pointer (some ⟨x, 0, none⟩)) ?_
 refine VlS (.pointer (some ⟨x, 1, none⟩)) ?_
 refine WL.cell (by kernel_rfl) (w2.setCell ⟨x, 1, none⟩ (.int .i64 (q : Int))) (by go_simp) ?_
 have HF3 : Keep (Blk (w2.setCell ⟨x, 1, none⟩ (.int .i64 (q : Int))) x 78 #[vB, .int .i64 (q : Int), .int .i64 why, .int .i64 (q : Int)]) := ⟨HF2.out.set 1 (.int .i64 (q : Int))⟩
 have HZ3 := Keep.mk (HZ2.out.set_ne (b' := x) (j := 1) (blk_ne HZ2.out HF2.out (by decide)) (.int .i64 (q : Int)))
 have HG3 : Keep (Grown w (w2.setCell ⟨x, 1, none⟩ (.int .i64 (q : Int))) fun k => k = x) := ⟨HG2.out.trans (Grown.setCell w2 x 1 _ fun _ => rfl)⟩
 generalize w2.setCell ⟨x, 1, none⟩ (.int .i64 (q : Int)) = w3 at *
 clear d1 e1
 simp only [Act.put]
 refine WL.nil (hK2 _ _ ?_)
 refine wp_seq_k fun K5 hK5 => rgn ?_
 refine VlS (.pointer (some ⟨x, 0, none⟩)) ?_
 refine VlS (.pointer (some ⟨x, 0, none⟩)) ?_
 refine VlS (.pointer (some ⟨x, 2, none⟩)) ?_
 refine WL.midA (by kernel_rfl) 34 (.tmp 25) rfl x 2 rfl (erA why (q : Int)) _ (fun j v hv => by
  rw [HF3.out.cell]
  match j with
  | 0 => simpa [erA] using hv
  | 1 => simpa [erA] using hv
  | j + 2 => simp [erA] at hv) Tryz.underlying34 rfl (Tryz.size34B _ _) ?_
 simp only [Act.put, pqA, pqB, pqC]
 refine WL.storeR (by kernel_rfl) 34 (.tmp 6) (.tmp 26) rfl w.heap.size (erA why (q : Int)) rfl rfl 34 (erA 0 0) HZ3.out (Tryz.size34B _ _) (erA_sizes _ _ _ _) (erA_one _ _) ?_
 simp only [Act.put]
 refine WL.nil (hK5 _ _ ?_)
 refine wp_ret ?_
 try simp only [Exit.then]
 refine bodyPost_ret (v := .agg (erA why (q : Int))) (results_cell1_row Tryz.results57 _ _ w.heap.size 34 _ (0, 0) _ rfl (HZ3.out.setRow _) Tryz.underlying34 rfl (Tryz.size34B _ _)) rfl ?_
 exact ⟨rfl, HF3.out.setRow_ne (fun e => blk_ne HZ3.out HF3.out (by decide) e.symm) _, HG3.out.next (Grown.setRow w3 w.heap.size _ (S := fun k => k = w.heap.size) fun _ => rfl) (fun k hk e => by omega)⟩
end Go.Proofs.YtdeiicldfgkidaaGreat
namespace Go.Proofs.YtdeiicldfgkidaaGreat
open Go.RowKit
set_option linter.unusedSimpArgs false

structure OS (w0 : World) (x g4 g5 g6 g9 : Nat) (vB : Value) (y : OpV) (ew eb : Int) (p : Nat) (rw rb : Int) (w : World) : Prop where
 o : Blk w g6 88 (opA y)
 e : Blk w g9 34 (erA ew eb)
 r4 : Blk w g4 88 (opA zeroOp)
 r5 : Blk w g5 34 (erA 0 0)
 rf : RfAt w x vB p rw rb
 gr : Grown w0 w fun k => k = x
 n46 : g4 ≠ g6
 n59 : g5 ≠ g9
 lo : w0.heap.size ≤ g4 ∧ w0.heap.size ≤ g5 ∧ w0.heap.size ≤ g6 ∧ w0.heap.size ≤ g9
section
variable {w0 : World} {x g4 g5 g6 g9 : Nat} {vB : Value} {y : OpV} {ew eb : Int} {p : Nat} {rw rb : Int} {w w' : World}
theorem OS.call (h : OS w0 x g4 g5 g6 g9 vB y ew eb p rw rb w) {p' : Nat} {rw' rb' : Int} (h1 : RfAt w' x vB p' rw' rb') (h2 : Grown w w' fun k => k = x) : OS w0 x g4 g5 g6 g9 vB y ew eb p' rw' rb' w' where
 o := h2.blk h.o (blk_ne h.o h.rf (by decide))
 e := h2.blk h.e (blk_ne h.e h.rf (by decide))
 r4 := h2.blk h.r4 (blk_ne h.r4 h.rf (by decide))
 r5 := h2.blk h.r5 (blk_ne h.r5 h.rf (by decide))
 rf := h1
 gr := h.gr.trans h2
 n46 := h.n46
 n59 := h.n59
 lo := h.lo
theorem OS.below (h : OS w0 x g4 g5 g6 g9 vB y ew eb p rw rb w) (hb : Below w.heap.size w w') : OS w0 x g4 g5 g6 g9 vB y ew eb p rw rb w' where
 o := h.o.below hb h.o.lt
 e := h.e.below hb h.e.lt
 r4 := h.r4.below hb h.r4.lt
 r5 := h.r5.below hb h.r5.lt
 rf := Blk.below h.rf hb (Blk.lt h.rf)
 gr := h.gr.trans (Grown.below hb)
 n46 := h.n46
 n59 := h.n59
 lo := h.lo
theorem OS.setO (h : OS w0 x g4 g5 g6 g9 vB y ew eb p rw rb w) (y' : OpV) (h1 : Blk w' g6 88 (opA y')) (h2 : Grown w w' fun k => k = g6) : OS w0 x g4 g5 g6 g9 vB y' ew eb p rw rb w' where
 o := h1
 e := h2.blk h.e (blk_ne h.e h.o (by decide))
 r4 := h2.blk h.r4 h.n46
 r5 := h2.blk h.r5 (blk_ne h.r5 h.o (by decide))
 rf := h2.blk h.rf (blk_ne h.rf h.o (by decide))
 gr := h.gr.next h2 fun k hk e => by have := h.lo.2.2.1; omega
 n46 := h.n46
 n59 := h.n59
 lo := h.lo
theorem OS.setE (h : OS w0 x g4 g5 g6 g9 vB y ew eb p rw rb w) (ew' eb' : Int) : OS w0 x g4 g5 g6 g9 vB y ew' eb' p rw rb (w.setRow g9 (erA ew' eb')) where
 o := h.o.setRow_ne (blk_ne h.o h.e (by decide)) _
 e := h.e.setRow _
 r4 := h.r4.setRow_ne (blk_ne h.r4 h.e (by decide)) _
 r5 := h.r5.setRow_ne h.n59 _
 rf := Blk.setRow_ne h.rf (blk_ne h.rf h.e (by decide)) _
 gr := h.gr.next (Grown.setRow w g9 _ (S := fun k => k = g9) fun _ => rfl) fun k hk e => by have := h.lo.2.2.2; omega
 n46 := h.n46
 n59 := h.n59
 lo := h.lo
end
theorem byt_n (D : List Int) (mm : Int) : (byt D mm).2.1 ≤ D.length := by
 unfold byt
 split
 ·have h1 := (fstM_shape D mm).2
  have h2 : nextN (D.drop (fstM D mm).2.1.toNat) (fstM D mm).1 ≤ (D.drop (fstM D mm).2.1.toNat).length := by
   by_cases h : nextW (D.drop (fstM D mm).2.1.toNat) (fstM D mm).1 = 0
   ·have := nextN_0 _ _ h; omega
   ·rw [nextN_1 _ _ h]; omega
  rw [List.length_drop] at h2
  show (fstM D mm).2.1.toNat + _ ≤ _
  omega
 ·exact Nat.zero_le _
theorem next_n (D : List Int) (n : Int) : nextN D n ≤ D.length := by
 by_cases h : nextW D n = 0
 ·have := nextN_0 _ _ h; omega
 ·rw [nextN_1 _ _ h]; omega
theorem fst_n (D : List Int) (mm : Int) : (fstM D mm).2.1.toNat ≤ D.length := by have := (fstM_shape D mm).2; omega
theorem adv {L : List Int} {a N : Nat} (ha : a ≤ L.length) (h : N ≤ (L.drop a).length) : a + N ≤ L.length := by rw [List.length_drop] at h; omega
theorem hasI_flags (c : Int) (h : hasI c ≠ []) : hasI c = 0 :: ((if txt c = true then [1] else []) ++ ((if c = 6 then [2] else []) ++ (if hat c = true then [3] else []))) := by
 have hk := hasI_mem h
 simp only [List.mem_cons, List.not_mem_nil, or_false] at hk
 rcases hk with rfl | rfl | rfl | rfl | rfl | rfl | rfl | rfl | rfl <;> decide
theorem hasI_of (c : Int) (h1 : 1 ≤ c) (h2 : c ≤ 9) : hasI c ≠ [] := hasI_some c (by simp only [List.mem_cons, List.not_mem_nil, or_false]; omega)
def ROne (x : Nat) (vB : Value) (R : Int × Nat × OpV) (w : World) (e : Ending) (w' : World) : Prop :=
 ∃ y b, e = .returned (.tuple #[.agg (opA y), .agg (erA R.1 b)]) ∧ ErrB R.1 R.2.1 b ∧ RfAt w' x vB R.2.1 R.1 b ∧ (Grown w w' fun k => k = x) ∧ (R.1 = 0 → y = R.2.2 ∧ OpOk y)
theorem OwnO.nil (w : World) : OwnO w (.slice none 0 0) [] := ⟨rfl, .inl ⟨rfl, rfl⟩⟩
theorem run_appL (w : World) (ty : TypeId) (vx : Value) (m : List OpV) (hx : OwnO w vx m) (hb : m.length ≤ 1000000000000) :
  ∃ v' w', (Builtin.append_ #[26, 26] ty #[.slice none 0 0, vx]).run Tryz.prog w = .ok v' w' ∧ OwnO w' v' m ∧ Below w.heap.size w w' ∧ ∀ k, v'.ownBlock = some k → w.heap.size ≤ k := by
 obtain ⟨i, hi, hzz⟩ := Option.map_eq_some_iff.1 Tryz.info88
 simp only [Prod.mk.injEq] at hzz
 obtain ⟨hz, hsz, hby⟩ := hzz
 rcases hx.form with ⟨rfl, rfl⟩ | ⟨g, cap, cur, rfl, hg, hc, ht⟩
 ·have hrun := run_append_owned_none (P := Tryz.prog) (w := w) 0 26 ty 88 i 37 Tryz.underlying26 hi (.slice none 0 0) 0 [] (OwnO.nil w)
  exact ⟨_, _, hrun, OwnO.nil w, Below.refl _ _, fun k hk => by simp [Value.ownBlock] at hk⟩
 ·obtain ⟨v', w', hr, h1, h2, h3, h4⟩ := run_append_own_at (P := Tryz.prog) w 0 26 ty 88 i (.agg (opA zeroOp)) 37 88 Tryz.underlying26 hi hz hsz hby (opA_size _) (by omega) (.slice none 0 0) 0 [] (OwnO.nil w) ⟨g, 0, none⟩ m.length cap (flatO m) (flatO_len m) (fun j u hu => by
    rw [Addr.add_mid, Nat.zero_add, hg.cell]
    rw [← ht, List.getElem?_take] at hu
    split at hu
    ·simpa using hu
    ·cases hu)
   (fun u hu => by
    obtain ⟨y, _, hy⟩ := List.mem_flatMap.1 hu
    exact (Array.all_eq_true_iff_forall_mem.1 (opA_one y)) u (by unfold opA; simpa using hy)) (by unfold maxLen; omega) (by omega) (Nat.zero_le _)
  refine ⟨v', w', hr, ?_, ⟨h2.os, h2.tape, h2.output, h2.size, fun k hk => h2.block k hk (by simp [Value.ownBlock])⟩, fun k hk => ?_⟩
  ·unfold OwnO; simpa using h1
  ·rcases h4 with h4 | h4
   ·rw [h4] at hk; simp [Value.ownBlock] at hk
   ·rw [h4] at hk; injection hk with hk; omega
theorem wp_appL {Q : Exit → Act → World → Prop} {o : Oper} {a : Act} {w : World} {K : Act → World → Prop} (s x : Operand)
  (ho : o.op = .call { callee := .builtin .append, args := #[s, x], argTypes := #[26, 26] }) (vx : Value) (m : List OpV)
  (hs : a.eval s = .slice none 0 0) (hx : a.eval x = vx) (hown : OwnO w vx m) (hb : m.length ≤ 1000000000000)
  (h : ∀ v' w', OwnO w' v' m → Below w.heap.size w w' → (∀ k, v'.ownBlock = some k → w.heap.size ≤ k) → K (a.put o.dst v') w') : o.wp Tryz.prog a w K Q := by
 obtain ⟨v', w', hr, h2, h3, h4⟩ := run_appL w o.type vx m hown hb
 unfold Oper.wp execOp
 simp only [ho, resolve, invoke, builtin, Sem.run_bind, Sem.run_pure, Result.andThen_ok, List.map_toArray, List.map_cons, List.map_nil, hs, hx, hr]
 exact h v' w' h2 h3 h4
theorem wp_appO1 {Q : Exit → Act → World → Prop} {o : Oper} {a : Act} {w : World} {K : Act → World → Prop} (s x : Operand)
  (ho : o.op = .call { callee := .builtin .append, args := #[s, x], argTypes := #[26, 26] }) (v : Value) (l : List OpV) (g : Nat) (y : OpV)
  (hs : a.eval s = v) (hx : a.eval x = .slice (some ⟨g, 0, none⟩) 1 1) (hown : OwnO w v l) (hg : Blk w g 88 (opA y)) (hb : l.length ≤ 1000000000000)
  (h : ∀ v' w', OwnO w' v' (l ++ [y]) → (Grown w w' fun k => v.ownBlock = some k) → Moved w v v' → K (a.put o.dst v') w') : o.wp Tryz.prog a w K Q := by
 obtain ⟨v', w', hr, h1, h2, h3⟩ := run_appO w o.type v l hown g y hg hb
 unfold Oper.wp execOp
 simp only [ho, resolve, invoke, builtin, Sem.run_bind, Sem.run_pure, Result.andThen_ok, List.map_toArray, List.map_cons, List.map_nil, hs, hx, hr]
 exact h v' w' h1 h2 h3
theorem wp_bsO {P : Program} {o : Oper} {a : Act} {w : World} {K : Act → World → Prop} {Q : Exit → Act → World → Prop} (t : TypeId) (n : Nat) (parts : Array (Nat × Operand)) (ho : o.op = .buildSlice t n parts)
  (vs : Array (Nat × Value)) (hv : (parts.map fun (i, x) => (i, a.eval x)) = vs) (v : Value) (w' : World) (hrun : (Instr.buildSlice t n vs).run P w = .ok v w') (h : K (a.put o.dst v) w') : o.wp P a w K Q := by
 unfold Oper.wp execOp
 simp only [ho, hv, Sem.run_bind, hrun, Result.andThen_ok]
 exact h
end Go.Proofs.YtdeiicldfgkidaaGreat
namespace Go.Proofs.YtdeiicldfgkidaaGreat
open Go.RowKit
set_option linter.unusedSimpArgs false
set_option linter.unusedVariables false

theorem ok_kind {y : OpV} {k : Int} (h : OpOk y) (h1 : 0 ≤ k) (h2 : k < 256) : OpOk { y with kind := k } := by
 have e1 : (-9223372036854775808 : Int) ≤ k := by omega
 have e2 : k ≤ (9223372036854775807 : Int) := by omega
 exact { h with k1 := e1, k2 := e2 }
theorem ok_key {y : OpV} {st : ByteArray} (h : OpOk y) (hs : st.size ≤ 140737488355328) : OpOk { y with key := st } := { h with key := hs }
theorem ok_text {y : OpV} {st : ByteArray} (h : OpOk y) (hs : st.size ≤ 140737488355328) : OpOk { y with text := st } := { h with text := hs }
theorem ok_n {y : OpV} {k : Int} (h : OpOk y) (h1 : -9223372036854775808 ≤ k) (h2 : k ≤ 9223372036854775807) : OpOk { y with n := k } := { h with n1 := h1, n2 := h2 }
theorem ok_op {y : OpV} {k : Int} (h : OpOk y) (h1 : 0 ≤ k) (h2 : k ≤ 1024) : OpOk { y with op := k } := by
 have e1 : (-9223372036854775808 : Int) ≤ k := by omega
 have e2 : k ≤ (9223372036854775807 : Int) := by omega
 exact { h with o1 := e1, o2 := e2 }
theorem ok_node {y : OpV} {c : List Int} (h : OpOk y) (h1 : c.length = 32) (h2 : Byts c) : OpOk { y with node := c } := { h with node := h1, byts := h2 }
theorem fst_tri (D : List Int) (mm : Int) : ∃ X N W, fstM D mm = (X, ((N : Nat) : Int), W) ∧ N ≤ D.length := by
 have h := (fstM_shape D mm).2
 refine ⟨(fstM D mm).1, (fstM D mm).2.1.toNat, (fstM D mm).2.2, ?_, by omega⟩
 rw [Int.toNat_of_nonneg h.1]
theorem byt_sz (L : List Int) (hL : Byts L) (hb : L.length ≤ 140737488355328) (p : Nat) : (strOfNums (byt (L.drop p) 65536).2.2).size ≤ 140737488355328 := by
 have h1 := byt_l (L.drop p) 65536
 rw [str_size (h1.2 (hL.drop p))]
 have h2 := h1.1
 rw [List.length_drop] at h2
 omega
theorem hash_take (D : List Int) (W : Int) (h : W = 0) (hl32 : (D.take 32).length = 32) : hl 32 (hrd D W) = D.take 32 := by
 rw [← hl_hof (D.take 32) hl32]
 unfold hl
 apply List.map_congr_left
 intro i hi
 have hi' := List.mem_range.1 hi
 show (if W = 0 then D.getD i 0 else 0) = (D.take 32).getD i 0
 rw [if_pos h]
 simp [List.getD_eq_getElem?_getD, List.getElem?_take, hi']
def cS : Code → Code
 | .seq _ b => b
 | c => c
def cF : Code → Code
 | .seq a _ => a
 | c => c
def cT : Code → Code
 | .cond _ a _ => a
 | c => c
def OI (w : World) (x g4 g5 g6 g9 : Nat) (vB : Value) (L : List Int) (l : List OpV) (c : Int) (G : Int × Nat × OpV) (is : List Nat) (w1 : World) : Prop :=
 ∃ y ew eb p, OS w x g4 g5 g6 g9 vB y ew eb p ew eb w1 ∧ p ≤ L.length ∧ y.kind = c ∧ ((ew = 0 ∧ eb = 0 ∧ OpOk y ∧ G = getFs L l is y p) ∨ (ew ≠ 0 ∧ ErrB ew p eb ∧ G.1 = ew ∧ G.2.1 = p))
theorem OI.next {w : World} {x g4 g5 g6 g9 : Nat} {vB : Value} {L : List Int} {l : List OpV} {c : Int} {G : Int × Nat × OpV} {i : Nat} {is : List Nat} {w1 : World} {y y' : OpV} {p N : Nat} {W b : Int} (hG : G = getFs L l (i :: is) y p) (hF : getF L l i y p = (W, p + N, y')) (hS : OS w x g4 g5 g6 g9 vB y' W b (p + N) W b w1) (hp : p + N ≤ L.length) (hk : y'.kind = c) (hE : ErrB W (p + N) b) (hok : OpOk y') : OI w x g4 g5 g6 g9 vB L l c G is w1 := by
 refine ⟨y', W, b, p + N, hS, hp, hk, ?_⟩
 rw [getFs, hF] at hG
 by_cases h : W = 0
 ·refine .inl ⟨h, ?_, hok, ?_⟩
  ·rcases hE with ⟨_, h2⟩ | ⟨h2, _⟩
   ·exact h2
   ·exact absurd h h2
  ·rw [if_pos h] at hG; exact hG
 ·refine .inr ⟨h, hE, ?_, ?_⟩
  ·rw [if_neg h] at hG; rw [hG]
  ·rw [if_neg h] at hG; rw [hG]
theorem OI.stuck {w : World} {x g4 g5 g6 g9 : Nat} {vB : Value} {L : List Int} {l : List OpV} {c : Int} {G : Int × Nat × OpV} {is : List Nat} {w1 : World} {y : OpV} {p : Nat} {W b : Int} (hS : OS w x g4 g5 g6 g9 vB y W b p W b w1) (hp : p ≤ L.length) (hk : y.kind = c) (hne : W ≠ 0) (hE : ErrB W p b) (h1 : G.1 = W) (h2 : G.2.1 = p) : OI w x g4 g5 g6 g9 vB L l c G is w1 := ⟨y, W, b, p, hS, hp, hk, .inr ⟨hne, hE, h1, h2⟩⟩
set_option maxRecDepth 8000 in
set_option maxHeartbeats 1000000 in
theorem key_step {u2 u3 u7 u8 u10 u11 u12 u13 u14 u15 u16 u17 u18 u19 u20 u21 u22 u23 u24 u25 u26 u27 u28 u29 u30 u31 u32 u33 u34 u35 u36 u37 u38 u39 u40 u41 u42 u43 u44 u45 u46 u47 u48 u49 u50 u51 u52 u53 u54 u55 u56 u57 u58 u59 u60 u61 u62 u63 u64 u65 u66 u67 u68 u69 u70 u71 u72 u73 u74 u75 u76 u77 u78 u79 u80 u81 u82 u83 u84 u85 u86 u87 u88 u89 u90 u91 u92 u93 u94 u95 u96 u97 u98 u99 u100 u101 u102 u103 u104 u105 u106 u107 u108 u109 u110 u111 u112 u113 u114 u115 u116 u117 u118 u119 u120 u121 u122 u123 u124 u125 u126 : Value} {Q : Exit → Act → World → Prop} {c : Int} {is : List Nat} (x g4 g5 g6 g9 : Nat) (vB : Value) (L : List Int) (vl : Value) (l : List OpV) (w w1 : World) (G : Int × Nat × OpV) (hR : ∀ wx, (Grown w wx fun k => k = x) → RowAt wx vB L) (hb : L.length ≤ 140737488355328) (hby : Byts L) (hI : OI w x g4 g5 g6 g9 vB L l c G (0 :: is) w1)
  (hQ : ∀ (v47 v48 v49 v50 v51 v52 : Value) (w2 : World), OI w x g4 g5 g6 g9 vB L l c G is w2 → Q .normal { tmps := #[.pointer (some ⟨x, 0, none⟩), vl, u2, u3, .pointer (some ⟨g4, 0, none⟩), .pointer (some ⟨g5, 0, none⟩), .pointer (some ⟨g6, 0, none⟩), u7, u8, .pointer (some ⟨g9, 0, none⟩), u10, u11, u12, u13, u14, u15, u16, u17, u18, u19, u20, u21, u22, u23, u24, u25, u26, u27, u28, u29, u30, u31, u32, u33, u34, u35, u36, u37, u38, u39, u40, u41, u42, u43, u44, u45, u46, v47, v48, v49, v50, v51, v52, u53, u54, u55, u56, u57, u58, u59, u60, u61, u62, u63, u64, u65, u66, u67, u68, u69, u70, u71, u72, u73, u74, u75, u76, u77, u78, u79, u80, u81, u82, u83, u84, u85, u86, u87, u88, u89, u90, u91, u92, u93, u94, u95, u96, u97, u98, u99, u100, u101, u102, u103, u104, u105, u106, u107, u108, u109, u110, u111, u112, u113, u114, u115, u116, u117, u118, u119, u120, u121, u122, u123, u124, u125, u126], defers := [] } w2) : Code.wp Tryz.prog (cF (cS (cS (cS (cS (cS (cS (cS (Tryz.f61.body.getD Code.skip))))))))) Q { tmps := #[.pointer (some ⟨x, 0, none⟩), vl, u2, u3, .pointer (some ⟨g4, 0, none⟩), .pointer (some ⟨g5, 0, none⟩), .pointer (some ⟨g6, 0, none⟩), u7, u8, .pointer (some ⟨g9, 0, none⟩), u10, u11, u12, u13, u14, u15, u16, u17, u18, u19, u20, u21, u22, u23, u24, u25, u26, u27, u28, u29, u30, u31, u32, u33, u34, u35, u36, u37, u38, u39, u40, u41, u42, u43, u44, u45, u46, u47, u48, u49, u50, u51, u52, u53, u54, u55, u56, u57, u58, u59, u60, u61, u62, u63, u64, u65, u66, u67, u68, u69, u70, u71, u72, u73, u74, u75, u76, u77, u78, u79, u80, u81, u82, u83, u84, u85, u86, u87, u88, u89, u90, u91, u92, u93, u94, u95, u96, u97, u98, u99, u100, u101, u102, u103, u104, u105, u106, u107, u108, u109, u110, u111, u112, u113, u114, u115, u116, u117, u118, u119, u120, u121, u122, u123, u124, u125, u126], defers := [] } w1 := by
 have HRow := Keep.mk hR
 have Hb := Keep.mk hb
 have HBy := Keep.mk hby
 clear hR hb hby
 obtain ⟨y, ew, eb, p, hS, hp, hk, hc⟩ := hI
 have HS := Keep.mk hS
 have Hp := Keep.mk hp
 have Hk := Keep.mk hk
 clear hS hp hk
 rcases hc with ⟨rfl, rfl, hok, hG⟩ | ⟨hne, hE, hG1, hG2⟩
 rotate_left
 ·have Hne := Keep.mk hne
  have HEb := Keep.mk hE
  have HG1 := Keep.mk hG1
  have HG2 := Keep.mk hG2
  clear hne hE hG1 hG2
  refine rgn ?_
  refine VlS (.pointer (some ⟨x, 0, none⟩)) ?_
  refine WL.callF (by kernel_rfl) 91 _ _ rfl Tryz.in91 #[ptr x, .int .i64 65536] (by simp [Act.eval]) ?_
  refine (xtext_bad x vB p ew eb 65536 w1 HS.out.rf Hne.out (by decide) (by decide)).mono ?_
  rintro e w2 ⟨rfl, hbl⟩
  refine ⟨.tuple #[.string ByteArray.empty, .agg (erA ew eb)], rfl, ?_⟩
  have H2 := Keep.mk (HS.out.below hbl)
  clear hbl HS
  simp only [Act.put, pqA, pqB, pqC]
  refine VlS (.tuple #[.string ByteArray.empty, .agg (erA ew eb)]) ?_
  refine VlS (.string ByteArray.empty) ?_
  refine VlS (.agg (erA ew eb)) ?_
  refine VlS (.pointer (some ⟨g6, 1, none⟩)) ?_
  have c_o := H2.out.o.c 1 (opA_1 _)
  have f_o := H2.out.o.frozen 1
  refine WL.cell (by kernel_rfl) (w2.setCell ⟨g6, 1, none⟩ (.string ByteArray.empty)) (by go_simp) ?_
  clear c_o f_o
  obtain ⟨yn, hyn⟩ : ∃ y' : OpV, y' = { y with key := ByteArray.empty } := ⟨_, rfl⟩
  have Eyn := Keep.mk hyn
  clear hyn
  have H3 : Keep (OS w x g4 g5 g6 g9 vB yn ew eb p ew eb (w2.setCell ⟨g6, 1, none⟩ (.string ByteArray.empty))) := ⟨H2.out.setO yn (by rw [Eyn.out]; have h := H2.out.o.set 1 (.string ByteArray.empty); rw [set_1] at h; exact h) (Grown.setCell w2 g6 1 _ fun _ => rfl)⟩
  generalize w2.setCell ⟨g6, 1, none⟩ (.string ByteArray.empty) = w3 at *
  clear H2
  simp only [Act.put]
  refine WL.storeR (by kernel_rfl) 34 (.tmp 9) (.tmp 51) rfl g9 (erA ew eb) rfl rfl 34 (erA ew eb) H3.out.e (Tryz.size34B _ _) (erA_sizes _ _ _ _) (erA_one _ _) ?_
  have H4 := Keep.mk (H3.out.setE ew eb)
  generalize w3.setRow g9 (erA ew eb) = w4 at *
  clear H3
  simp only [Act.put]
  refine WL.nil ?_
  exact hQ (.tuple #[.string ByteArray.empty, .agg (erA ew eb)]) (.pointer (some ⟨x, 0, none⟩)) (.tuple #[.string ByteArray.empty, .agg (erA ew eb)]) (.string ByteArray.empty) (.agg (erA ew eb)) (.pointer (some ⟨g6, 1, none⟩)) w4 (OI.stuck H4.out Hp.out (by rw [Eyn.out]; exact Hk.out) Hne.out HEb.out HG1.out HG2.out)
 ·have Hok := Keep.mk hok
  have HG := Keep.mk hG
  clear hok hG
  obtain ⟨D2, hD2⟩ : ∃ z, Keep (z = L.drop p) := ⟨_, ⟨rfl⟩⟩
  obtain ⟨W2, hW2⟩ : ∃ z, Keep (z = (byt D2 ((65536 : Nat) : Int)).1) := ⟨_, ⟨rfl⟩⟩
  obtain ⟨N2, hN2⟩ : ∃ z, Keep (z = (byt D2 ((65536 : Nat) : Int)).2.1) := ⟨_, ⟨rfl⟩⟩
  obtain ⟨l2, hl2⟩ : ∃ z, Keep (z = (byt D2 ((65536 : Nat) : Int)).2.2) := ⟨_, ⟨rfl⟩⟩
  obtain ⟨s2, hs2⟩ : ∃ z, Keep (z = strOfNums l2) := ⟨_, ⟨rfl⟩⟩
  refine rgn ?_
  refine VlS (.pointer (some ⟨x, 0, none⟩)) ?_
  refine WL.callF (by kernel_rfl) 91 _ _ rfl Tryz.in91 #[ptr x, .int .i64 65536] (by simp [Act.eval]) ?_
  refine (xtext_good x vB L p w1 HS.out.rf (fun wx hx => HRow.out wx (HS.out.gr.trans hx)) Hp.out Hb.out HBy.out D2 hD2.out 65536 65536 (by decide) (by decide) W2 hW2.out N2 hN2.out l2 hl2.out s2 hs2.out).mono ?_
  rintro e w2 ⟨b2, hE, rfl, h1, h2⟩
  refine ⟨.tuple #[.string s2, .agg (erA W2 b2)], rfl, ?_⟩
  have hEb := Keep.mk hE
  have H2 := Keep.mk (HS.out.call h1 h2)
  clear h1 h2 hE HS
  simp only [Act.put, pqA, pqB, pqC]
  refine VlS (.tuple #[.string s2, .agg (erA W2 b2)]) ?_
  refine VlS (.string s2) ?_
  refine VlS (.agg (erA W2 b2)) ?_
  refine VlS (.pointer (some ⟨g6, 1, none⟩)) ?_
  have c_o := H2.out.o.c 1 (opA_1 _)
  have f_o := H2.out.o.frozen 1
  refine WL.cell (by kernel_rfl) (w2.setCell ⟨g6, 1, none⟩ (.string s2)) (by go_simp) ?_
  clear c_o f_o
  obtain ⟨yn, hyn⟩ : ∃ y' : OpV, y' = { y with key := s2 } := ⟨_, rfl⟩
  have Eyn := Keep.mk hyn
  clear hyn
  have H3 : Keep (OS w x g4 g5 g6 g9 vB yn 0 0 (p + N2) W2 b2 (w2.setCell ⟨g6, 1, none⟩ (.string s2))) := ⟨H2.out.setO yn (by rw [Eyn.out]; have h := H2.out.o.set 1 (.string s2); rw [set_1] at h; exact h) (Grown.setCell w2 g6 1 _ fun _ => rfl)⟩
  generalize w2.setCell ⟨g6, 1, none⟩ (.string s2) = w3 at *
  clear H2
  simp only [Act.put]
  refine WL.storeR (by kernel_rfl) 34 (.tmp 9) (.tmp 51) rfl g9 (erA W2 b2) rfl rfl 34 (erA 0 0) H3.out.e (Tryz.size34B _ _) (erA_sizes _ _ _ _) (erA_one _ _) ?_
  have H4 := Keep.mk (H3.out.setE W2 b2)
  generalize w3.setRow g9 (erA W2 b2) = w4 at *
  clear H3
  simp only [Act.put]
  refine WL.nil ?_
  exact hQ (.tuple #[.string s2, .agg (erA W2 b2)]) (.pointer (some ⟨x, 0, none⟩)) (.tuple #[.string s2, .agg (erA W2 b2)]) (.string s2) (.agg (erA W2 b2)) (.pointer (some ⟨g6, 1, none⟩)) w4 (OI.next HG.out (by
   rw [Eyn.out]
   show ((byt (L.drop p) 65536).1, p + (byt (L.drop p) 65536).2.1, _) = _
   rw [hs2.out, hl2.out, hW2.out, hN2.out, hD2.out]; rfl) H4.out (adv Hp.out (by rw [hN2.out, hD2.out]; exact byt_n _ _)) (by rw [Eyn.out]; exact Hk.out) hEb.out (by rw [Eyn.out]; exact ok_key Hok.out (by rw [hs2.out, hl2.out, hD2.out]; exact byt_sz L HBy.out Hb.out _)))
set_option maxRecDepth 8000 in
set_option maxHeartbeats 1000000 in
theorem text_step {u2 u3 u7 u8 u10 u11 u12 u13 u14 u15 u16 u17 u18 u19 u20 u21 u22 u23 u24 u25 u26 u27 u28 u29 u30 u31 u32 u33 u34 u35 u36 u37 u38 u39 u40 u41 u42 u43 u44 u45 u46 u47 u48 u49 u50 u51 u52 u53 u54 u55 u56 u57 u58 u59 u60 u61 u62 u63 u64 u65 u66 u67 u68 u69 u70 u71 u72 u73 u74 u75 u76 u77 u78 u79 u80 u81 u82 u83 u84 u85 u86 u87 u88 u89 u90 u91 u92 u93 u94 u95 u96 u97 u98 u99 u100 u101 u102 u103 u104 u105 u106 u107 u108 u109 u110 u111 u112 u113 u114 u115 u116 u117 u118 u119 u120 u121 u122 u123 u124 u125 u126 : Value} {Q : Exit → Act → World → Prop} {c : Int} {is : List Nat} (x g4 g5 g6 g9 : Nat) (vB : Value) (L : List Int) (vl : Value) (l : List OpV) (w w1 : World) (G : Int × Nat × OpV) (hR : ∀ wx, (Grown w wx fun k => k = x) → RowAt wx vB L) (hb : L.length ≤ 140737488355328) (hby : Byts L) (hI : OI w x g4 g5 g6 g9 vB L l c G (1 :: is) w1)
  (hQ : ∀ (v57 v58 v59 v60 v61 v62 : Value) (w2 : World), OI w x g4 g5 g6 g9 vB L l c G is w2 → Q .normal { tmps := #[.pointer (some ⟨x, 0, none⟩), vl, u2, u3, .pointer (some ⟨g4, 0, none⟩), .pointer (some ⟨g5, 0, none⟩), .pointer (some ⟨g6, 0, none⟩), u7, u8, .pointer (some ⟨g9, 0, none⟩), u10, u11, u12, u13, u14, u15, u16, u17, u18, u19, u20, u21, u22, u23, u24, u25, u26, u27, u28, u29, u30, u31, u32, u33, u34, u35, u36, u37, u38, u39, u40, u41, u42, u43, u44, u45, u46, u47, u48, u49, u50, u51, u52, u53, u54, u55, u56, v57, v58, v59, v60, v61, v62, u63, u64, u65, u66, u67, u68, u69, u70, u71, u72, u73, u74, u75, u76, u77, u78, u79, u80, u81, u82, u83, u84, u85, u86, u87, u88, u89, u90, u91, u92, u93, u94, u95, u96, u97, u98, u99, u100, u101, u102, u103, u104, u105, u106, u107, u108, u109, u110, u111, u112, u113, u114, u115, u116, u117, u118, u119, u120, u121, u122, u123, u124, u125, u126], defers := [] } w2) : Code.wp Tryz.prog (cT (cS (cF (cS (cS (cS (cS (cS (cS (cS (cS (cS (Tryz.f61.body.getD Code.skip))))))))))))) Q { tmps := #[.pointer (some ⟨x, 0, none⟩), vl, u2, u3, .pointer (some ⟨g4, 0, none⟩), .pointer (some ⟨g5, 0, none⟩), .pointer (some ⟨g6, 0, none⟩), u7, u8, .pointer (some ⟨g9, 0, none⟩), u10, u11, u12, u13, u14, u15, u16, u17, u18, u19, u20, u21, u22, u23, u24, u25, u26, u27, u28, u29, u30, u31, u32, u33, u34, u35, u36, u37, u38, u39, u40, u41, u42, u43, u44, u45, u46, u47, u48, u49, u50, u51, u52, u53, u54, u55, u56, u57, u58, u59, u60, u61, u62, u63, u64, u65, u66, u67, u68, u69, u70, u71, u72, u73, u74, u75, u76, u77, u78, u79, u80, u81, u82, u83, u84, u85, u86, u87, u88, u89, u90, u91, u92, u93, u94, u95, u96, u97, u98, u99, u100, u101, u102, u103, u104, u105, u106, u107, u108, u109, u110, u111, u112, u113, u114, u115, u116, u117, u118, u119, u120, u121, u122, u123, u124, u125, u126], defers := [] } w1 := by
 have HRow := Keep.mk hR
 have Hb := Keep.mk hb
 have HBy := Keep.mk hby
 clear hR hb hby
 obtain ⟨y, ew, eb, p, hS, hp, hk, hc⟩ := hI
 have HS := Keep.mk hS
 have Hp := Keep.mk hp
 have Hk := Keep.mk hk
 clear hS hp hk
 rcases hc with ⟨rfl, rfl, hok, hG⟩ | ⟨hne, hE, hG1, hG2⟩
 rotate_left
 ·have Hne := Keep.mk hne
  have HEb := Keep.mk hE
  have HG1 := Keep.mk hG1
  have HG2 := Keep.mk hG2
  clear hne hE hG1 hG2
  refine rgn ?_
  refine VlS (.pointer (some ⟨x, 0, none⟩)) ?_
  refine WL.callF (by kernel_rfl) 91 _ _ rfl Tryz.in91 #[ptr x, .int .i64 65536] (by simp [Act.eval]) ?_
  refine (xtext_bad x vB p ew eb 65536 w1 HS.out.rf Hne.out (by decide) (by decide)).mono ?_
  rintro e w2 ⟨rfl, hbl⟩
  refine ⟨.tuple #[.string ByteArray.empty, .agg (erA ew eb)], rfl, ?_⟩
  have H2 := Keep.mk (HS.out.below hbl)
  clear hbl HS
  simp only [Act.put, pqA, pqB, pqC]
  refine VlS (.tuple #[.string ByteArray.empty, .agg (erA ew eb)]) ?_
  refine VlS (.string ByteArray.empty) ?_
  refine VlS (.agg (erA ew eb)) ?_
  refine VlS (.pointer (some ⟨g6, 2, none⟩)) ?_
  have c_o := H2.out.o.c 2 (opA_2 _)
  have f_o := H2.out.o.frozen 2
  refine WL.cell (by kernel_rfl) (w2.setCell ⟨g6, 2, none⟩ (.string ByteArray.empty)) (by go_simp) ?_
  clear c_o f_o
  obtain ⟨yn, hyn⟩ : ∃ y' : OpV, y' = { y with text := ByteArray.empty } := ⟨_, rfl⟩
  have Eyn := Keep.mk hyn
  clear hyn
  have H3 : Keep (OS w x g4 g5 g6 g9 vB yn ew eb p ew eb (w2.setCell ⟨g6, 2, none⟩ (.string ByteArray.empty))) := ⟨H2.out.setO yn (by rw [Eyn.out]; have h := H2.out.o.set 2 (.string ByteArray.empty); rw [set_2] at h; exact h) (Grown.setCell w2 g6 2 _ fun _ => rfl)⟩
  generalize w2.setCell ⟨g6, 2, none⟩ (.string ByteArray.empty) = w3 at *
  clear H2
  simp only [Act.put]
  refine WL.storeR (by kernel_rfl) 34 (.tmp 9) (.tmp 61) rfl g9 (erA ew eb) rfl rfl 34 (erA ew eb) H3.out.e (Tryz.size34B _ _) (erA_sizes _ _ _ _) (erA_one _ _) ?_
  have H4 := Keep.mk (H3.out.setE ew eb)
  generalize w3.setRow g9 (erA ew eb) = w4 at *
  clear H3
  simp only [Act.put]
  refine WL.nil ?_
  exact hQ (.tuple #[.string ByteArray.empty, .agg (erA ew eb)]) (.pointer (some ⟨x, 0, none⟩)) (.tuple #[.string ByteArray.empty, .agg (erA ew eb)]) (.string ByteArray.empty) (.agg (erA ew eb)) (.pointer (some ⟨g6, 2, none⟩)) w4 (OI.stuck H4.out Hp.out (by rw [Eyn.out]; exact Hk.out) Hne.out HEb.out HG1.out HG2.out)
 ·have Hok := Keep.mk hok
  have HG := Keep.mk hG
  clear hok hG
  obtain ⟨D2, hD2⟩ : ∃ z, Keep (z = L.drop p) := ⟨_, ⟨rfl⟩⟩
  obtain ⟨W2, hW2⟩ : ∃ z, Keep (z = (byt D2 ((65536 : Nat) : Int)).1) := ⟨_, ⟨rfl⟩⟩
  obtain ⟨N2, hN2⟩ : ∃ z, Keep (z = (byt D2 ((65536 : Nat) : Int)).2.1) := ⟨_, ⟨rfl⟩⟩
  obtain ⟨l2, hl2⟩ : ∃ z, Keep (z = (byt D2 ((65536 : Nat) : Int)).2.2) := ⟨_, ⟨rfl⟩⟩
  obtain ⟨s2, hs2⟩ : ∃ z, Keep (z = strOfNums l2) := ⟨_, ⟨rfl⟩⟩
  refine rgn ?_
  refine VlS (.pointer (some ⟨x, 0, none⟩)) ?_
  refine WL.callF (by kernel_rfl) 91 _ _ rfl Tryz.in91 #[ptr x, .int .i64 65536] (by simp [Act.eval]) ?_
  refine (xtext_good x vB L p w1 HS.out.rf (fun wx hx => HRow.out wx (HS.out.gr.trans hx)) Hp.out Hb.out HBy.out D2 hD2.out 65536 65536 (by decide) (by decide) W2 hW2.out N2 hN2.out l2 hl2.out s2 hs2.out).mono ?_
  rintro e w2 ⟨b2, hE, rfl, h1, h2⟩
  refine ⟨.tuple #[.string s2, .agg (erA W2 b2)], rfl, ?_⟩
  have hEb := Keep.mk hE
  have H2 := Keep.mk (HS.out.call h1 h2)
  clear h1 h2 hE HS
  simp only [Act.put, pqA, pqB, pqC]
  refine VlS (.tuple #[.string s2, .agg (erA W2 b2)]) ?_
  refine VlS (.string s2) ?_
  refine VlS (.agg (erA W2 b2)) ?_
  refine VlS (.pointer (some ⟨g6, 2, none⟩)) ?_
  have c_o := H2.out.o.c 2 (opA_2 _)
  have f_o := H2.out.o.frozen 2
  refine WL.cell (by kernel_rfl) (w2.setCell ⟨g6, 2, none⟩ (.string s2)) (by go_simp) ?_
  clear c_o f_o
  obtain ⟨yn, hyn⟩ : ∃ y' : OpV, y' = { y with text := s2 } := ⟨_, rfl⟩
  have Eyn := Keep.mk hyn
  clear hyn
  have H3 : Keep (OS w x g4 g5 g6 g9 vB yn 0 0 (p + N2) W2 b2 (w2.setCell ⟨g6, 2, none⟩ (.string s2))) := ⟨H2.out.setO yn (by rw [Eyn.out]; have h := H2.out.o.set 2 (.string s2); rw [set_2] at h; exact h) (Grown.setCell w2 g6 2 _ fun _ => rfl)⟩
  generalize w2.setCell ⟨g6, 2, none⟩ (.string s2) = w3 at *
  clear H2
  simp only [Act.put]
  refine WL.storeR (by kernel_rfl) 34 (.tmp 9) (.tmp 61) rfl g9 (erA W2 b2) rfl rfl 34 (erA 0 0) H3.out.e (Tryz.size34B _ _) (erA_sizes _ _ _ _) (erA_one _ _) ?_
  have H4 := Keep.mk (H3.out.setE W2 b2)
  generalize w3.setRow g9 (erA W2 b2) = w4 at *
  clear H3
  simp only [Act.put]
  refine WL.nil ?_
  exact hQ (.tuple #[.string s2, .agg (erA W2 b2)]) (.pointer (some ⟨x, 0, none⟩)) (.tuple #[.string s2, .agg (erA W2 b2)]) (.string s2) (.agg (erA W2 b2)) (.pointer (some ⟨g6, 2, none⟩)) w4 (OI.next HG.out (by
   rw [Eyn.out]
   show ((byt (L.drop p) 65536).1, p + (byt (L.drop p) 65536).2.1, _) = _
   rw [hs2.out, hl2.out, hW2.out, hN2.out, hD2.out]; rfl) H4.out (adv Hp.out (by rw [hN2.out, hD2.out]; exact byt_n _ _)) (by rw [Eyn.out]; exact Hk.out) hEb.out (by rw [Eyn.out]; exact ok_text Hok.out (by rw [hs2.out, hl2.out, hD2.out]; exact byt_sz L HBy.out Hb.out _)))
set_option maxRecDepth 8000 in
set_option maxHeartbeats 1000000 in
theorem n_step {u2 u3 u7 u8 u10 u11 u12 u13 u14 u15 u16 u17 u18 u19 u20 u21 u22 u23 u24 u25 u26 u27 u28 u29 u30 u31 u32 u33 u34 u35 u36 u37 u38 u39 u40 u41 u42 u43 u44 u45 u46 u47 u48 u49 u50 u51 u52 u53 u54 u55 u56 u57 u58 u59 u60 u61 u62 u63 u64 u65 u66 u67 u68 u69 u70 u71 u72 u73 u74 u75 u76 u77 u78 u79 u80 u81 u82 u83 u84 u85 u86 u87 u88 u89 u90 u91 u92 u93 u94 u95 u96 u97 u98 u99 u100 u101 u102 u103 u104 u105 u106 u107 u108 u109 u110 u111 u112 u113 u114 u115 u116 u117 u118 u119 u120 u121 u122 u123 u124 u125 u126 : Value} {Q : Exit → Act → World → Prop} {c : Int} {is : List Nat} (x g4 g5 g6 g9 : Nat) (vB : Value) (L : List Int) (vl : Value) (l : List OpV) (w w1 : World) (G : Int × Nat × OpV) (hR : ∀ wx, (Grown w wx fun k => k = x) → RowAt wx vB L) (hb : L.length ≤ 140737488355328) (hby : Byts L) (hI : OI w x g4 g5 g6 g9 vB L l c G (2 :: is) w1)
  (hQ : ∀ (v66 v67 v68 v69 v70 v71 : Value) (w2 : World), OI w x g4 g5 g6 g9 vB L l c G is w2 → Q .normal { tmps := #[.pointer (some ⟨x, 0, none⟩), vl, u2, u3, .pointer (some ⟨g4, 0, none⟩), .pointer (some ⟨g5, 0, none⟩), .pointer (some ⟨g6, 0, none⟩), u7, u8, .pointer (some ⟨g9, 0, none⟩), u10, u11, u12, u13, u14, u15, u16, u17, u18, u19, u20, u21, u22, u23, u24, u25, u26, u27, u28, u29, u30, u31, u32, u33, u34, u35, u36, u37, u38, u39, u40, u41, u42, u43, u44, u45, u46, u47, u48, u49, u50, u51, u52, u53, u54, u55, u56, u57, u58, u59, u60, u61, u62, u63, u64, u65, v66, v67, v68, v69, v70, v71, u72, u73, u74, u75, u76, u77, u78, u79, u80, u81, u82, u83, u84, u85, u86, u87, u88, u89, u90, u91, u92, u93, u94, u95, u96, u97, u98, u99, u100, u101, u102, u103, u104, u105, u106, u107, u108, u109, u110, u111, u112, u113, u114, u115, u116, u117, u118, u119, u120, u121, u122, u123, u124, u125, u126], defers := [] } w2) : Code.wp Tryz.prog (cT (cS (cF (cS (cS (cS (cS (cS (cS (cS (cS (cS (cS (Tryz.f61.body.getD Code.skip)))))))))))))) Q { tmps := #[.pointer (some ⟨x, 0, none⟩), vl, u2, u3, .pointer (some ⟨g4, 0, none⟩), .pointer (some ⟨g5, 0, none⟩), .pointer (some ⟨g6, 0, none⟩), u7, u8, .pointer (some ⟨g9, 0, none⟩), u10, u11, u12, u13, u14, u15, u16, u17, u18, u19, u20, u21, u22, u23, u24, u25, u26, u27, u28, u29, u30, u31, u32, u33, u34, u35, u36, u37, u38, u39, u40, u41, u42, u43, u44, u45, u46, u47, u48, u49, u50, u51, u52, u53, u54, u55, u56, u57, u58, u59, u60, u61, u62, u63, u64, u65, u66, u67, u68, u69, u70, u71, u72, u73, u74, u75, u76, u77, u78, u79, u80, u81, u82, u83, u84, u85, u86, u87, u88, u89, u90, u91, u92, u93, u94, u95, u96, u97, u98, u99, u100, u101, u102, u103, u104, u105, u106, u107, u108, u109, u110, u111, u112, u113, u114, u115, u116, u117, u118, u119, u120, u121, u122, u123, u124, u125, u126], defers := [] } w1 := by
 have HRow := Keep.mk hR
 have Hb := Keep.mk hb
 have HBy := Keep.mk hby
 clear hR hb hby
 obtain ⟨y, ew, eb, p, hS, hp, hk, hc⟩ := hI
 have HS := Keep.mk hS
 have Hp := Keep.mk hp
 have Hk := Keep.mk hk
 clear hS hp hk
 rcases hc with ⟨rfl, rfl, hok, hG⟩ | ⟨hne, hE, hG1, hG2⟩
 rotate_left
 ·have Hne := Keep.mk hne
  have HEb := Keep.mk hE
  have HG1 := Keep.mk hG1
  have HG2 := Keep.mk hG2
  clear hne hE hG1 hG2
  refine rgn ?_
  refine VlS (.pointer (some ⟨x, 0, none⟩)) ?_
  refine WL.callF (by kernel_rfl) 93 _ _ rfl Tryz.in93 #[ptr x] (by simp [Act.eval]) ?_
  refine (xsigned_bad x vB p ew eb w1 HS.out.rf Hne.out).mono ?_
  rintro e w2 ⟨rfl, hbl⟩
  refine ⟨.tuple #[.int .i64 0, .agg (erA ew eb)], rfl, ?_⟩
  have H2 := Keep.mk (HS.out.below hbl)
  clear hbl HS
  simp only [Act.put, pqA, pqB, pqC]
  refine VlS (.tuple #[.int .i64 0, .agg (erA ew eb)]) ?_
  refine VlS (.int .i64 0) ?_
  refine VlS (.agg (erA ew eb)) ?_
  refine VlS (.pointer (some ⟨g6, 3, none⟩)) ?_
  have c_o := H2.out.o.c 3 (opA_3 _)
  have f_o := H2.out.o.frozen 3
  refine WL.cell (by kernel_rfl) (w2.setCell ⟨g6, 3, none⟩ (.int .i64 0)) (by go_simp) ?_
  clear c_o f_o
  obtain ⟨yn, hyn⟩ : ∃ y' : OpV, y' = { y with n := 0 } := ⟨_, rfl⟩
  have Eyn := Keep.mk hyn
  clear hyn
  have H3 : Keep (OS w x g4 g5 g6 g9 vB yn ew eb p ew eb (w2.setCell ⟨g6, 3, none⟩ (.int .i64 0))) := ⟨H2.out.setO yn (by rw [Eyn.out]; have h := H2.out.o.set 3 (.int .i64 0); rw [set_3] at h; exact h) (Grown.setCell w2 g6 3 _ fun _ => rfl)⟩
  generalize w2.setCell ⟨g6, 3, none⟩ (.int .i64 0) = w3 at *
  clear H2
  simp only [Act.put]
  refine WL.storeR (by kernel_rfl) 34 (.tmp 9) (.tmp 70) rfl g9 (erA ew eb) rfl rfl 34 (erA ew eb) H3.out.e (Tryz.size34B _ _) (erA_sizes _ _ _ _) (erA_one _ _) ?_
  have H4 := Keep.mk (H3.out.setE ew eb)
  generalize w3.setRow g9 (erA ew eb) = w4 at *
  clear H3
  simp only [Act.put]
  refine WL.nil ?_
  exact hQ (.tuple #[.int .i64 0, .agg (erA ew eb)]) (.pointer (some ⟨x, 0, none⟩)) (.tuple #[.int .i64 0, .agg (erA ew eb)]) (.int .i64 0) (.agg (erA ew eb)) (.pointer (some ⟨g6, 3, none⟩)) w4 (OI.stuck H4.out Hp.out (by rw [Eyn.out]; exact Hk.out) Hne.out HEb.out HG1.out HG2.out)
 ·have Hok := Keep.mk hok
  have HG := Keep.mk hG
  clear hok hG
  obtain ⟨D2, hD2⟩ : ∃ z, Keep (z = L.drop p) := ⟨_, ⟨rfl⟩⟩
  obtain ⟨X2, N2, W2, hM2', hN2'⟩ := fst_tri D2 18446744073709551615
  have hM2 := Keep.mk hM2'
  have hN2 := Keep.mk hN2'
  obtain ⟨s2, hs2⟩ : ∃ z, Keep (z = if W2 = 0 then zag X2 else 0) := ⟨_, ⟨rfl⟩⟩
  have hrg2 : Keep (0 ≤ X2 ∧ X2 ≤ 18446744073709551615) := ⟨by have h := fst_rng D2 (by rw [hD2.out]; exact HBy.out.drop _) 18446744073709551615 (by decide); rw [hM2'] at h; exact h⟩
  clear hM2' hN2'
  refine rgn ?_
  refine VlS (.pointer (some ⟨x, 0, none⟩)) ?_
  refine WL.callF (by kernel_rfl) 93 _ _ rfl Tryz.in93 #[ptr x] (by simp [Act.eval]) ?_
  refine (xsigned_good x vB L p w1 HS.out.rf (fun wx hx => HRow.out wx (HS.out.gr.trans hx)) Hp.out Hb.out HBy.out D2 hD2.out W2 X2 N2 hM2.out s2 hs2.out hrg2.out.1 (by have := hrg2.out.2; omega)).mono ?_
  rintro e w2 ⟨b2, hE, rfl, h1, h2⟩
  refine ⟨.tuple #[.int .i64 s2, .agg (erA W2 b2)], rfl, ?_⟩
  have hEb := Keep.mk hE
  have H2 := Keep.mk (HS.out.call h1 h2)
  clear h1 h2 hE HS
  simp only [Act.put, pqA, pqB, pqC]
  refine VlS (.tuple #[.int .i64 s2, .agg (erA W2 b2)]) ?_
  refine VlS (.int .i64 s2) ?_
  refine VlS (.agg (erA W2 b2)) ?_
  refine VlS (.pointer (some ⟨g6, 3, none⟩)) ?_
  have c_o := H2.out.o.c 3 (opA_3 _)
  have f_o := H2.out.o.frozen 3
  refine WL.cell (by kernel_rfl) (w2.setCell ⟨g6, 3, none⟩ (.int .i64 s2)) (by go_simp) ?_
  clear c_o f_o
  obtain ⟨yn, hyn⟩ : ∃ y' : OpV, y' = { y with n := s2 } := ⟨_, rfl⟩
  have Eyn := Keep.mk hyn
  clear hyn
  have H3 : Keep (OS w x g4 g5 g6 g9 vB yn 0 0 (p + N2) W2 b2 (w2.setCell ⟨g6, 3, none⟩ (.int .i64 s2))) := ⟨H2.out.setO yn (by rw [Eyn.out]; have h := H2.out.o.set 3 (.int .i64 s2); rw [set_3] at h; exact h) (Grown.setCell w2 g6 3 _ fun _ => rfl)⟩
  generalize w2.setCell ⟨g6, 3, none⟩ (.int .i64 s2) = w3 at *
  clear H2
  simp only [Act.put]
  refine WL.storeR (by kernel_rfl) 34 (.tmp 9) (.tmp 70) rfl g9 (erA W2 b2) rfl rfl 34 (erA 0 0) H3.out.e (Tryz.size34B _ _) (erA_sizes _ _ _ _) (erA_one _ _) ?_
  have H4 := Keep.mk (H3.out.setE W2 b2)
  generalize w3.setRow g9 (erA W2 b2) = w4 at *
  clear H3
  simp only [Act.put]
  refine WL.nil ?_
  exact hQ (.tuple #[.int .i64 s2, .agg (erA W2 b2)]) (.pointer (some ⟨x, 0, none⟩)) (.tuple #[.int .i64 s2, .agg (erA W2 b2)]) (.int .i64 s2) (.agg (erA W2 b2)) (.pointer (some ⟨g6, 3, none⟩)) w4 (OI.next HG.out (by
   rw [Eyn.out]
   show ((fstM (L.drop p) 18446744073709551615).2.2, p + (fstM (L.drop p) 18446744073709551615).2.1.toNat, _) = _
   rw [← hD2.out, hM2.out, hs2.out]; rfl) H4.out (adv Hp.out (by rw [hD2.out] at hN2; exact hN2.out)) (by rw [Eyn.out]; exact Hk.out) hEb.out (by rw [Eyn.out]; exact ok_n Hok.out (by rw [hs2.out]; have := hrg2.out; split <;> (try unfold zag) <;> (try split) <;> omega) (by rw [hs2.out]; have := hrg2.out; split <;> (try unfold zag) <;> (try split) <;> omega)))
end Go.Proofs.YtdeiicldfgkidaaGreat
