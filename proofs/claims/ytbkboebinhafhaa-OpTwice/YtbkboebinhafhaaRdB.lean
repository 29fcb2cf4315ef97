import Derived.Test.YtbkboebinhafhaaRdA
namespace Go.Proofs.Ytbkboebinhafhaa
open Go.RowKit

set_option maxRecDepth 8000 in
set_option maxHeartbeats 1000000 in
theorem xnum_bad (x : Nat) (vB : Value) (a : Nat) (why b : Int) (v : Value) (w : World) (h : RfAt w x vB a why b) (hw : why ≠ 0) :
    Calls Try.prog 48 #[ptr x, v] w (RfStuck why b (.int .u64 0) w) := by
  have HS := Keep.mk (RS.start h)
  have HB := Keep.mk (below_new w (.cells #[.int .i64 0, .int .i64 0] 49))
  have hy1 : (why == 0) = false := by simpa using hw
  clear h
  go_enter Try.func48, Try.ntmps48
  go_wp2_with (first | (refine wpList_new rfl 49 rfl _ Try.new49 ?_; refine Hid.out ?_))
  refine hid_in ?_
  generalize w.alloc (.cells #[.int .i64 0, .int .i64 0] 49) = w1 at *
  have c2 := RfAt.c2 HS.out.rf
  have c3 := RfAt.c3 HS.out.rf
  have d0 := HS.out.d0
  have d1 := HS.out.d1
  have e0 := HS.out.cell.frozen 0
  have e1 := HS.out.cell.frozen 1
  go_wp2_with fail
  go_region
  go_wp2
  exact bodyPost_ret (results_tmp_cell_row Try.results48 _ _ w.heap.size 49 _ (0, 0) _ _ rfl rfl (HS.out.fin (.int .i64 why) (.int .i64 b)).1.drew Try.underlying49 rfl Try.size49) rfl ⟨rfl, (below_two HB.out (Nat.le_refl _) _ _).drew⟩

theorem pow_bnd (t : Nat) (c y : Int) (ht : t ≤ 9) (h9 : t = 9 → c ≤ 1) (c0 : 0 ≤ c) (c1 : c < 256) (y0 : 0 ≤ y) (y1 : y < 2 ^ (7 * t)) :
    0 ≤ c % 128 * 2 ^ (7 * t) ∧ c % 128 * 2 ^ (7 * t) < 18446744073709551616 ∧ y + c % 128 * 2 ^ (7 * t) < 18446744073709551616 ∧ (t ≤ 8 → y + c % 128 * 2 ^ (7 * t) < 2 ^ (7 * (t + 1))) := by
  rcases (by omega : t = 0 ∨ t = 1 ∨ t = 2 ∨ t = 3 ∨ t = 4 ∨ t = 5 ∨ t = 6 ∨ t = 7 ∨ t = 8 ∨ t = 9) with rfl | rfl | rfl | rfl | rfl | rfl | rfl | rfl | rfl | rfl <;>
    (simp only [Nat.reduceMul, Nat.reduceAdd, Int.reducePow] at y1 ⊢; omega)
theorem fstM_err {D : List Int} {e : Int} (h : fstG D 0 0 = (0, 0, e)) (he : e ≠ 0) (most : Int) : fstM D most = (0, 0, e) := by
  unfold fstM; rw [h, if_neg (fun h => he h.1)]
theorem fstM_over {D : List Int} {s n most : Int} (h : fstG D 0 0 = (s, n, 0)) (hm : most < s) : fstM D most = (0, 0, 22) := by
  unfold fstM; rw [h, if_pos ⟨rfl, hm⟩]
theorem fstM_ok {D : List Int} {s n most : Int} (h : fstG D 0 0 = (s, n, 0)) (hm : ¬ most < s) : fstM D most = (s, n, 0) := by
  unfold fstM; rw [h, if_neg (fun h => hm h.2)]
theorem tri {X W X' W' : Int} {N N' : Nat} (h : (X', (N' : Int), W') = (X, (N : Int), W)) : X = X' ∧ N = N' ∧ W = W' := by
  injection h with h1 h2
  injection h2 with h2 h3
  exact ⟨h1.symm, by omega, h3.symm⟩
theorem fstG_nil (t : Nat) (y : Int) : fstG [] t y = (0, 0, 20) := rfl

set_option maxRecDepth 8000 in
set_option maxHeartbeats 4000000 in
theorem xnum_good (x : Nat) (vB : Value) (l : List Int) (a most : Nat) (w : World) (h : RfAt w x vB a 0 0) (hR : ∀ wx, (Grown w wx fun k => k = x) → RowAt wx vB l) (ha : a ≤ l.length) (hb : l.length ≤ 140737488355328) (hby : Byts l) (D : List Int) (hD : D = l.drop a) (W X : Int) (N : Nat) (hM : fstM D most = (X, (N : Int), W)) :
    Calls Try.prog 48 #[ptr x, .int .u64 (most : Int)] w (RfPost x vB W (a + N) (.int .u64 X) w) := by
  have HM := Keep.mk hM
  have HS := Keep.mk (RS.start h)
  have HR := Keep.mk hR
  have hlen : D.length = l.length - a := by rw [hD, List.length_drop]
  have HBy : Keep (∀ t, t < D.length → 0 ≤ D.getD t 0 ∧ D.getD t 0 < 256) := ⟨fun t ht => by
    have h1 : D.getD t 0 ∈ l := by
      rw [List.getD_eq_getElem?_getD, List.getElem?_eq_getElem ht, Option.getD_some]
      exact List.mem_of_mem_drop (by rw [← hD]; exact List.getElem_mem ht)
    exact hby _ h1⟩
  obtain ⟨va, vc, hvB⟩ := row_form (hR w (Grown.refl _ _))
  subst hvB
  have HDg : Keep (∀ t, t < D.length → D.drop t = D.getD t 0 :: D.drop (t + 1)) := ⟨fun t ht => by
    rw [List.drop_eq_getElem_cons ht, List.getD_eq_getElem?_getD, List.getElem?_eq_getElem ht, Option.getD_some]⟩
  have HRc : Keep (∀ wx, (Grown w wx fun k => k = x) → ∀ t, t < D.length → ∃ gb go, va = some ⟨gb, go, none⟩ ∧ wx.cell? ⟨gb, go + (a + t), none⟩ = some (.int .u8 (D.getD t 0))) := ⟨fun wx hg t ht => by
    rcases HR.out wx hg with ⟨_, e⟩ | ⟨_, _, _, e⟩ | ⟨g, o, _, e, _, h3⟩
    · have : l.length = 0 := by rw [e]; rfl
      omega
    · have : l.length = 0 := by rw [e]; rfl
      omega
    · injection e with e1 e2
      refine ⟨g, o, e1, ?_⟩
      rw [h3 (a + t) (by omega), hD]
      simp [List.getD_eq_getElem?_getD]⟩
  have Hb := Keep.mk hb
  have Ha := Keep.mk ha
  have hbi : (l.length : Int) ≤ 140737488355328 := by omega
  have hai : (a : Int) ≤ (l.length : Int) := by omega
  have Hlen := Keep.mk hlen
  clear h hR hlen ha hb hD hby HR hM
  go_enter Try.func48, Try.ntmps48
  go_wp2_with (first | (refine wpList_new rfl 49 rfl _ Try.new49 ?_; refine Hid.out ?_))
  refine hid_in ?_
  generalize w.alloc (.cells #[.int .i64 0, .int .i64 0] 49) = w1 at *
  have c2 := RfAt.c2 HS.out.rf
  go_wp2_with fail
  clear c2
  go_loopw [6, 7] (fun u i wr => ∃ (t : Nat) (y : Int), t ≤ 9 ∧ t ≤ D.length ∧ u = .int .u64 y ∧ i = .int .i64 (t : Int) ∧ Keep (fstG (D.drop t) t y = fstG D 0 0) ∧ Keep (0 ≤ y ∧ y < 2 ^ (7 * t)) ∧ RS w x (.slice va l.length vc) a 0 0 wr) (fun _ i _ => 10 - (intOf i).toNat)
  case atStart => exact ⟨0, 0, by omega, by omega, rfl, rfl, ⟨by simp⟩, ⟨by simp⟩, HS.out⟩
  case round =>
    clear HS
    obtain ⟨t, y, ht, htD, rfl, rfl, hF, hy, hS⟩ := hrel
    have HS := Keep.mk hS
    have hti : (t : Int) < 10 := by omega
    clear hS
    go_wp2_with fail
    refine (xleft_any x _ l.length vc a 0 0 wr HS.out.rf Ha.out Hb.out).mono ?_
    rintro e w2 ⟨rfl, qd, hw2⟩
    have HS2 := Keep.mk (HS.out.later (w2 := w2) (by rw [hw2]; exact below_drewN _ _))
    clear hw2 HS
    by_cases hlt : t < D.length
    · have hlt' : ¬ ((l.length : Int) - (a : Int) ≤ (t : Int)) := by have := Hlen.out; omega
      obtain ⟨gb, go, rfl, hc⟩ := HRc.out w2 HS2.out.gr t hlt
      have hcb := HBy.out t hlt
      have hDg := HDg.out t hlt
      obtain ⟨c, hcc⟩ : ∃ c, Keep (c = D.getD t 0) := ⟨_, ⟨rfl⟩⟩
      rw [← hcc.out] at hc hcb hDg
      obtain ⟨hc0, hc1⟩ := hcb
      rw [hDg] at hF
      have g0 := RfAt.c0 HS2.out.rf
      have g1 := RfAt.c1 HS2.out.rf
      clear hDg
      by_cases h9 : t = 9
      · have hb9 : ((t : Int) == 9) = true := by rw [h9]; rfl
        have hp0 : (0 : Int) < (t : Int) := by omega
        by_cases h1 : 1 < c
        · have h1' : 1 < c := h1
          have hG : Keep (fstG D 0 0 = (0, 0, 22)) := ⟨by rw [← hF.out, fstG, if_pos ⟨h9, h1⟩]⟩
          obtain ⟨rfl, rfl, rfl⟩ := tri ((show (0, ((0 : Nat) : Int), (22 : Int)) = fstM D most from (fstM_err hG.out (by decide) _).symm).trans HM.out)
          clear HM
          try clear h9
          try clear hp
          go_wp2_with fail
          go_quiet (fail)
          obtain ⟨w3, hw3⟩ : ∃ w3, Keep (w3 = w2.drewN nq) := ⟨_, ⟨rfl⟩⟩
          rw [← hw3.out]
          have HS3 := Keep.mk (HS2.out.later (w2 := w3) (by rw [hw3.out]; exact below_drewN _ _))
          have k1 := RfAt.c1 HS3.out.rf
          clear hw3 g0 g1 hc HS2
          go_wp2_with fail
          refine (xwrong_any x _ a 22 w3 HS3.out.rf).mono ?_
          rintro e w4 ⟨rfl, hr, hg⟩
          have HS4 := Keep.mk (HS3.out.turned hr hg)
          clear hr hg k1
          have d0 := HS4.out.d0
          have d1 := HS4.out.d1
          have e0 := HS4.out.cell.frozen 0
          have e1 := HS4.out.cell.frozen 1
          go_wp2
          have hf := HS4.out.fin (.int .i64 22) (.int .i64 (a : Int))
          exact bodyPost_ret (results_tmp_cell_row Try.results48 _ _ w.heap.size 49 _ (0, 0) _ _ rfl rfl hf.1 Try.underlying49 rfl Try.size49) rfl ⟨_, .inr ⟨by decide, rfl⟩, rfl, hf.2.1, hf.2.2⟩
        · have H9 : t = 9 → c ≤ 1 := fun _ => by omega
          have h128 : ¬ (128 : Int) ≤ c := by omega
          have hpb := pow_bnd t c y ht H9 hc0 hc1 hy.out.1 hy.out.2
          obtain ⟨sv, hsv⟩ : ∃ sv, Keep (sv = y + c % 128 * 2 ^ (7 * t)) := ⟨_, ⟨rfl⟩⟩
          have hwr : IntKind.u64.wrap (y + IntKind.u64.wrap (c % 128 * 2 ^ (7 * t))) = sv := by
            rw [IntKind.wrap_u64, IntKind.wrap_u64, hsv.out]
            have := hy.out.1
            omega
          have Hpb := Keep.mk hpb
          clear hpb H9
          by_cases h0 : c = 0
          · have h0' : (c == 0) = true := by simp [h0]
            have hG : Keep (fstG D 0 0 = (0, 0, 21)) := ⟨by rw [← hF.out, fstG, if_neg (by omega), if_pos ⟨h0, by omega⟩]⟩
            clear h0
            obtain ⟨rfl, rfl, rfl⟩ := tri ((show (0, ((0 : Nat) : Int), (21 : Int)) = fstM D most from (fstM_err hG.out (by decide) _).symm).trans HM.out)
            clear HM
            try clear h9
            try clear hp
            go_wp2_with fail
            go_quiet (fail)
            obtain ⟨w3, hw3⟩ : ∃ w3, Keep (w3 = w2.drewN nq) := ⟨_, ⟨rfl⟩⟩
            rw [← hw3.out]
            have HS3 := Keep.mk (HS2.out.later (w2 := w3) (by rw [hw3.out]; exact below_drewN _ _))
            have k1 := RfAt.c1 HS3.out.rf
            clear hw3 g0 g1 hc HS2
            go_wp2_with fail
            refine (xwrong_any x _ a 21 w3 HS3.out.rf).mono ?_
            rintro e w4 ⟨rfl, hr, hg⟩
            have HS4 := Keep.mk (HS3.out.turned hr hg)
            clear hr hg k1
            have d0 := HS4.out.d0
            have d1 := HS4.out.d1
            have e0 := HS4.out.cell.frozen 0
            have e1 := HS4.out.cell.frozen 1
            go_wp2
            have hf := HS4.out.fin (.int .i64 21) (.int .i64 (a : Int))
            exact bodyPost_ret (results_tmp_cell_row Try.results48 _ _ w.heap.size 49 _ (0, 0) _ _ rfl rfl hf.1 Try.underlying49 rfl Try.size49) rfl ⟨_, .inr ⟨by decide, rfl⟩, rfl, hf.2.1, hf.2.2⟩
          · have h0' : (c == 0) = false := by simpa using h0
            have hG : Keep (fstG D 0 0 = (sv, ((t + 1 : Nat) : Int), 0)) := ⟨by rw [← hF.out, fstG, if_neg (by omega), if_neg (by omega), if_pos (by omega), hsv.out]; rfl⟩
            by_cases hmost : (most : Int) < sv
            · have hmost' : (most : Int) < sv := hmost
              obtain ⟨rfl, rfl, rfl⟩ := tri ((show (0, ((0 : Nat) : Int), (22 : Int)) = fstM D most from (fstM_over hG.out hmost).symm).trans HM.out)
              clear HM
              try clear h9
              try clear hp
              go_wp2_with fail
              go_quiet (fail)
              obtain ⟨w3, hw3⟩ : ∃ w3, Keep (w3 = w2.drewN nq) := ⟨_, ⟨rfl⟩⟩
              rw [← hw3.out]
              have HS3 := Keep.mk (HS2.out.later (w2 := w3) (by rw [hw3.out]; exact below_drewN _ _))
              have k1 := RfAt.c1 HS3.out.rf
              clear hw3 g0 g1 hc HS2
              go_wp2_with fail
              refine (xwrong_any x _ a 22 w3 HS3.out.rf).mono ?_
              rintro e w4 ⟨rfl, hr, hg⟩
              have HS4 := Keep.mk (HS3.out.turned hr hg)
              clear hr hg k1
              have d0 := HS4.out.d0
              have d1 := HS4.out.d1
              have e0 := HS4.out.cell.frozen 0
              have e1 := HS4.out.cell.frozen 1
              go_wp2
              have hf := HS4.out.fin (.int .i64 22) (.int .i64 (a : Int))
              exact bodyPost_ret (results_tmp_cell_row Try.results48 _ _ w.heap.size 49 _ (0, 0) _ _ rfl rfl hf.1 Try.underlying49 rfl Try.size49) rfl ⟨_, .inr ⟨by decide, rfl⟩, rfl, hf.2.1, hf.2.2⟩
            · have hmost' : ¬ ((most : Int) < sv) := hmost
              obtain ⟨rfl, rfl, rfl⟩ := tri ((show (sv, ((t + 1 : Nat) : Int), (0 : Int)) = fstM D most from (fstM_ok hG.out hmost).symm).trans HM.out)
              clear HM
              try clear h9
              try clear hp
              go_wp2_with fail
              go_quiet (fail)
              obtain ⟨w3, hw3⟩ : ∃ w3, Keep (w3 = w2.drewN nq) := ⟨_, ⟨rfl⟩⟩
              rw [← hw3.out]
              have HS3 := Keep.mk (HS2.out.later (w2 := w3) (by rw [hw3.out]; exact below_drewN _ _))
              have k1 := RfAt.c1 HS3.out.rf
              clear hw3 g0 g1 hc HS2
              have hne : x ≠ w.heap.size := by have := HS3.out.lt; omega
              have hne' : w.heap.size ≠ x := fun e => hne e.symm
              have f1 := Blk.frozen HS3.out.rf 1
              have d0 := HS3.out.d0
              have d1 := HS3.out.d1
              have e0 := HS3.out.cell.frozen 0
              have e1 := HS3.out.cell.frozen 1
              go_wp2
              have hf := (HS3.out.step (a + (t + 1))).fin (.int .i64 0) (.int .i64 0)
              exact bodyPost_ret (results_tmp_cell_row Try.results48 _ _ w.heap.size 49 _ (0, 0) _ _ rfl rfl hf.1 Try.underlying49 rfl Try.size49) rfl ⟨_, .inl ⟨rfl, rfl⟩, rfl, hf.2.1, hf.2.2⟩
      · have hb9 : ((t : Int) == 9) = false := by simp; omega
        have H9 : t = 9 → c ≤ 1 := fun h => absurd h h9
        have hpb := pow_bnd t c y ht H9 hc0 hc1 hy.out.1 hy.out.2
        obtain ⟨sv, hsv⟩ : ∃ sv, Keep (sv = y + c % 128 * 2 ^ (7 * t)) := ⟨_, ⟨rfl⟩⟩
        have hwr : IntKind.u64.wrap (y + IntKind.u64.wrap (c % 128 * 2 ^ (7 * t))) = sv := by
          rw [IntKind.wrap_u64, IntKind.wrap_u64, hsv.out]
          have := hy.out.1
          omega
        have Hpb := Keep.mk hpb
        clear hpb H9
        by_cases h128 : 128 ≤ c
        · have h128' : (128 : Int) ≤ c := h128
          have K9 := Keep.mk h9
          try clear h9
          try clear hp
          go_wp2_with fail
          go_quiet (fail)
          obtain ⟨w3, hw3⟩ : ∃ w3, Keep (w3 = w2.drewN nq) := ⟨_, ⟨rfl⟩⟩
          rw [← hw3.out]
          have HS3 := Keep.mk (HS2.out.later (w2 := w3) (by rw [hw3.out]; exact below_drewN _ _))
          have k1 := RfAt.c1 HS3.out.rf
          clear hw3 g0 g1 hc HS2
          go_wp2_with fail
          go_roundw
          case rel => exact ⟨t + 1, sv, by have := K9.out; omega, by omega, rfl, by go_num, ⟨by rw [← hF.out, fstG, if_neg (by have := K9.out; omega), if_neg (by omega), if_neg (by omega), hsv.out]⟩, ⟨by rw [hsv.out]; have := Hpb.out.1; have := hy.out.1; omega, by rw [hsv.out]; exact Hpb.out.2.2.2 (by have := K9.out; omega)⟩, HS3.out⟩
          case measure => simp only [intOf]; omega
        · have h128' : ¬ (128 : Int) ≤ c := h128
          by_cases hp : t = 0
          · have hp0 : ¬ (0 : Int) < (t : Int) := by omega
            have hG : Keep (fstG D 0 0 = (sv, ((t + 1 : Nat) : Int), 0)) := ⟨by rw [← hF.out, fstG, if_neg (by omega), if_neg (by omega), if_pos (by omega), hsv.out]; rfl⟩
            by_cases hmost : (most : Int) < sv
            · have hmost' : (most : Int) < sv := hmost
              obtain ⟨rfl, rfl, rfl⟩ := tri ((show (0, ((0 : Nat) : Int), (22 : Int)) = fstM D most from (fstM_over hG.out hmost).symm).trans HM.out)
              clear HM
              try clear h9
              try clear hp
              go_wp2_with fail
              go_quiet (fail)
              obtain ⟨w3, hw3⟩ : ∃ w3, Keep (w3 = w2.drewN nq) := ⟨_, ⟨rfl⟩⟩
              rw [← hw3.out]
              have HS3 := Keep.mk (HS2.out.later (w2 := w3) (by rw [hw3.out]; exact below_drewN _ _))
              have k1 := RfAt.c1 HS3.out.rf
              clear hw3 g0 g1 hc HS2
              go_wp2_with fail
              refine (xwrong_any x _ a 22 w3 HS3.out.rf).mono ?_
              rintro e w4 ⟨rfl, hr, hg⟩
              have HS4 := Keep.mk (HS3.out.turned hr hg)
              clear hr hg k1
              have d0 := HS4.out.d0
              have d1 := HS4.out.d1
              have e0 := HS4.out.cell.frozen 0
              have e1 := HS4.out.cell.frozen 1
              go_wp2
              have hf := HS4.out.fin (.int .i64 22) (.int .i64 (a : Int))
              exact bodyPost_ret (results_tmp_cell_row Try.results48 _ _ w.heap.size 49 _ (0, 0) _ _ rfl rfl hf.1 Try.underlying49 rfl Try.size49) rfl ⟨_, .inr ⟨by decide, rfl⟩, rfl, hf.2.1, hf.2.2⟩
            · have hmost' : ¬ ((most : Int) < sv) := hmost
              obtain ⟨rfl, rfl, rfl⟩ := tri ((show (sv, ((t + 1 : Nat) : Int), (0 : Int)) = fstM D most from (fstM_ok hG.out hmost).symm).trans HM.out)
              clear HM
              try clear h9
              try clear hp
              go_wp2_with fail
              go_quiet (fail)
              obtain ⟨w3, hw3⟩ : ∃ w3, Keep (w3 = w2.drewN nq) := ⟨_, ⟨rfl⟩⟩
              rw [← hw3.out]
              have HS3 := Keep.mk (HS2.out.later (w2 := w3) (by rw [hw3.out]; exact below_drewN _ _))
              have k1 := RfAt.c1 HS3.out.rf
              clear hw3 g0 g1 hc HS2
              have hne : x ≠ w.heap.size := by have := HS3.out.lt; omega
              have hne' : w.heap.size ≠ x := fun e => hne e.symm
              have f1 := Blk.frozen HS3.out.rf 1
              have d0 := HS3.out.d0
              have d1 := HS3.out.d1
              have e0 := HS3.out.cell.frozen 0
              have e1 := HS3.out.cell.frozen 1
              go_wp2
              have hf := (HS3.out.step (a + (t + 1))).fin (.int .i64 0) (.int .i64 0)
              exact bodyPost_ret (results_tmp_cell_row Try.results48 _ _ w.heap.size 49 _ (0, 0) _ _ rfl rfl hf.1 Try.underlying49 rfl Try.size49) rfl ⟨_, .inl ⟨rfl, rfl⟩, rfl, hf.2.1, hf.2.2⟩
          · have hp0 : (0 : Int) < (t : Int) := by omega
            by_cases h0 : c = 0
            · have h0' : (c == 0) = true := by simp [h0]
              have hG : Keep (fstG D 0 0 = (0, 0, 21)) := ⟨by rw [← hF.out, fstG, if_neg (by omega), if_pos ⟨h0, by omega⟩]⟩
              clear h0
              obtain ⟨rfl, rfl, rfl⟩ := tri ((show (0, ((0 : Nat) : Int), (21 : Int)) = fstM D most from (fstM_err hG.out (by decide) _).symm).trans HM.out)
              clear HM
              try clear h9
              try clear hp
              go_wp2_with fail
              go_quiet (fail)
              obtain ⟨w3, hw3⟩ : ∃ w3, Keep (w3 = w2.drewN nq) := ⟨_, ⟨rfl⟩⟩
              rw [← hw3.out]
              have HS3 := Keep.mk (HS2.out.later (w2 := w3) (by rw [hw3.out]; exact below_drewN _ _))
              have k1 := RfAt.c1 HS3.out.rf
              clear hw3 g0 g1 hc HS2
              go_wp2_with fail
              refine (xwrong_any x _ a 21 w3 HS3.out.rf).mono ?_
              rintro e w4 ⟨rfl, hr, hg⟩
              have HS4 := Keep.mk (HS3.out.turned hr hg)
              clear hr hg k1
              have d0 := HS4.out.d0
              have d1 := HS4.out.d1
              have e0 := HS4.out.cell.frozen 0
              have e1 := HS4.out.cell.frozen 1
              go_wp2
              have hf := HS4.out.fin (.int .i64 21) (.int .i64 (a : Int))
              exact bodyPost_ret (results_tmp_cell_row Try.results48 _ _ w.heap.size 49 _ (0, 0) _ _ rfl rfl hf.1 Try.underlying49 rfl Try.size49) rfl ⟨_, .inr ⟨by decide, rfl⟩, rfl, hf.2.1, hf.2.2⟩
            · have h0' : (c == 0) = false := by simpa using h0
              have hG : Keep (fstG D 0 0 = (sv, ((t + 1 : Nat) : Int), 0)) := ⟨by rw [← hF.out, fstG, if_neg (by omega), if_neg (by omega), if_pos (by omega), hsv.out]; rfl⟩
              by_cases hmost : (most : Int) < sv
              · have hmost' : (most : Int) < sv := hmost
                obtain ⟨rfl, rfl, rfl⟩ := tri ((show (0, ((0 : Nat) : Int), (22 : Int)) = fstM D most from (fstM_over hG.out hmost).symm).trans HM.out)
                clear HM
                try clear h9
                try clear hp
                go_wp2_with fail
                go_quiet (fail)
                obtain ⟨w3, hw3⟩ : ∃ w3, Keep (w3 = w2.drewN nq) := ⟨_, ⟨rfl⟩⟩
                rw [← hw3.out]
                have HS3 := Keep.mk (HS2.out.later (w2 := w3) (by rw [hw3.out]; exact below_drewN _ _))
                have k1 := RfAt.c1 HS3.out.rf
                clear hw3 g0 g1 hc HS2
                go_wp2_with fail
                refine (xwrong_any x _ a 22 w3 HS3.out.rf).mono ?_
                rintro e w4 ⟨rfl, hr, hg⟩
                have HS4 := Keep.mk (HS3.out.turned hr hg)
                clear hr hg k1
                have d0 := HS4.out.d0
                have d1 := HS4.out.d1
                have e0 := HS4.out.cell.frozen 0
                have e1 := HS4.out.cell.frozen 1
                go_wp2
                have hf := HS4.out.fin (.int .i64 22) (.int .i64 (a : Int))
                exact bodyPost_ret (results_tmp_cell_row Try.results48 _ _ w.heap.size 49 _ (0, 0) _ _ rfl rfl hf.1 Try.underlying49 rfl Try.size49) rfl ⟨_, .inr ⟨by decide, rfl⟩, rfl, hf.2.1, hf.2.2⟩
              · have hmost' : ¬ ((most : Int) < sv) := hmost
                obtain ⟨rfl, rfl, rfl⟩ := tri ((show (sv, ((t + 1 : Nat) : Int), (0 : Int)) = fstM D most from (fstM_ok hG.out hmost).symm).trans HM.out)
                clear HM
                try clear h9
                try clear hp
                go_wp2_with fail
                go_quiet (fail)
                obtain ⟨w3, hw3⟩ : ∃ w3, Keep (w3 = w2.drewN nq) := ⟨_, ⟨rfl⟩⟩
                rw [← hw3.out]
                have HS3 := Keep.mk (HS2.out.later (w2 := w3) (by rw [hw3.out]; exact below_drewN _ _))
                have k1 := RfAt.c1 HS3.out.rf
                clear hw3 g0 g1 hc HS2
                have hne : x ≠ w.heap.size := by have := HS3.out.lt; omega
                have hne' : w.heap.size ≠ x := fun e => hne e.symm
                have f1 := Blk.frozen HS3.out.rf 1
                have d0 := HS3.out.d0
                have d1 := HS3.out.d1
                have e0 := HS3.out.cell.frozen 0
                have e1 := HS3.out.cell.frozen 1
                go_wp2
                have hf := (HS3.out.step (a + (t + 1))).fin (.int .i64 0) (.int .i64 0)
                exact bodyPost_ret (results_tmp_cell_row Try.results48 _ _ w.heap.size 49 _ (0, 0) _ _ rfl rfl hf.1 Try.underlying49 rfl Try.size49) rfl ⟨_, .inl ⟨rfl, rfl⟩, rfl, hf.2.1, hf.2.2⟩
    · have hlt' : (l.length : Int) - (a : Int) ≤ (t : Int) := by have := Hlen.out; omega
      have hG : Keep (fstG D 0 0 = (0, 0, 20)) := ⟨by rw [← hF.out, List.drop_of_length_le (by omega), fstG]⟩
      have k1 := RfAt.c1 HS2.out.rf
      obtain ⟨rfl, rfl, rfl⟩ := tri ((show (0, ((0 : Nat) : Int), (20 : Int)) = fstM D most from (fstM_err hG.out (by decide) _).symm).trans HM.out)
      clear HM
      go_wp2_with fail
      refine (xwrong_any x _ a 20 w2 HS2.out.rf).mono ?_
      rintro e w4 ⟨rfl, hr, hg⟩
      have HS4 := Keep.mk (HS2.out.turned hr hg)
      clear hr hg k1
      have d0 := HS4.out.d0
      have d1 := HS4.out.d1
      have e0 := HS4.out.cell.frozen 0
      have e1 := HS4.out.cell.frozen 1
      go_wp2
      have hf := HS4.out.fin (.int .i64 20) (.int .i64 (a : Int))
      exact bodyPost_ret (results_tmp_cell_row Try.results48 _ _ w.heap.size 49 _ (0, 0) _ _ rfl rfl hf.1 Try.underlying49 rfl Try.size49) rfl ⟨_, .inr ⟨by decide, rfl⟩, rfl, hf.2.1, hf.2.2⟩
end Go.Proofs.Ytbkboebinhafhaa
