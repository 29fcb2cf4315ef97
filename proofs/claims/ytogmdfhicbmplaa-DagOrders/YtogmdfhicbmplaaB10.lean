import Derived.Test.YtogmdfhicbmplaaB09
namespace Go.Proofs.Ytogmdfhicbmplaa
open Go.RowKit
set_option linter.unusedSimpArgs false
set_option linter.unusedVariables false

theorem add_same {g g' : DG} {v : VX} {ol : List Hs} {hw ee : Int} (hf : fitV g.held g.wait v = (hw, ee)) (h2 : hw ≠ 2) (h3 : hw ≠ 3) (h : addG g v ol g') : g' = g ∧ ol = [] := by
  rcases h with ⟨h, _⟩ | ⟨h, _⟩ | ⟨h, _⟩ | ⟨_, _, h, h'⟩
  · rw [hf] at h; cases h; exact absurd rfl h2
  · rw [hf] at h; cases h; exact absurd rfl h3
  · rw [hf] at h; cases h; exact absurd rfl h3
  · exact ⟨h, h'⟩
theorem add_two {g g' : DG} {v : VX} {ol : List Hs} (hf : fitV g.held g.wait v = (2, 0)) (h : addG g v ol g') : tookG g v g' ∧ ol = [] := by
  rcases h with ⟨h, t, e⟩ | ⟨h, _⟩ | ⟨h, _⟩ | ⟨h, _⟩
  · exact ⟨t, e⟩
  · rw [hf] at h; cases h
  · rw [hf] at h; cases h
  · rw [hf] at h; exact absurd rfl h
theorem add_three {g g' : DG} {v : VX} {ol : List Hs} (hI : DI g) (hf : fitV g.held g.wait v = (3, 0)) (hw : hasB g.wait v.id = false) (h : addG g v ol g') : g'.held = g.held ∧ hasB g'.wait v.id = decide (ixF v.id ol 0 < 0) ∧ ol.length ≤ 1 := by
  rcases h with ⟨h, t, e⟩ | ⟨h, _, t, rfl⟩ | ⟨h, _, v0, hv, t, rfl⟩ | ⟨_, h, _⟩
  · rw [hf] at h; cases h
  · refine ⟨t.2.1, ?_, by simp⟩
    rw [t.2.2.1, hasB_app, hasB_one.2 rfl, Bool.or_true]; rfl
  · refine ⟨t.2.1, ?_, by simp⟩
    by_cases hx : v.id = v0.id
    · have h1 : hasB g'.wait v.id = false := by
        rw [hasB_no]
        intro u hu e
        have hnd : ((g.wait ++ [v]).map (·.id)).Nodup := by
          rw [List.map_append, List.nodup_append]
          refine ⟨hI.wn, by simp, fun a ha b hb => ?_⟩
          simp only [List.map_cons, List.map_nil, List.mem_singleton] at hb
          subst hb
          obtain ⟨u, hu, rfl⟩ := List.mem_map.1 ha
          exact hasB_no.1 hw u hu
        rw [hv, List.map_cons, List.nodup_cons] at hnd
        exact hnd.1 (List.mem_map.2 ⟨u, hu, by rw [e, hx]⟩)
      rw [h1, ixF, if_pos hx]; rfl
    · have h1 : hasB g'.wait v.id = true := by
        rw [hasB_iff]
        have : v ∈ v0 :: g'.wait := by rw [← hv]; simp
        rcases List.mem_cons.1 this with e | h
        · exact absurd (by rw [e]) hx
        · exact ⟨v, h, rfl⟩
      rw [h1, ixF, if_neg hx]; rfl
  · rw [hf] at h; exact absurd rfl h
set_option maxRecDepth 8000 in
set_option maxHeartbeats 4000000 in
theorem do_known1 (B0 d : Nat) (op : OP) (g : DG) (w : World) (hD : DS B0 w d g) (hB : B0 ≤ w.heap.size) (hk : op.k ≠ 5 ∧ op.k ≠ 6) (hr : HRow w op.q.2 op.q.1.ps) (hL : (op.q.1.ps.length : Int) ≤ 9223372036854775806) (hFt : fitV g.held g.wait op.q.1 = (1, 0)) (bz : Bool) (hb1 : hasB g.held op.q.1.id = true) (hb2 : hasB g.wait op.q.1.id = bz) : Calls Try.prog 20 #[ptr d, .agg (opA op)] w (DoPost B0 w d g) := by
  have HD := Keep.mk hD
  have HB := Keep.mk hB
  obtain ⟨oo, hoo⟩ : ∃ a : Array Value, Keep (a = opA op) := ⟨_, ⟨rfl⟩⟩
  rw [← hoo.out]
  have HK := Keep.mk hk
  have HR := Keep.mk hr
  have HL := Keep.mk hL
  have HFt := Keep.mk hFt
  obtain ⟨vv, hvv⟩ : ∃ a : Array Value, Keep (a = vtx op.q.1.id.f op.q.1.ck op.q.2) := ⟨_, ⟨rfl⟩⟩
  have HB1 : Keep (hasB g.held op.q.1.id = true) := ⟨hb1⟩
  have HB2 : Keep (hasB g.wait op.q.1.id = bz) := ⟨hb2⟩
  clear hb1 hb2
  clear hk hr hL hFt
  clear hD hB
  go_enter Try.func20, Try.ntmps20
  refine wp_seq_k fun K1 hK1 => ?_
  refine wp_region_list (WL.out ?_)
  refine WL.box (by kernel_rfl) 41 (.tmp 1) rfl (oo) rfl ?_
  obtain ⟨w1, hwn⟩ : ∃ wx, Keep (wx = w.alloc (.cells (oo) 41)) := ⟨_, ⟨rfl⟩⟩
  rw [← hwn.out]
  have HX1 : Keep (Blk w1 w.heap.size 41 (oo)) := ⟨by rw [hwn.out]; exact Blk.new _ _ _⟩
  have LB1 : Keep (Below w.heap.size w w1) := ⟨by rw [hwn.out]; exact below_new _ _⟩
  clear hwn
  have HD1 := Keep.mk (HD.out.below LB1.out)
  have c0 : w1.cell? ⟨w.heap.size, 0, none⟩ = some (.int .i64 op.k) := opA_k (hoo.out ▸ blk_rng HX1.out)
  have hk5 := HK.out.1
  have hk6 := HK.out.2
  simp only [Act.put, pqA, pqB, pqC]
  refine WL.val (by kernel_rfl) (.bool false) (by go_simp) ?_
  simp only [Act.put, pqA, pqB, pqC]
  refine WL.nil ?_
  refine hK1 _ _ ?_
  refine wp_seq_k fun K2 hK2 => ?_
  refine wp_seq_k fun K3 hK3 => ?_
  refine wp_region_list (WL.out ?_)
  refine WL.val (by kernel_rfl) (.pointer (some ⟨w.heap.size, 0, none⟩)) (by go_simp) ?_
  simp only [Act.put, pqA, pqB, pqC]
  refine WL.val (by kernel_rfl) (.int .i64 op.k) (by go_simp) ?_
  simp only [Act.put, pqA, pqB, pqC]
  refine WL.nil ?_
  refine hK3 _ _ ?_
  refine wp_block ?_
  refine wp_seq_k fun K4 hK4 => ?_
  refine wp_region_list (WL.out ?_)
  refine WL.val (by kernel_rfl) (.bool false) (by go_simp) ?_
  simp only [Act.put, pqA, pqB, pqC]
  refine WL.val (by kernel_rfl) (.bool false) (by go_simp) ?_
  simp only [Act.put, pqA, pqB, pqC]
  refine WL.nil ?_
  refine hK4 _ _ ?_
  refine wp_cond_false rfl ?_
  refine wp_seq_k fun K5 hK5 => ?_
  refine wp_region_list (WL.out ?_)
  refine WL.val (by kernel_rfl) (.bool false) (by go_simp) ?_
  simp only [Act.put, pqA, pqB, pqC]
  refine WL.val (by kernel_rfl) (.bool false) (by go_simp) ?_
  simp only [Act.put, pqA, pqB, pqC]
  refine WL.nil ?_
  refine hK5 _ _ ?_
  refine wp_cond_false rfl ?_
  refine wp_skip ?_
  refine hK2 _ _ ?_
  refine wp_seq_k fun K6 hK6 => ?_
  refine wp_region_list (WL.out ?_)
  refine WL.val (by kernel_rfl) (.pointer (some ⟨d, 0, none⟩)) (by go_simp) ?_
  simp only [Act.put, pqA, pqB, pqC]
  clear c0
  refine WL.callF (by kernel_rfl) 36 _ _ rfl Try.in36 #[ptr d] (by simp [Act.eval]) ?_
  refine (dlen_any d (DgS d g) g w1 HD1.out.at').mono ?_
  rintro e wq ⟨rfl, hq⟩
  refine ⟨_, rfl, ?_⟩
  obtain rfl : w1 = wq := hq.symm
  simp only [Act.put, pqA, pqB, pqC]
  refine WL.val (by kernel_rfl) (.int .i64 (g.held.length : Int)) (by go_simp) ?_
  simp only [Act.put, pqA, pqB, pqC]
  refine WL.nil ?_
  refine hK6 _ _ ?_
  refine wp_seq_k fun K7 hK7 => ?_
  refine wp_region_list (WL.out ?_)
  refine WL.val (by kernel_rfl) (.pointer (some ⟨d, 0, none⟩)) (by go_simp) ?_
  simp only [Act.put, pqA, pqB, pqC]
  refine WL.val (by kernel_rfl) (.pointer (some ⟨w.heap.size, 2, none⟩)) (by go_simp) ?_
  simp only [Act.put, pqA, pqB, pqC]
  refine WL.midA (by kernel_rfl) 39 (.tmp 86) rfl w.heap.size 2 rfl vv _ (by rw [hvv.out]; exact opA_v (hoo.out ▸ blk_rng HX1.out)) Try.underlying39 rfl (by rw [hvv.out]; exact Try.info39s _ _ _) ?_
  simp only [Act.put, pqA, pqB, pqC]
  have hft := fit_any d op.q.1 op.q.2 (DgS d g) g w1 HD1.out.at' (HR.out.below LB1.out) HD1.out.di.hM HL.out
  rw [HFt.out, ← hvv.out] at hft
  refine WL.callF (by kernel_rfl) 28 _ _ rfl Try.in28 #[ptr d, .agg vv] (by simp [Act.eval]) ?_
  refine (hft).mono ?_
  rintro e w2 ⟨rfl, hz⟩
  refine ⟨_, rfl, ?_⟩
  clear hft
  have HX2 := Keep.mk (HX1.out.below hz HX1.out.lt)
  have HD2 := Keep.mk (HD1.out.below hz)
  have LB2 := Keep.mk (belowT LB1.out hz)
  clear hz HX1 HD1 LB1
  simp only [Act.put, pqA, pqB, pqC]
  refine WL.val (by kernel_rfl) (.tuple #[.int .i64 1, .int .i64 0]) (by go_simp) ?_
  simp only [Act.put, pqA, pqB, pqC]
  refine WL.val (by kernel_rfl) (.int .i64 1) (by go_simp) ?_
  simp only [Act.put, pqA, pqB, pqC]
  refine WL.val (by kernel_rfl) (.int .i64 0) (by go_simp) ?_
  simp only [Act.put, pqA, pqB, pqC]
  refine WL.val (by kernel_rfl) (.int .i64 1) (by go_simp) ?_
  simp only [Act.put, pqA, pqB, pqC]
  refine WL.val (by kernel_rfl) (.int .i64 0) (by go_simp) ?_
  simp only [Act.put, pqA, pqB, pqC]
  refine WL.nil ?_
  refine hK7 _ _ ?_
  refine wp_seq_k fun K8 hK8 => ?_
  refine wp_region_list (WL.out ?_)
  refine WL.val (by kernel_rfl) (.pointer (some ⟨d, 0, none⟩)) (by go_simp) ?_
  simp only [Act.put, pqA, pqB, pqC]
  refine WL.val (by kernel_rfl) (.pointer (some ⟨w.heap.size, 2, none⟩)) (by go_simp) ?_
  simp only [Act.put, pqA, pqB, pqC]
  refine WL.val (by kernel_rfl) (.pointer (some ⟨w.heap.size, 2, none⟩)) (by go_simp) ?_
  simp only [Act.put, pqA, pqB, pqC]
  refine WL.midA (by kernel_rfl) 36 (.tmp 93) rfl w.heap.size 2 rfl (bytesA 32 op.q.1.id.f) _ (vtx_id (opA_v (hoo.out ▸ blk_rng HX2.out))) Try.underlying36 rfl (Try.size36B _) ?_
  simp only [Act.put, pqA, pqB, pqC]
  have hhs := has_any d op.q.1.id (DgS d g) g w2 HD2.out.at'
  rw [show (g.held.find? (isV op.q.1.id)).isSome = true from HB1.out] at hhs
  refine WL.callF (by kernel_rfl) 45 _ _ rfl Try.in45 #[ptr d, .agg (bytesA 32 op.q.1.id.f)] (by simp [Act.eval]) ?_
  refine (hhs).mono ?_
  rintro e w3 ⟨rfl, hz⟩
  refine ⟨_, rfl, ?_⟩
  clear hhs
  have HX3 := Keep.mk (HX2.out.below hz HX2.out.lt)
  have HD3 := Keep.mk (HD2.out.below hz)
  have LB3 := Keep.mk (belowT LB2.out hz)
  clear hz HX2 HD2 LB2
  simp only [Act.put, pqA, pqB, pqC]
  refine WL.val (by kernel_rfl) (.bool true) (by go_simp) ?_
  simp only [Act.put, pqA, pqB, pqC]
  refine WL.skip (by kernel_rfl) ?_
  simp only [Act.put, pqA, pqB, pqC]
  refine WL.skip (by kernel_rfl) ?_
  simp only [Act.put, pqA, pqB, pqC]
  refine WL.skip (by kernel_rfl) ?_
  simp only [Act.put, pqA, pqB, pqC]
  refine WL.skip (by kernel_rfl) ?_
  simp only [Act.put, pqA, pqB, pqC]
  refine WL.skip (by kernel_rfl) ?_
  simp only [Act.put, pqA, pqB, pqC]
  refine WL.val (by kernel_rfl) (.bool true) (by go_simp) ?_
  simp only [Act.put, pqA, pqB, pqC]
  refine WL.val (by kernel_rfl) (.bool true) (by go_simp) ?_
  simp only [Act.put, pqA, pqB, pqC]
  refine WL.nil ?_
  refine hK8 _ _ ?_
  refine wp_seq_k fun K9 hK9 => ?_
  refine wp_region_list (WL.out ?_)
  refine WL.val (by kernel_rfl) (.pointer (some ⟨d, 0, none⟩)) (by go_simp) ?_
  simp only [Act.put, pqA, pqB, pqC]
  refine WL.val (by kernel_rfl) (.pointer (some ⟨w.heap.size, 2, none⟩)) (by go_simp) ?_
  simp only [Act.put, pqA, pqB, pqC]
  refine WL.midA (by kernel_rfl) 39 (.tmp 105) rfl w.heap.size 2 rfl vv _ (by rw [hvv.out]; exact opA_v (hoo.out ▸ blk_rng HX3.out)) Try.underlying39 rfl (by rw [hvv.out]; exact Try.info39s _ _ _) ?_
  simp only [Act.put, pqA, pqB, pqC]
  have had := add_any d op.q.1 op.q.2 (DgS d g) g w3 HD3.out.at' HD3.out.di (HR.out.below LB3.out) HL.out
  rw [HFt.out, ← hvv.out] at had
  refine WL.callF (by kernel_rfl) 17 _ _ rfl Try.in17 #[ptr d, .agg vv] (by simp [Act.eval]) ?_
  refine (had).mono ?_
  rintro e w9 ⟨u9, g9, ol, rfl, hs, hi, hg, ho, hn⟩
  refine ⟨_, rfl, ?_⟩
  clear had
  have HS9 := Keep.mk (hs.ds hi HD3.out (Nat.le_trans HB.out LB3.out.size))
  have HG9 := Keep.mk hg
  have HX9 := Keep.mk (hs.grown.blk HX3.out fun e => by have := HD.out.at'.lt _ (HD.out.at'.av _ e); omega)
  have HO9 := Keep.mk ho
  obtain ⟨ua, uc, hu9⟩ := ho.sl
  subst hu9
  have B9 : Keep (Below B0 w w9) := ⟨(LB3.out.mono HB.out).trans HS9.out.2⟩
  have GR9 := Keep.mk ((Grown.below (S := DgS d g) LB3.out).trans hs.grown)
  have SB9 : Keep (∀ k, DgS d g9 k → DgS d g k ∨ w.heap.size ≤ k) := ⟨fun k hk => (hs.sub k hk).imp id fun h => Nat.le_trans LB3.out.size h⟩
  clear hs hi hg ho hn
  have hsm := add_same HFt.out (by decide) (by decide) HG9.out
  have hol : ol.length = 0 := by rw [hsm.2]; rfl
  have hol' : (ol.length : Int) = 0 := by omega
  have hge : g9.held.length = g.held.length := by rw [hsm.1]
  clear hsm
  simp only [Act.put, pqA, pqB, pqC]
  refine WL.val (by kernel_rfl) (.tuple #[.int .i64 1, .slice ua ol.length uc, .int .i64 0]) (by go_simp) ?_
  simp only [Act.put, pqA, pqB, pqC]
  refine WL.val (by kernel_rfl) (.int .i64 1) (by go_simp) ?_
  simp only [Act.put, pqA, pqB, pqC]
  refine WL.val (by kernel_rfl) (.slice ua ol.length uc) (by go_simp) ?_
  simp only [Act.put, pqA, pqB, pqC]
  refine WL.val (by kernel_rfl) (.int .i64 0) (by go_simp) ?_
  simp only [Act.put, pqA, pqB, pqC]
  refine WL.val (by kernel_rfl) (.int .i64 1) (by go_simp) ?_
  simp only [Act.put, pqA, pqB, pqC]
  refine WL.val (by kernel_rfl) (.slice ua ol.length uc) (by go_simp) ?_
  simp only [Act.put, pqA, pqB, pqC]
  refine WL.val (by kernel_rfl) (.int .i64 0) (by go_simp) ?_
  simp only [Act.put, pqA, pqB, pqC]
  refine WL.nil ?_
  refine hK9 _ _ ?_
  refine wp_seq_k fun K10 hK10 => ?_
  refine wp_seq_k fun K11 hK11 => ?_
  refine wp_region_list (WL.out ?_)
  refine WL.val (by kernel_rfl) (.int .i64 1) (by go_simp) ?_
  simp only [Act.put, pqA, pqB, pqC]
  refine WL.val (by kernel_rfl) (.int .i64 1) (by go_simp) ?_
  simp only [Act.put, pqA, pqB, pqC]
  refine WL.val (by kernel_rfl) (.bool false) (by go_simp) ?_
  simp only [Act.put, pqA, pqB, pqC]
  refine WL.val (by kernel_rfl) (.bool false) (by go_simp) ?_
  simp only [Act.put, pqA, pqB, pqC]
  refine WL.val (by kernel_rfl) (.int .i64 0) (by go_simp) ?_
  simp only [Act.put, pqA, pqB, pqC]
  refine WL.val (by kernel_rfl) (.int .i64 0) (by go_simp) ?_
  simp only [Act.put, pqA, pqB, pqC]
  refine WL.val (by kernel_rfl) (.bool false) (by go_simp) ?_
  simp only [Act.put, pqA, pqB, pqC]
  refine WL.val (by kernel_rfl) (.bool false) (by go_simp) ?_
  simp only [Act.put, pqA, pqB, pqC]
  refine WL.val (by kernel_rfl) (.bool false) (by go_simp) ?_
  simp only [Act.put, pqA, pqB, pqC]
  refine WL.val (by kernel_rfl) (.int .i64 1) (by go_simp) ?_
  simp only [Act.put, pqA, pqB, pqC]
  refine WL.val (by kernel_rfl) (.bool true) (by go_simp) ?_
  simp only [Act.put, pqA, pqB, pqC]
  refine WL.val (by kernel_rfl) (.bool true) (by go_simp) ?_
  simp only [Act.put, pqA, pqB, pqC]
  refine WL.val (by kernel_rfl) (.bool false) (by go_simp) ?_
  simp only [Act.put, pqA, pqB, pqC]
  refine WL.val (by kernel_rfl) (.bool false) (by go_simp) ?_
  simp only [Act.put, pqA, pqB, pqC]
  refine WL.val (by kernel_rfl) (.bool false) (by go_simp) ?_
  simp only [Act.put, pqA, pqB, pqC]
  refine WL.val (by kernel_rfl) (.int .i64 0) (by go_simp) ?_
  simp only [Act.put, pqA, pqB, pqC]
  refine WL.val (by kernel_rfl) (.bool false) (by go_simp) ?_
  simp only [Act.put, pqA, pqB, pqC]
  refine WL.val (by kernel_rfl) (.bool false) (by go_simp) ?_
  simp only [Act.put, pqA, pqB, pqC]
  refine WL.skip (by kernel_rfl) ?_
  simp only [Act.put, pqA, pqB, pqC]
  refine WL.skip (by kernel_rfl) ?_
  simp only [Act.put, pqA, pqB, pqC]
  refine WL.skip (by kernel_rfl) ?_
  simp only [Act.put, pqA, pqB, pqC]
  refine WL.skip (by kernel_rfl) ?_
  simp only [Act.put, pqA, pqB, pqC]
  refine WL.skip (by kernel_rfl) ?_
  simp only [Act.put, pqA, pqB, pqC]
  refine WL.skip (by kernel_rfl) ?_
  simp only [Act.put, pqA, pqB, pqC]
  refine WL.skip (by kernel_rfl) ?_
  simp only [Act.put, pqA, pqB, pqC]
  refine WL.val (by kernel_rfl) (.bool false) (by go_simp) ?_
  simp only [Act.put, pqA, pqB, pqC]
  refine WL.val (by kernel_rfl) (.bool false) (by go_simp) ?_
  simp only [Act.put, pqA, pqB, pqC]
  refine WL.nil ?_
  refine hK11 _ _ ?_
  refine wp_cond_false rfl ?_
  refine wp_skip ?_
  refine hK10 _ _ ?_
  refine wp_seq_k fun K12 hK12 => ?_
  refine wp_seq_k fun K13 hK13 => ?_
  refine wp_region_list (WL.out ?_)
  refine WL.val (by kernel_rfl) (.int .i64 1) (by go_simp) ?_
  simp only [Act.put, pqA, pqB, pqC]
  refine WL.nil ?_
  refine hK13 _ _ ?_
  refine wp_block ?_
  refine wp_seq_k fun K14 hK14 => ?_
  refine wp_region_list (WL.out ?_)
  refine WL.val (by kernel_rfl) (.bool false) (by go_simp) ?_
  simp only [Act.put, pqA, pqB, pqC]
  refine WL.val (by kernel_rfl) (.bool false) (by go_simp) ?_
  simp only [Act.put, pqA, pqB, pqC]
  refine WL.nil ?_
  refine hK14 _ _ ?_
  refine wp_cond_false rfl ?_
  refine wp_seq_k fun K15 hK15 => ?_
  refine wp_region_list (WL.out ?_)
  refine WL.val (by kernel_rfl) (.bool false) (by go_simp) ?_
  simp only [Act.put, pqA, pqB, pqC]
  refine WL.val (by kernel_rfl) (.bool false) (by go_simp) ?_
  simp only [Act.put, pqA, pqB, pqC]
  refine WL.nil ?_
  refine hK15 _ _ ?_
  refine wp_cond_false rfl ?_
  refine wp_skip ?_
  refine hK12 _ _ ?_
  refine wp_seq_k fun K16 hK16 => ?_
  refine wp_region_list (WL.out ?_)
  refine WL.val (by kernel_rfl) (.pointer (some ⟨d, 0, none⟩)) (by go_simp) ?_
  simp only [Act.put, pqA, pqB, pqC]
  refine WL.callF (by kernel_rfl) 36 _ _ rfl Try.in36 #[ptr d] (by simp [Act.eval]) ?_
  refine (dlen_any d (DgS d g9) g9 w9 HS9.out.1.at').mono ?_
  rintro e wq ⟨rfl, hq⟩
  refine ⟨_, rfl, ?_⟩
  obtain rfl : w9 = wq := hq.symm
  simp only [Act.put, pqA, pqB, pqC]
  refine WL.val (by kernel_rfl) (.int .i64 (g.held.length : Int)) (by go_simp) ?_
  simp only [Act.put, pqA, pqB, pqC]
  refine WL.val (by kernel_rfl) (.bool true) (by go_simp) ?_
  simp only [Act.put, pqA, pqB, pqC]
  refine WL.val (by kernel_rfl) (.bool true) (by go_simp) ?_
  simp only [Act.put, pqA, pqB, pqC]
  refine WL.val (by kernel_rfl) (.slice ua ol.length uc) (by go_simp) ?_
  simp only [Act.put, pqA, pqB, pqC]
  refine WL.val (by kernel_rfl) (.int .i64 (ol.length : Int)) (by go_simp) ?_
  simp only [Act.put, pqA, pqB, pqC]
  refine WL.val (by kernel_rfl) (.bool true) (by go_simp) ?_
  simp only [Act.put, pqA, pqB, pqC]
  refine WL.val (by kernel_rfl) (.bool true) (by go_simp) ?_
  simp only [Act.put, pqA, pqB, pqC]
  refine WL.val (by kernel_rfl) (.bool true) (by go_simp) ?_
  simp only [Act.put, pqA, pqB, pqC]
  refine WL.nil ?_
  refine hK16 _ _ ?_
  refine wp_ret ?_
  go_ret
  exact ⟨g9, rfl, HS9.out.1, B9.out, grw_add HG9.out, GR9.out, SB9.out⟩
set_option maxRecDepth 8000 in
set_option maxHeartbeats 4000000 in
theorem do_known2 (B0 d : Nat) (op : OP) (g : DG) (w : World) (hD : DS B0 w d g) (hB : B0 ≤ w.heap.size) (hk : op.k ≠ 5 ∧ op.k ≠ 6) (hr : HRow w op.q.2 op.q.1.ps) (hL : (op.q.1.ps.length : Int) ≤ 9223372036854775806) (hFt : fitV g.held g.wait op.q.1 = (1, 0)) (hb1 : hasB g.held op.q.1.id = false) (hb2 : hasB g.wait op.q.1.id = true) : Calls Try.prog 20 #[ptr d, .agg (opA op)] w (DoPost B0 w d g) := by
  have HD := Keep.mk hD
  have HB := Keep.mk hB
  obtain ⟨oo, hoo⟩ : ∃ a : Array Value, Keep (a = opA op) := ⟨_, ⟨rfl⟩⟩
  rw [← hoo.out]
  have HK := Keep.mk hk
  have HR := Keep.mk hr
  have HL := Keep.mk hL
  have HFt := Keep.mk hFt
  obtain ⟨vv, hvv⟩ : ∃ a : Array Value, Keep (a = vtx op.q.1.id.f op.q.1.ck op.q.2) := ⟨_, ⟨rfl⟩⟩
  have HB1 : Keep (hasB g.held op.q.1.id = false) := ⟨hb1⟩
  have HB2 : Keep (hasB g.wait op.q.1.id = true) := ⟨hb2⟩
  clear hb1 hb2
  clear hk hr hL hFt
  clear hD hB
  go_enter Try.func20, Try.ntmps20
  refine wp_seq_k fun K1 hK1 => ?_
  refine wp_region_list (WL.out ?_)
  refine WL.box (by kernel_rfl) 41 (.tmp 1) rfl (oo) rfl ?_
  obtain ⟨w1, hwn⟩ : ∃ wx, Keep (wx = w.alloc (.cells (oo) 41)) := ⟨_, ⟨rfl⟩⟩
  rw [← hwn.out]
  have HX1 : Keep (Blk w1 w.heap.size 41 (oo)) := ⟨by rw [hwn.out]; exact Blk.new _ _ _⟩
  have LB1 : Keep (Below w.heap.size w w1) := ⟨by rw [hwn.out]; exact below_new _ _⟩
  clear hwn
  have HD1 := Keep.mk (HD.out.below LB1.out)
  have c0 : w1.cell? ⟨w.heap.size, 0, none⟩ = some (.int .i64 op.k) := opA_k (hoo.out ▸ blk_rng HX1.out)
  have hk5 := HK.out.1
  have hk6 := HK.out.2
  simp only [Act.put, pqA, pqB, pqC]
  refine WL.val (by kernel_rfl) (.bool false) (by go_simp) ?_
  simp only [Act.put, pqA, pqB, pqC]
  refine WL.nil ?_
  refine hK1 _ _ ?_
  refine wp_seq_k fun K2 hK2 => ?_
  refine wp_seq_k fun K3 hK3 => ?_
  refine wp_region_list (WL.out ?_)
  refine WL.val (by kernel_rfl) (.pointer (some ⟨w.heap.size, 0, none⟩)) (by go_simp) ?_
  simp only [Act.put, pqA, pqB, pqC]
  refine WL.val (by kernel_rfl) (.int .i64 op.k) (by go_simp) ?_
  simp only [Act.put, pqA, pqB, pqC]
  refine WL.nil ?_
  refine hK3 _ _ ?_
  refine wp_block ?_
  refine wp_seq_k fun K4 hK4 => ?_
  refine wp_region_list (WL.out ?_)
  refine WL.val (by kernel_rfl) (.bool false) (by go_simp) ?_
  simp only [Act.put, pqA, pqB, pqC]
  refine WL.val (by kernel_rfl) (.bool false) (by go_simp) ?_
  simp only [Act.put, pqA, pqB, pqC]
  refine WL.nil ?_
  refine hK4 _ _ ?_
  refine wp_cond_false rfl ?_
  refine wp_seq_k fun K5 hK5 => ?_
  refine wp_region_list (WL.out ?_)
  refine WL.val (by kernel_rfl) (.bool false) (by go_simp) ?_
  simp only [Act.put, pqA, pqB, pqC]
  refine WL.val (by kernel_rfl) (.bool false) (by go_simp) ?_
  simp only [Act.put, pqA, pqB, pqC]
  refine WL.nil ?_
  refine hK5 _ _ ?_
  refine wp_cond_false rfl ?_
  refine wp_skip ?_
  refine hK2 _ _ ?_
  refine wp_seq_k fun K6 hK6 => ?_
  refine wp_region_list (WL.out ?_)
  refine WL.val (by kernel_rfl) (.pointer (some ⟨d, 0, none⟩)) (by go_simp) ?_
  simp only [Act.put, pqA, pqB, pqC]
  clear c0
  refine WL.callF (by kernel_rfl) 36 _ _ rfl Try.in36 #[ptr d] (by simp [Act.eval]) ?_
  refine (dlen_any d (DgS d g) g w1 HD1.out.at').mono ?_
  rintro e wq ⟨rfl, hq⟩
  refine ⟨_, rfl, ?_⟩
  obtain rfl : w1 = wq := hq.symm
  simp only [Act.put, pqA, pqB, pqC]
  refine WL.val (by kernel_rfl) (.int .i64 (g.held.length : Int)) (by go_simp) ?_
  simp only [Act.put, pqA, pqB, pqC]
  refine WL.nil ?_
  refine hK6 _ _ ?_
  refine wp_seq_k fun K7 hK7 => ?_
  refine wp_region_list (WL.out ?_)
  refine WL.val (by kernel_rfl) (.pointer (some ⟨d, 0, none⟩)) (by go_simp) ?_
  simp only [Act.put, pqA, pqB, pqC]
  refine WL.val (by kernel_rfl) (.pointer (some ⟨w.heap.size, 2, none⟩)) (by go_simp) ?_
  simp only [Act.put, pqA, pqB, pqC]
  refine WL.midA (by kernel_rfl) 39 (.tmp 86) rfl w.heap.size 2 rfl vv _ (by rw [hvv.out]; exact opA_v (hoo.out ▸ blk_rng HX1.out)) Try.underlying39 rfl (by rw [hvv.out]; exact Try.info39s _ _ _) ?_
  simp only [Act.put, pqA, pqB, pqC]
  have hft := fit_any d op.q.1 op.q.2 (DgS d g) g w1 HD1.out.at' (HR.out.below LB1.out) HD1.out.di.hM HL.out
  rw [HFt.out, ← hvv.out] at hft
  refine WL.callF (by kernel_rfl) 28 _ _ rfl Try.in28 #[ptr d, .agg vv] (by simp [Act.eval]) ?_
  refine (hft).mono ?_
  rintro e w2 ⟨rfl, hz⟩
  refine ⟨_, rfl, ?_⟩
  clear hft
  have HX2 := Keep.mk (HX1.out.below hz HX1.out.lt)
  have HD2 := Keep.mk (HD1.out.below hz)
  have LB2 := Keep.mk (belowT LB1.out hz)
  clear hz HX1 HD1 LB1
  simp only [Act.put, pqA, pqB, pqC]
  refine WL.val (by kernel_rfl) (.tuple #[.int .i64 1, .int .i64 0]) (by go_simp) ?_
  simp only [Act.put, pqA, pqB, pqC]
  refine WL.val (by kernel_rfl) (.int .i64 1) (by go_simp) ?_
  simp only [Act.put, pqA, pqB, pqC]
  refine WL.val (by kernel_rfl) (.int .i64 0) (by go_simp) ?_
  simp only [Act.put, pqA, pqB, pqC]
  refine WL.val (by kernel_rfl) (.int .i64 1) (by go_simp) ?_
  simp only [Act.put, pqA, pqB, pqC]
  refine WL.val (by kernel_rfl) (.int .i64 0) (by go_simp) ?_
  simp only [Act.put, pqA, pqB, pqC]
  refine WL.nil ?_
  refine hK7 _ _ ?_
  refine wp_seq_k fun K8 hK8 => ?_
  refine wp_region_list (WL.out ?_)
  refine WL.val (by kernel_rfl) (.pointer (some ⟨d, 0, none⟩)) (by go_simp) ?_
  simp only [Act.put, pqA, pqB, pqC]
  refine WL.val (by kernel_rfl) (.pointer (some ⟨w.heap.size, 2, none⟩)) (by go_simp) ?_
  simp only [Act.put, pqA, pqB, pqC]
  refine WL.val (by kernel_rfl) (.pointer (some ⟨w.heap.size, 2, none⟩)) (by go_simp) ?_
  simp only [Act.put, pqA, pqB, pqC]
  refine WL.midA (by kernel_rfl) 36 (.tmp 93) rfl w.heap.size 2 rfl (bytesA 32 op.q.1.id.f) _ (vtx_id (opA_v (hoo.out ▸ blk_rng HX2.out))) Try.underlying36 rfl (Try.size36B _) ?_
  simp only [Act.put, pqA, pqB, pqC]
  have hhs := has_any d op.q.1.id (DgS d g) g w2 HD2.out.at'
  rw [show (g.held.find? (isV op.q.1.id)).isSome = false from HB1.out] at hhs
  refine WL.callF (by kernel_rfl) 45 _ _ rfl Try.in45 #[ptr d, .agg (bytesA 32 op.q.1.id.f)] (by simp [Act.eval]) ?_
  refine (hhs).mono ?_
  rintro e w3 ⟨rfl, hz⟩
  refine ⟨_, rfl, ?_⟩
  clear hhs
  have HX3 := Keep.mk (HX2.out.below hz HX2.out.lt)
  have HD3 := Keep.mk (HD2.out.below hz)
  have LB3 := Keep.mk (belowT LB2.out hz)
  clear hz HX2 HD2 LB2
  simp only [Act.put, pqA, pqB, pqC]
  refine WL.val (by kernel_rfl) (.bool false) (by go_simp) ?_
  simp only [Act.put, pqA, pqB, pqC]
  refine WL.val (by kernel_rfl) (.pointer (some ⟨d, 0, none⟩)) (by go_simp) ?_
  simp only [Act.put, pqA, pqB, pqC]
  refine WL.val (by kernel_rfl) (.pointer (some ⟨w.heap.size, 2, none⟩)) (by go_simp) ?_
  simp only [Act.put, pqA, pqB, pqC]
  refine WL.val (by kernel_rfl) (.pointer (some ⟨w.heap.size, 2, none⟩)) (by go_simp) ?_
  simp only [Act.put, pqA, pqB, pqC]
  refine WL.midA (by kernel_rfl) 36 (.tmp 99) rfl w.heap.size 2 rfl (bytesA 32 op.q.1.id.f) _ (vtx_id (opA_v (hoo.out ▸ blk_rng HX3.out))) Try.underlying36 rfl (Try.size36B _) ?_
  simp only [Act.put, pqA, pqB, pqC]
  have hws := waits_any d op.q.1.id (DgS d g) g w3 HD3.out.at'
  rw [show (g.wait.find? (isV op.q.1.id)).isSome = true from HB2.out] at hws
  refine WL.callF (by kernel_rfl) 47 _ _ rfl Try.in47 #[ptr d, .agg (bytesA 32 op.q.1.id.f)] (by simp [Act.eval]) ?_
  refine (hws).mono ?_
  rintro e w4 ⟨rfl, hz⟩
  refine ⟨_, rfl, ?_⟩
  clear hws
  have HX4 := Keep.mk (HX3.out.below hz HX3.out.lt)
  have HD4 := Keep.mk (HD3.out.below hz)
  have LB4 := Keep.mk (belowT LB3.out hz)
  clear hz HX3 HD3 LB3
  simp only [Act.put, pqA, pqB, pqC]
  refine WL.val (by kernel_rfl) (.bool true) (by go_simp) ?_
  simp only [Act.put, pqA, pqB, pqC]
  refine WL.val (by kernel_rfl) (.bool true) (by go_simp) ?_
  simp only [Act.put, pqA, pqB, pqC]
  refine WL.nil ?_
  refine hK8 _ _ ?_
  refine wp_seq_k fun K9 hK9 => ?_
  refine wp_region_list (WL.out ?_)
  refine WL.val (by kernel_rfl) (.pointer (some ⟨d, 0, none⟩)) (by go_simp) ?_
  simp only [Act.put, pqA, pqB, pqC]
  refine WL.val (by kernel_rfl) (.pointer (some ⟨w.heap.size, 2, none⟩)) (by go_simp) ?_
  simp only [Act.put, pqA, pqB, pqC]
  refine WL.midA (by kernel_rfl) 39 (.tmp 105) rfl w.heap.size 2 rfl vv _ (by rw [hvv.out]; exact opA_v (hoo.out ▸ blk_rng HX4.out)) Try.underlying39 rfl (by rw [hvv.out]; exact Try.info39s _ _ _) ?_
  simp only [Act.put, pqA, pqB, pqC]
  have had := add_any d op.q.1 op.q.2 (DgS d g) g w4 HD4.out.at' HD4.out.di (HR.out.below LB4.out) HL.out
  rw [HFt.out, ← hvv.out] at had
  refine WL.callF (by kernel_rfl) 17 _ _ rfl Try.in17 #[ptr d, .agg vv] (by simp [Act.eval]) ?_
  refine (had).mono ?_
  rintro e w9 ⟨u9, g9, ol, rfl, hs, hi, hg, ho, hn⟩
  refine ⟨_, rfl, ?_⟩
  clear had
  have HS9 := Keep.mk (hs.ds hi HD4.out (Nat.le_trans HB.out LB4.out.size))
  have HG9 := Keep.mk hg
  have HX9 := Keep.mk (hs.grown.blk HX4.out fun e => by have := HD.out.at'.lt _ (HD.out.at'.av _ e); omega)
  have HO9 := Keep.mk ho
  obtain ⟨ua, uc, hu9⟩ := ho.sl
  subst hu9
  have B9 : Keep (Below B0 w w9) := ⟨(LB4.out.mono HB.out).trans HS9.out.2⟩
  have GR9 := Keep.mk ((Grown.below (S := DgS d g) LB4.out).trans hs.grown)
  have SB9 : Keep (∀ k, DgS d g9 k → DgS d g k ∨ w.heap.size ≤ k) := ⟨fun k hk => (hs.sub k hk).imp id fun h => Nat.le_trans LB4.out.size h⟩
  clear hs hi hg ho hn
  have hsm := add_same HFt.out (by decide) (by decide) HG9.out
  have hol : ol.length = 0 := by rw [hsm.2]; rfl
  have hol' : (ol.length : Int) = 0 := by omega
  have hge : g9.held.length = g.held.length := by rw [hsm.1]
  clear hsm
  simp only [Act.put, pqA, pqB, pqC]
  refine WL.val (by kernel_rfl) (.tuple #[.int .i64 1, .slice ua ol.length uc, .int .i64 0]) (by go_simp) ?_
  simp only [Act.put, pqA, pqB, pqC]
  refine WL.val (by kernel_rfl) (.int .i64 1) (by go_simp) ?_
  simp only [Act.put, pqA, pqB, pqC]
  refine WL.val (by kernel_rfl) (.slice ua ol.length uc) (by go_simp) ?_
  simp only [Act.put, pqA, pqB, pqC]
  refine WL.val (by kernel_rfl) (.int .i64 0) (by go_simp) ?_
  simp only [Act.put, pqA, pqB, pqC]
  refine WL.val (by kernel_rfl) (.int .i64 1) (by go_simp) ?_
  simp only [Act.put, pqA, pqB, pqC]
  refine WL.val (by kernel_rfl) (.slice ua ol.length uc) (by go_simp) ?_
  simp only [Act.put, pqA, pqB, pqC]
  refine WL.val (by kernel_rfl) (.int .i64 0) (by go_simp) ?_
  simp only [Act.put, pqA, pqB, pqC]
  refine WL.nil ?_
  refine hK9 _ _ ?_
  refine wp_seq_k fun K10 hK10 => ?_
  refine wp_seq_k fun K11 hK11 => ?_
  refine wp_region_list (WL.out ?_)
  refine WL.val (by kernel_rfl) (.int .i64 1) (by go_simp) ?_
  simp only [Act.put, pqA, pqB, pqC]
  refine WL.val (by kernel_rfl) (.int .i64 1) (by go_simp) ?_
  simp only [Act.put, pqA, pqB, pqC]
  refine WL.val (by kernel_rfl) (.bool false) (by go_simp) ?_
  simp only [Act.put, pqA, pqB, pqC]
  refine WL.val (by kernel_rfl) (.bool false) (by go_simp) ?_
  simp only [Act.put, pqA, pqB, pqC]
  refine WL.val (by kernel_rfl) (.int .i64 0) (by go_simp) ?_
  simp only [Act.put, pqA, pqB, pqC]
  refine WL.val (by kernel_rfl) (.int .i64 0) (by go_simp) ?_
  simp only [Act.put, pqA, pqB, pqC]
  refine WL.val (by kernel_rfl) (.bool false) (by go_simp) ?_
  simp only [Act.put, pqA, pqB, pqC]
  refine WL.val (by kernel_rfl) (.bool false) (by go_simp) ?_
  simp only [Act.put, pqA, pqB, pqC]
  refine WL.val (by kernel_rfl) (.bool false) (by go_simp) ?_
  simp only [Act.put, pqA, pqB, pqC]
  refine WL.val (by kernel_rfl) (.int .i64 1) (by go_simp) ?_
  simp only [Act.put, pqA, pqB, pqC]
  refine WL.val (by kernel_rfl) (.bool true) (by go_simp) ?_
  simp only [Act.put, pqA, pqB, pqC]
  refine WL.val (by kernel_rfl) (.bool true) (by go_simp) ?_
  simp only [Act.put, pqA, pqB, pqC]
  refine WL.val (by kernel_rfl) (.bool false) (by go_simp) ?_
  simp only [Act.put, pqA, pqB, pqC]
  refine WL.val (by kernel_rfl) (.bool false) (by go_simp) ?_
  simp only [Act.put, pqA, pqB, pqC]
  refine WL.val (by kernel_rfl) (.bool false) (by go_simp) ?_
  simp only [Act.put, pqA, pqB, pqC]
  refine WL.val (by kernel_rfl) (.int .i64 0) (by go_simp) ?_
  simp only [Act.put, pqA, pqB, pqC]
  refine WL.val (by kernel_rfl) (.bool false) (by go_simp) ?_
  simp only [Act.put, pqA, pqB, pqC]
  refine WL.val (by kernel_rfl) (.bool false) (by go_simp) ?_
  simp only [Act.put, pqA, pqB, pqC]
  refine WL.skip (by kernel_rfl) ?_
  simp only [Act.put, pqA, pqB, pqC]
  refine WL.skip (by kernel_rfl) ?_
  simp only [Act.put, pqA, pqB, pqC]
  refine WL.skip (by kernel_rfl) ?_
  simp only [Act.put, pqA, pqB, pqC]
  refine WL.skip (by kernel_rfl) ?_
  simp only [Act.put, pqA, pqB, pqC]
  refine WL.skip (by kernel_rfl) ?_
  simp only [Act.put, pqA, pqB, pqC]
  refine WL.skip (by kernel_rfl) ?_
  simp only [Act.put, pqA, pqB, pqC]
  refine WL.skip (by kernel_rfl) ?_
  simp only [Act.put, pqA, pqB, pqC]
  refine WL.val (by kernel_rfl) (.bool false) (by go_simp) ?_
  simp only [Act.put, pqA, pqB, pqC]
  refine WL.val (by kernel_rfl) (.bool false) (by go_simp) ?_
  simp only [Act.put, pqA, pqB, pqC]
  refine WL.nil ?_
  refine hK11 _ _ ?_
  refine wp_cond_false rfl ?_
  refine wp_skip ?_
  refine hK10 _ _ ?_
  refine wp_seq_k fun K12 hK12 => ?_
  refine wp_seq_k fun K13 hK13 => ?_
  refine wp_region_list (WL.out ?_)
  refine WL.val (by kernel_rfl) (.int .i64 1) (by go_simp) ?_
  simp only [Act.put, pqA, pqB, pqC]
  refine WL.nil ?_
  refine hK13 _ _ ?_
  refine wp_block ?_
  refine wp_seq_k fun K14 hK14 => ?_
  refine wp_region_list (WL.out ?_)
  refine WL.val (by kernel_rfl) (.bool false) (by go_simp) ?_
  simp only [Act.put, pqA, pqB, pqC]
  refine WL.val (by kernel_rfl) (.bool false) (by go_simp) ?_
  simp only [Act.put, pqA, pqB, pqC]
  refine WL.nil ?_
  refine hK14 _ _ ?_
  refine wp_cond_false rfl ?_
  refine wp_seq_k fun K15 hK15 => ?_
  refine wp_region_list (WL.out ?_)
  refine WL.val (by kernel_rfl) (.bool false) (by go_simp) ?_
  simp only [Act.put, pqA, pqB, pqC]
  refine WL.val (by kernel_rfl) (.bool false) (by go_simp) ?_
  simp only [Act.put, pqA, pqB, pqC]
  refine WL.nil ?_
  refine hK15 _ _ ?_
  refine wp_cond_false rfl ?_
  refine wp_skip ?_
  refine hK12 _ _ ?_
  refine wp_seq_k fun K16 hK16 => ?_
  refine wp_region_list (WL.out ?_)
  refine WL.val (by kernel_rfl) (.pointer (some ⟨d, 0, none⟩)) (by go_simp) ?_
  simp only [Act.put, pqA, pqB, pqC]
  refine WL.callF (by kernel_rfl) 36 _ _ rfl Try.in36 #[ptr d] (by simp [Act.eval]) ?_
  refine (dlen_any d (DgS d g9) g9 w9 HS9.out.1.at').mono ?_
  rintro e wq ⟨rfl, hq⟩
  refine ⟨_, rfl, ?_⟩
  obtain rfl : w9 = wq := hq.symm
  simp only [Act.put, pqA, pqB, pqC]
  refine WL.val (by kernel_rfl) (.int .i64 (g.held.length : Int)) (by go_simp) ?_
  simp only [Act.put, pqA, pqB, pqC]
  refine WL.val (by kernel_rfl) (.bool true) (by go_simp) ?_
  simp only [Act.put, pqA, pqB, pqC]
  refine WL.val (by kernel_rfl) (.bool true) (by go_simp) ?_
  simp only [Act.put, pqA, pqB, pqC]
  refine WL.val (by kernel_rfl) (.slice ua ol.length uc) (by go_simp) ?_
  simp only [Act.put, pqA, pqB, pqC]
  refine WL.val (by kernel_rfl) (.int .i64 (ol.length : Int)) (by go_simp) ?_
  simp only [Act.put, pqA, pqB, pqC]
  refine WL.val (by kernel_rfl) (.bool true) (by go_simp) ?_
  simp only [Act.put, pqA, pqB, pqC]
  refine WL.val (by kernel_rfl) (.bool true) (by go_simp) ?_
  simp only [Act.put, pqA, pqB, pqC]
  refine WL.val (by kernel_rfl) (.bool true) (by go_simp) ?_
  simp only [Act.put, pqA, pqB, pqC]
  refine WL.nil ?_
  refine hK16 _ _ ?_
  refine wp_ret ?_
  go_ret
  exact ⟨g9, rfl, HS9.out.1, B9.out, grw_add HG9.out, GR9.out, SB9.out⟩
end Go.Proofs.Ytogmdfhicbmplaa
namespace Go.Proofs.Ytogmdfhicbmplaa
open Go.RowKit
set_option linter.unusedSimpArgs false
set_option linter.unusedVariables false

set_option maxRecDepth 8000 in
set_option maxHeartbeats 4000000 in
theorem do_refused (B0 d : Nat) (op : OP) (g : DG) (w : World) (hD : DS B0 w d g) (hB : B0 ≤ w.heap.size) (hk : op.k ≠ 5 ∧ op.k ≠ 6) (hr : HRow w op.q.2 op.q.1.ps) (hL : (op.q.1.ps.length : Int) ≤ 9223372036854775806) (ee : Int) (hFt : fitV g.held g.wait op.q.1 = (0, ee)) (hb1 : hasB g.held op.q.1.id = false) (hb2 : hasB g.wait op.q.1.id = false) (hN : ee ≠ 0) : Calls Try.prog 20 #[ptr d, .agg (opA op)] w (DoPost B0 w d g) := by
  have HD := Keep.mk hD
  have HB := Keep.mk hB
  obtain ⟨oo, hoo⟩ : ∃ a : Array Value, Keep (a = opA op) := ⟨_, ⟨rfl⟩⟩
  rw [← hoo.out]
  have HK := Keep.mk hk
  have HR := Keep.mk hr
  have HL := Keep.mk hL
  have HFt := Keep.mk hFt
  obtain ⟨vv, hvv⟩ : ∃ a : Array Value, Keep (a = vtx op.q.1.id.f op.q.1.ck op.q.2) := ⟨_, ⟨rfl⟩⟩
  have HB1 : Keep (hasB g.held op.q.1.id = false) := ⟨hb1⟩
  have HB2 : Keep (hasB g.wait op.q.1.id = false) := ⟨hb2⟩
  clear hb1 hb2
  have hne0 := hN
  clear hk hr hL hFt
  clear hD hB
  go_enter Try.func20, Try.ntmps20
  refine wp_seq_k fun K1 hK1 => ?_
  refine wp_region_list (WL.out ?_)
  refine WL.box (by kernel_rfl) 41 (.tmp 1) rfl (oo) rfl ?_
  obtain ⟨w1, hwn⟩ : ∃ wx, Keep (wx = w.alloc (.cells (oo) 41)) := ⟨_, ⟨rfl⟩⟩
  rw [← hwn.out]
  have HX1 : Keep (Blk w1 w.heap.size 41 (oo)) := ⟨by rw [hwn.out]; exact Blk.new _ _ _⟩
  have LB1 : Keep (Below w.heap.size w w1) := ⟨by rw [hwn.out]; exact below_new _ _⟩
  clear hwn
  have HD1 := Keep.mk (HD.out.below LB1.out)
  have c0 : w1.cell? ⟨w.heap.size, 0, none⟩ = some (.int .i64 op.k) := opA_k (hoo.out ▸ blk_rng HX1.out)
  have hk5 := HK.out.1
  have hk6 := HK.out.2
  simp only [Act.put, pqA, pqB, pqC]
  refine WL.val (by kernel_rfl) (.bool false) (by go_simp) ?_
  simp only [Act.put, pqA, pqB, pqC]
  refine WL.nil ?_
  refine hK1 _ _ ?_
  refine wp_seq_k fun K2 hK2 => ?_
  refine wp_seq_k fun K3 hK3 => ?_
  refine wp_region_list (WL.out ?_)
  refine WL.val (by kernel_rfl) (.pointer (some ⟨w.heap.size, 0, none⟩)) (by go_simp) ?_
  simp only [Act.put, pqA, pqB, pqC]
  refine WL.val (by kernel_rfl) (.int .i64 op.k) (by go_simp) ?_
  simp only [Act.put, pqA, pqB, pqC]
  refine WL.nil ?_
  refine hK3 _ _ ?_
  refine wp_block ?_
  refine wp_seq_k fun K4 hK4 => ?_
  refine wp_region_list (WL.out ?_)
  refine WL.val (by kernel_rfl) (.bool false) (by go_simp) ?_
  simp only [Act.put, pqA, pqB, pqC]
  refine WL.val (by kernel_rfl) (.bool false) (by go_simp) ?_
  simp only [Act.put, pqA, pqB, pqC]
  refine WL.nil ?_
  refine hK4 _ _ ?_
  refine wp_cond_false rfl ?_
  refine wp_seq_k fun K5 hK5 => ?_
  refine wp_region_list (WL.out ?_)
  refine WL.val (by kernel_rfl) (.bool false) (by go_simp) ?_
  simp only [Act.put, pqA, pqB, pqC]
  refine WL.val (by kernel_rfl) (.bool false) (by go_simp) ?_
  simp only [Act.put, pqA, pqB, pqC]
  refine WL.nil ?_
  refine hK5 _ _ ?_
  refine wp_cond_false rfl ?_
  refine wp_skip ?_
  refine hK2 _ _ ?_
  refine wp_seq_k fun K6 hK6 => ?_
  refine wp_region_list (WL.out ?_)
  refine WL.val (by kernel_rfl) (.pointer (some ⟨d, 0, none⟩)) (by go_simp) ?_
  simp only [Act.put, pqA, pqB, pqC]
  clear c0
  refine WL.callF (by kernel_rfl) 36 _ _ rfl Try.in36 #[ptr d] (by simp [Act.eval]) ?_
  refine (dlen_any d (DgS d g) g w1 HD1.out.at').mono ?_
  rintro e wq ⟨rfl, hq⟩
  refine ⟨_, rfl, ?_⟩
  obtain rfl : w1 = wq := hq.symm
  simp only [Act.put, pqA, pqB, pqC]
  refine WL.val (by kernel_rfl) (.int .i64 (g.held.length : Int)) (by go_simp) ?_
  simp only [Act.put, pqA, pqB, pqC]
  refine WL.nil ?_
  refine hK6 _ _ ?_
  refine wp_seq_k fun K7 hK7 => ?_
  refine wp_region_list (WL.out ?_)
  refine WL.val (by kernel_rfl) (.pointer (some ⟨d, 0, none⟩)) (by go_simp) ?_
  simp only [Act.put, pqA, pqB, pqC]
  refine WL.val (by kernel_rfl) (.pointer (some ⟨w.heap.size, 2, none⟩)) (by go_simp) ?_
  simp only [Act.put, pqA, pqB, pqC]
  refine WL.midA (by kernel_rfl) 39 (.tmp 86) rfl w.heap.size 2 rfl vv _ (by rw [hvv.out]; exact opA_v (hoo.out ▸ blk_rng HX1.out)) Try.underlying39 rfl (by rw [hvv.out]; exact Try.info39s _ _ _) ?_
  simp only [Act.put, pqA, pqB, pqC]
  have hft := fit_any d op.q.1 op.q.2 (DgS d g) g w1 HD1.out.at' (HR.out.below LB1.out) HD1.out.di.hM HL.out
  rw [HFt.out, ← hvv.out] at hft
  refine WL.callF (by kernel_rfl) 28 _ _ rfl Try.in28 #[ptr d, .agg vv] (by simp [Act.eval]) ?_
  refine (hft).mono ?_
  rintro e w2 ⟨rfl, hz⟩
  refine ⟨_, rfl, ?_⟩
  clear hft
  have HX2 := Keep.mk (HX1.out.below hz HX1.out.lt)
  have HD2 := Keep.mk (HD1.out.below hz)
  have LB2 := Keep.mk (belowT LB1.out hz)
  clear hz HX1 HD1 LB1
  simp only [Act.put, pqA, pqB, pqC]
  refine WL.val (by kernel_rfl) (.tuple #[.int .i64 0, .int .i64 ee]) (by go_simp) ?_
  simp only [Act.put, pqA, pqB, pqC]
  refine WL.val (by kernel_rfl) (.int .i64 0) (by go_simp) ?_
  simp only [Act.put, pqA, pqB, pqC]
  refine WL.val (by kernel_rfl) (.int .i64 ee) (by go_simp) ?_
  simp only [Act.put, pqA, pqB, pqC]
  refine WL.val (by kernel_rfl) (.int .i64 0) (by go_simp) ?_
  simp only [Act.put, pqA, pqB, pqC]
  refine WL.val (by kernel_rfl) (.int .i64 ee) (by go_simp) ?_
  simp only [Act.put, pqA, pqB, pqC]
  refine WL.nil ?_
  refine hK7 _ _ ?_
  refine wp_seq_k fun K8 hK8 => ?_
  refine wp_region_list (WL.out ?_)
  refine WL.val (by kernel_rfl) (.pointer (some ⟨d, 0, none⟩)) (by go_simp) ?_
  simp only [Act.put, pqA, pqB, pqC]
  refine WL.val (by kernel_rfl) (.pointer (some ⟨w.heap.size, 2, none⟩)) (by go_simp) ?_
  simp only [Act.put, pqA, pqB, pqC]
  refine WL.val (by kernel_rfl) (.pointer (some ⟨w.heap.size, 2, none⟩)) (by go_simp) ?_
  simp only [Act.put, pqA, pqB, pqC]
  refine WL.midA (by kernel_rfl) 36 (.tmp 93) rfl w.heap.size 2 rfl (bytesA 32 op.q.1.id.f) _ (vtx_id (opA_v (hoo.out ▸ blk_rng HX2.out))) Try.underlying36 rfl (Try.size36B _) ?_
  simp only [Act.put, pqA, pqB, pqC]
  have hhs := has_any d op.q.1.id (DgS d g) g w2 HD2.out.at'
  rw [show (g.held.find? (isV op.q.1.id)).isSome = false from HB1.out] at hhs
  refine WL.callF (by kernel_rfl) 45 _ _ rfl Try.in45 #[ptr d, .agg (bytesA 32 op.q.1.id.f)] (by simp [Act.eval]) ?_
  refine (hhs).mono ?_
  rintro e w3 ⟨rfl, hz⟩
  refine ⟨_, rfl, ?_⟩
  clear hhs
  have HX3 := Keep.mk (HX2.out.below hz HX2.out.lt)
  have HD3 := Keep.mk (HD2.out.below hz)
  have LB3 := Keep.mk (belowT LB2.out hz)
  clear hz HX2 HD2 LB2
  simp only [Act.put, pqA, pqB, pqC]
  refine WL.val (by kernel_rfl) (.bool false) (by go_simp) ?_
  simp only [Act.put, pqA, pqB, pqC]
  refine WL.val (by kernel_rfl) (.pointer (some ⟨d, 0, none⟩)) (by go_simp) ?_
  simp only [Act.put, pqA, pqB, pqC]
  refine WL.val (by kernel_rfl) (.pointer (some ⟨w.heap.size, 2, none⟩)) (by go_simp) ?_
  simp only [Act.put, pqA, pqB, pqC]
  refine WL.val (by kernel_rfl) (.pointer (some ⟨w.heap.size, 2, none⟩)) (by go_simp) ?_
  simp only [Act.put, pqA, pqB, pqC]
  refine WL.midA (by kernel_rfl) 36 (.tmp 99) rfl w.heap.size 2 rfl (bytesA 32 op.q.1.id.f) _ (vtx_id (opA_v (hoo.out ▸ blk_rng HX3.out))) Try.underlying36 rfl (Try.size36B _) ?_
  simp only [Act.put, pqA, pqB, pqC]
  have hws := waits_any d op.q.1.id (DgS d g) g w3 HD3.out.at'
  rw [show (g.wait.find? (isV op.q.1.id)).isSome = false from HB2.out] at hws
  refine WL.callF (by kernel_rfl) 47 _ _ rfl Try.in47 #[ptr d, .agg (bytesA 32 op.q.1.id.f)] (by simp [Act.eval]) ?_
  refine (hws).mono ?_
  rintro e w4 ⟨rfl, hz⟩
  refine ⟨_, rfl, ?_⟩
  clear hws
  have HX4 := Keep.mk (HX3.out.below hz HX3.out.lt)
  have HD4 := Keep.mk (HD3.out.below hz)
  have LB4 := Keep.mk (belowT LB3.out hz)
  clear hz HX3 HD3 LB3
  simp only [Act.put, pqA, pqB, pqC]
  refine WL.val (by kernel_rfl) (.bool false) (by go_simp) ?_
  simp only [Act.put, pqA, pqB, pqC]
  refine WL.val (by kernel_rfl) (.bool false) (by go_simp) ?_
  simp only [Act.put, pqA, pqB, pqC]
  refine WL.nil ?_
  refine hK8 _ _ ?_
  refine wp_seq_k fun K9 hK9 => ?_
  refine wp_region_list (WL.out ?_)
  refine WL.val (by kernel_rfl) (.pointer (some ⟨d, 0, none⟩)) (by go_simp) ?_
  simp only [Act.put, pqA, pqB, pqC]
  refine WL.val (by kernel_rfl) (.pointer (some ⟨w.heap.size, 2, none⟩)) (by go_simp) ?_
  simp only [Act.put, pqA, pqB, pqC]
  refine WL.midA (by kernel_rfl) 39 (.tmp 105) rfl w.heap.size 2 rfl vv _ (by rw [hvv.out]; exact opA_v (hoo.out ▸ blk_rng HX4.out)) Try.underlying39 rfl (by rw [hvv.out]; exact Try.info39s _ _ _) ?_
  simp only [Act.put, pqA, pqB, pqC]
  have had := add_any d op.q.1 op.q.2 (DgS d g) g w4 HD4.out.at' HD4.out.di (HR.out.below LB4.out) HL.out
  rw [HFt.out, ← hvv.out] at had
  refine WL.callF (by kernel_rfl) 17 _ _ rfl Try.in17 #[ptr d, .agg vv] (by simp [Act.eval]) ?_
  refine (had).mono ?_
  rintro e w9 ⟨u9, g9, ol, rfl, hs, hi, hg, ho, hn⟩
  refine ⟨_, rfl, ?_⟩
  clear had
  have HS9 := Keep.mk (hs.ds hi HD4.out (Nat.le_trans HB.out LB4.out.size))
  have HG9 := Keep.mk hg
  have HX9 := Keep.mk (hs.grown.blk HX4.out fun e => by have := HD.out.at'.lt _ (HD.out.at'.av _ e); omega)
  have HO9 := Keep.mk ho
  obtain ⟨ua, uc, hu9⟩ := ho.sl
  subst hu9
  have B9 : Keep (Below B0 w w9) := ⟨(LB4.out.mono HB.out).trans HS9.out.2⟩
  have GR9 := Keep.mk ((Grown.below (S := DgS d g) LB4.out).trans hs.grown)
  have SB9 : Keep (∀ k, DgS d g9 k → DgS d g k ∨ w.heap.size ≤ k) := ⟨fun k hk => (hs.sub k hk).imp id fun h => Nat.le_trans LB4.out.size h⟩
  clear hs hi hg ho hn
  have hsm := add_same HFt.out (by decide) (by decide) HG9.out
  have hol : ol.length = 0 := by rw [hsm.2]; rfl
  have hol' : (ol.length : Int) = 0 := by omega
  have hge : g9.held.length = g.held.length := by rw [hsm.1]
  clear hsm
  simp only [Act.put, pqA, pqB, pqC]
  refine WL.val (by kernel_rfl) (.tuple #[.int .i64 0, .slice ua ol.length uc, .int .i64 ee]) (by go_simp) ?_
  simp only [Act.put, pqA, pqB, pqC]
  refine WL.val (by kernel_rfl) (.int .i64 0) (by go_simp) ?_
  simp only [Act.put, pqA, pqB, pqC]
  refine WL.val (by kernel_rfl) (.slice ua ol.length uc) (by go_simp) ?_
  simp only [Act.put, pqA, pqB, pqC]
  refine WL.val (by kernel_rfl) (.int .i64 ee) (by go_simp) ?_
  simp only [Act.put, pqA, pqB, pqC]
  refine WL.val (by kernel_rfl) (.int .i64 0) (by go_simp) ?_
  simp only [Act.put, pqA, pqB, pqC]
  refine WL.val (by kernel_rfl) (.slice ua ol.length uc) (by go_simp) ?_
  simp only [Act.put, pqA, pqB, pqC]
  refine WL.val (by kernel_rfl) (.int .i64 ee) (by go_simp) ?_
  simp only [Act.put, pqA, pqB, pqC]
  refine WL.nil ?_
  refine hK9 _ _ ?_
  refine wp_seq_k fun K10 hK10 => ?_
  refine wp_seq_k fun K11 hK11 => ?_
  refine wp_region_list (WL.out ?_)
  refine WL.val (by kernel_rfl) (.int .i64 0) (by go_simp) ?_
  simp only [Act.put, pqA, pqB, pqC]
  refine WL.val (by kernel_rfl) (.int .i64 0) (by go_simp) ?_
  simp only [Act.put, pqA, pqB, pqC]
  refine WL.val (by kernel_rfl) (.bool false) (by go_simp) ?_
  simp only [Act.put, pqA, pqB, pqC]
  refine WL.val (by kernel_rfl) (.bool false) (by go_simp) ?_
  simp only [Act.put, pqA, pqB, pqC]
  refine WL.val (by kernel_rfl) (.int .i64 ee) (by go_simp) ?_
  simp only [Act.put, pqA, pqB, pqC]
  refine WL.val (by kernel_rfl) (.int .i64 ee) (by go_simp) ?_
  simp only [Act.put, pqA, pqB, pqC]
  refine WL.val (by kernel_rfl) (.bool false) (by go_simp) ?_
  simp only [Act.put, pqA, pqB, pqC]
  refine WL.val (by kernel_rfl) (.bool false) (by go_simp) ?_
  simp only [Act.put, pqA, pqB, pqC]
  refine WL.val (by kernel_rfl) (.bool false) (by go_simp) ?_
  simp only [Act.put, pqA, pqB, pqC]
  refine WL.val (by kernel_rfl) (.int .i64 0) (by go_simp) ?_
  simp only [Act.put, pqA, pqB, pqC]
  refine WL.val (by kernel_rfl) (.bool false) (by go_simp) ?_
  simp only [Act.put, pqA, pqB, pqC]
  refine WL.val (by kernel_rfl) (.bool false) (by go_simp) ?_
  simp only [Act.put, pqA, pqB, pqC]
  refine WL.val (by kernel_rfl) (.bool false) (by go_simp) ?_
  simp only [Act.put, pqA, pqB, pqC]
  refine WL.val (by kernel_rfl) (.bool false) (by go_simp) ?_
  simp only [Act.put, pqA, pqB, pqC]
  refine WL.val (by kernel_rfl) (.bool false) (by go_simp) ?_
  simp only [Act.put, pqA, pqB, pqC]
  refine WL.val (by kernel_rfl) (.int .i64 ee) (by go_simp) ?_
  simp only [Act.put, pqA, pqB, pqC]
  refine WL.val (by kernel_rfl) (.bool true) (by go_simp) ?_
  simp only [Act.put, pqA, pqB, pqC]
  refine WL.val (by kernel_rfl) (.bool true) (by go_simp) ?_
  simp only [Act.put, pqA, pqB, pqC]
  refine WL.val (by kernel_rfl) (.int .i64 0) (by go_simp) ?_
  simp only [Act.put, pqA, pqB, pqC]
  refine WL.val (by kernel_rfl) (.bool false) (by go_simp) ?_
  simp only [Act.put, pqA, pqB, pqC]
  refine WL.val (by kernel_rfl) (.bool false) (by go_simp) ?_
  simp only [Act.put, pqA, pqB, pqC]
  refine WL.val (by kernel_rfl) (.slice ua ol.length uc) (by go_simp) ?_
  simp only [Act.put, pqA, pqB, pqC]
  refine WL.val (by kernel_rfl) (.int .i64 (ol.length : Int)) (by go_simp) ?_
  simp only [Act.put, pqA, pqB, pqC]
  refine WL.val (by kernel_rfl) (.bool false) (by go_simp) ?_
  simp only [Act.put, pqA, pqB, pqC]
  refine WL.val (by kernel_rfl) (.bool false) (by go_simp) ?_
  simp only [Act.put, pqA, pqB, pqC]
  refine WL.val (by kernel_rfl) (.bool false) (by go_simp) ?_
  simp only [Act.put, pqA, pqB, pqC]
  refine WL.val (by kernel_rfl) (.bool false) (by go_simp) ?_
  simp only [Act.put, pqA, pqB, pqC]
  refine WL.nil ?_
  refine hK11 _ _ ?_
  refine wp_cond_false rfl ?_
  refine wp_skip ?_
  refine hK10 _ _ ?_
  refine wp_seq_k fun K12 hK12 => ?_
  refine wp_seq_k fun K13 hK13 => ?_
  refine wp_region_list (WL.out ?_)
  refine WL.val (by kernel_rfl) (.int .i64 0) (by go_simp) ?_
  simp only [Act.put, pqA, pqB, pqC]
  refine WL.nil ?_
  refine hK13 _ _ ?_
  refine wp_block ?_
  refine wp_seq_k fun K14 hK14 => ?_
  refine wp_region_list (WL.out ?_)
  refine WL.val (by kernel_rfl) (.bool false) (by go_simp) ?_
  simp only [Act.put, pqA, pqB, pqC]
  refine WL.val (by kernel_rfl) (.bool false) (by go_simp) ?_
  simp only [Act.put, pqA, pqB, pqC]
  refine WL.nil ?_
  refine hK14 _ _ ?_
  refine wp_cond_false rfl ?_
  refine wp_seq_k fun K15 hK15 => ?_
  refine wp_region_list (WL.out ?_)
  refine WL.val (by kernel_rfl) (.bool false) (by go_simp) ?_
  simp only [Act.put, pqA, pqB, pqC]
  refine WL.val (by kernel_rfl) (.bool false) (by go_simp) ?_
  simp only [Act.put, pqA, pqB, pqC]
  refine WL.nil ?_
  refine hK15 _ _ ?_
  refine wp_cond_false rfl ?_
  refine wp_skip ?_
  refine hK12 _ _ ?_
  refine wp_seq_k fun K16 hK16 => ?_
  refine wp_region_list (WL.out ?_)
  refine WL.val (by kernel_rfl) (.pointer (some ⟨d, 0, none⟩)) (by go_simp) ?_
  simp only [Act.put, pqA, pqB, pqC]
  refine WL.callF (by kernel_rfl) 36 _ _ rfl Try.in36 #[ptr d] (by simp [Act.eval]) ?_
  refine (dlen_any d (DgS d g9) g9 w9 HS9.out.1.at').mono ?_
  rintro e wq ⟨rfl, hq⟩
  refine ⟨_, rfl, ?_⟩
  obtain rfl : w9 = wq := hq.symm
  simp only [Act.put, pqA, pqB, pqC]
  refine WL.val (by kernel_rfl) (.int .i64 (g.held.length : Int)) (by go_simp) ?_
  simp only [Act.put, pqA, pqB, pqC]
  refine WL.val (by kernel_rfl) (.bool true) (by go_simp) ?_
  simp only [Act.put, pqA, pqB, pqC]
  refine WL.val (by kernel_rfl) (.bool true) (by go_simp) ?_
  simp only [Act.put, pqA, pqB, pqC]
  refine WL.val (by kernel_rfl) (.slice ua ol.length uc) (by go_simp) ?_
  simp only [Act.put, pqA, pqB, pqC]
  refine WL.val (by kernel_rfl) (.int .i64 (ol.length : Int)) (by go_simp) ?_
  simp only [Act.put, pqA, pqB, pqC]
  refine WL.val (by kernel_rfl) (.bool true) (by go_simp) ?_
  simp only [Act.put, pqA, pqB, pqC]
  refine WL.val (by kernel_rfl) (.bool true) (by go_simp) ?_
  simp only [Act.put, pqA, pqB, pqC]
  refine WL.val (by kernel_rfl) (.bool true) (by go_simp) ?_
  simp only [Act.put, pqA, pqB, pqC]
  refine WL.nil ?_
  refine hK16 _ _ ?_
  refine wp_ret ?_
  go_ret
  exact ⟨g9, rfl, HS9.out.1, B9.out, grw_add HG9.out, GR9.out, SB9.out⟩
set_option maxRecDepth 8000 in
set_option maxHeartbeats 4000000 in
theorem do_took (B0 d : Nat) (op : OP) (g : DG) (w : World) (hD : DS B0 w d g) (hB : B0 ≤ w.heap.size) (hk : op.k ≠ 5 ∧ op.k ≠ 6) (hr : HRow w op.q.2 op.q.1.ps) (hL : (op.q.1.ps.length : Int) ≤ 9223372036854775806) (hFt : fitV g.held g.wait op.q.1 = (2, 0)) (hb1 : hasB g.held op.q.1.id = false) (hb2 : hasB g.wait op.q.1.id = false) : Calls Try.prog 20 #[ptr d, .agg (opA op)] w (DoPost B0 w d g) := by
  have HD := Keep.mk hD
  have HB := Keep.mk hB
  obtain ⟨oo, hoo⟩ : ∃ a : Array Value, Keep (a = opA op) := ⟨_, ⟨rfl⟩⟩
  rw [← hoo.out]
  have HK := Keep.mk hk
  have HR := Keep.mk hr
  have HL := Keep.mk hL
  have HFt := Keep.mk hFt
  obtain ⟨vv, hvv⟩ : ∃ a : Array Value, Keep (a = vtx op.q.1.id.f op.q.1.ck op.q.2) := ⟨_, ⟨rfl⟩⟩
  have HB1 : Keep (hasB g.held op.q.1.id = false) := ⟨hb1⟩
  have HB2 : Keep (hasB g.wait op.q.1.id = false) := ⟨hb2⟩
  clear hb1 hb2
  clear hk hr hL hFt
  clear hD hB
  go_enter Try.func20, Try.ntmps20
  refine wp_seq_k fun K1 hK1 => ?_
  refine wp_region_list (WL.out ?_)
  refine WL.box (by kernel_rfl) 41 (.tmp 1) rfl (oo) rfl ?_
  obtain ⟨w1, hwn⟩ : ∃ wx, Keep (wx = w.alloc (.cells (oo) 41)) := ⟨_, ⟨rfl⟩⟩
  rw [← hwn.out]
  have HX1 : Keep (Blk w1 w.heap.size 41 (oo)) := ⟨by rw [hwn.out]; exact Blk.new _ _ _⟩
  have LB1 : Keep (Below w.heap.size w w1) := ⟨by rw [hwn.out]; exact below_new _ _⟩
  clear hwn
  have HD1 := Keep.mk (HD.out.below LB1.out)
  have c0 : w1.cell? ⟨w.heap.size, 0, none⟩ = some (.int .i64 op.k) := opA_k (hoo.out ▸ blk_rng HX1.out)
  have hk5 := HK.out.1
  have hk6 := HK.out.2
  simp only [Act.put, pqA, pqB, pqC]
  refine WL.val (by kernel_rfl) (.bool false) (by go_simp) ?_
  simp only [Act.put, pqA, pqB, pqC]
  refine WL.nil ?_
  refine hK1 _ _ ?_
  refine wp_seq_k fun K2 hK2 => ?_
  refine wp_seq_k fun K3 hK3 => ?_
  refine wp_region_list (WL.out ?_)
  refine WL.val (by kernel_rfl) (.pointer (some ⟨w.heap.size, 0, none⟩)) (by go_simp) ?_
  simp only [Act.put, pqA, pqB, pqC]
  refine WL.val (by kernel_rfl) (.int .i64 op.k) (by go_simp) ?_
  simp only [Act.put, pqA, pqB, pqC]
  refine WL.nil ?_
  refine hK3 _ _ ?_
  refine wp_block ?_
  refine wp_seq_k fun K4 hK4 => ?_
  refine wp_region_list (WL.out ?_)
  refine WL.val (by kernel_rfl) (.bool false) (by go_simp) ?_
  simp only [Act.put, pqA, pqB, pqC]
  refine WL.val (by kernel_rfl) (.bool false) (by go_simp) ?_
  simp only [Act.put, pqA, pqB, pqC]
  refine WL.nil ?_
  refine hK4 _ _ ?_
  refine wp_cond_false rfl ?_
  refine wp_seq_k fun K5 hK5 => ?_
  refine wp_region_list (WL.out ?_)
  refine WL.val (by kernel_rfl) (.bool false) (by go_simp) ?_
  simp only [Act.put, pqA, pqB, pqC]
  refine WL.val (by kernel_rfl) (.bool false) (by go_simp) ?_
  simp only [Act.put, pqA, pqB, pqC]
  refine WL.nil ?_
  refine hK5 _ _ ?_
  refine wp_cond_false rfl ?_
  refine wp_skip ?_
  refine hK2 _ _ ?_
  refine wp_seq_k fun K6 hK6 => ?_
  refine wp_region_list (WL.out ?_)
  refine WL.val (by kernel_rfl) (.pointer (some ⟨d, 0, none⟩)) (by go_simp) ?_
  simp only [Act.put, pqA, pqB, pqC]
  clear c0
  refine WL.callF (by kernel_rfl) 36 _ _ rfl Try.in36 #[ptr d] (by simp [Act.eval]) ?_
  refine (dlen_any d (DgS d g) g w1 HD1.out.at').mono ?_
  rintro e wq ⟨rfl, hq⟩
  refine ⟨_, rfl, ?_⟩
  obtain rfl : w1 = wq := hq.symm
  simp only [Act.put, pqA, pqB, pqC]
  refine WL.val (by kernel_rfl) (.int .i64 (g.held.length : Int)) (by go_simp) ?_
  simp only [Act.put, pqA, pqB, pqC]
  refine WL.nil ?_
  refine hK6 _ _ ?_
  refine wp_seq_k fun K7 hK7 => ?_
  refine wp_region_list (WL.out ?_)
  refine WL.val (by kernel_rfl) (.pointer (some ⟨d, 0, none⟩)) (by go_simp) ?_
  simp only [Act.put, pqA, pqB, pqC]
  refine WL.val (by kernel_rfl) (.pointer (some ⟨w.heap.size, 2, none⟩)) (by go_simp) ?_
  simp only [Act.put, pqA, pqB, pqC]
  refine WL.midA (by kernel_rfl) 39 (.tmp 86) rfl w.heap.size 2 rfl vv _ (by rw [hvv.out]; exact opA_v (hoo.out ▸ blk_rng HX1.out)) Try.underlying39 rfl (by rw [hvv.out]; exact Try.info39s _ _ _) ?_
  simp only [Act.put, pqA, pqB, pqC]
  have hft := fit_any d op.q.1 op.q.2 (DgS d g) g w1 HD1.out.at' (HR.out.below LB1.out) HD1.out.di.hM HL.out
  rw [HFt.out, ← hvv.out] at hft
  refine WL.callF (by kernel_rfl) 28 _ _ rfl Try.in28 #[ptr d, .agg vv] (by simp [Act.eval]) ?_
  refine (hft).mono ?_
  rintro e w2 ⟨rfl, hz⟩
  refine ⟨_, rfl, ?_⟩
  clear hft
  have HX2 := Keep.mk (HX1.out.below hz HX1.out.lt)
  have HD2 := Keep.mk (HD1.out.below hz)
  have LB2 := Keep.mk (belowT LB1.out hz)
  clear hz HX1 HD1 LB1
  simp only [Act.put, pqA, pqB, pqC]
  refine WL.val (by kernel_rfl) (.tuple #[.int .i64 2, .int .i64 0]) (by go_simp) ?_
  simp only [Act.put, pqA, pqB, pqC]
  refine WL.val (by kernel_rfl) (.int .i64 2) (by go_simp) ?_
  simp only [Act.put, pqA, pqB, pqC]
  refine WL.val (by kernel_rfl) (.int .i64 0) (by go_simp) ?_
  simp only [Act.put, pqA, pqB, pqC]
  refine WL.val (by kernel_rfl) (.int .i64 2) (by go_simp) ?_
  simp only [Act.put, pqA, pqB, pqC]
  refine WL.val (by kernel_rfl) (.int .i64 0) (by go_simp) ?_
  simp only [Act.put, pqA, pqB, pqC]
  refine WL.nil ?_
  refine hK7 _ _ ?_
  refine wp_seq_k fun K8 hK8 => ?_
  refine wp_region_list (WL.out ?_)
  refine WL.val (by kernel_rfl) (.pointer (some ⟨d, 0, none⟩)) (by go_simp) ?_
  simp only [Act.put, pqA, pqB, pqC]
  refine WL.val (by kernel_rfl) (.pointer (some ⟨w.heap.size, 2, none⟩)) (by go_simp) ?_
  simp only [Act.put, pqA, pqB, pqC]
  refine WL.val (by kernel_rfl) (.pointer (some ⟨w.heap.size, 2, none⟩)) (by go_simp) ?_
  simp only [Act.put, pqA, pqB, pqC]
  refine WL.midA (by kernel_rfl) 36 (.tmp 93) rfl w.heap.size 2 rfl (bytesA 32 op.q.1.id.f) _ (vtx_id (opA_v (hoo.out ▸ blk_rng HX2.out))) Try.underlying36 rfl (Try.size36B _) ?_
  simp only [Act.put, pqA, pqB, pqC]
  have hhs := has_any d op.q.1.id (DgS d g) g w2 HD2.out.at'
  rw [show (g.held.find? (isV op.q.1.id)).isSome = false from HB1.out] at hhs
  refine WL.callF (by kernel_rfl) 45 _ _ rfl Try.in45 #[ptr d, .agg (bytesA 32 op.q.1.id.f)] (by simp [Act.eval]) ?_
  refine (hhs).mono ?_
  rintro e w3 ⟨rfl, hz⟩
  refine ⟨_, rfl, ?_⟩
  clear hhs
  have HX3 := Keep.mk (HX2.out.below hz HX2.out.lt)
  have HD3 := Keep.mk (HD2.out.below hz)
  have LB3 := Keep.mk (belowT LB2.out hz)
  clear hz HX2 HD2 LB2
  simp only [Act.put, pqA, pqB, pqC]
  refine WL.val (by kernel_rfl) (.bool false) (by go_simp) ?_
  simp only [Act.put, pqA, pqB, pqC]
  refine WL.val (by kernel_rfl) (.pointer (some ⟨d, 0, none⟩)) (by go_simp) ?_
  simp only [Act.put, pqA, pqB, pqC]
  refine WL.val (by kernel_rfl) (.pointer (some ⟨w.heap.size, 2, none⟩)) (by go_simp) ?_
  simp only [Act.put, pqA, pqB, pqC]
  refine WL.val (by kernel_rfl) (.pointer (some ⟨w.heap.size, 2, none⟩)) (by go_simp) ?_
  simp only [Act.put, pqA, pqB, pqC]
  refine WL.midA (by kernel_rfl) 36 (.tmp 99) rfl w.heap.size 2 rfl (bytesA 32 op.q.1.id.f) _ (vtx_id (opA_v (hoo.out ▸ blk_rng HX3.out))) Try.underlying36 rfl (Try.size36B _) ?_
  simp only [Act.put, pqA, pqB, pqC]
  have hws := waits_any d op.q.1.id (DgS d g) g w3 HD3.out.at'
  rw [show (g.wait.find? (isV op.q.1.id)).isSome = false from HB2.out] at hws
  refine WL.callF (by kernel_rfl) 47 _ _ rfl Try.in47 #[ptr d, .agg (bytesA 32 op.q.1.id.f)] (by simp [Act.eval]) ?_
  refine (hws).mono ?_
  rintro e w4 ⟨rfl, hz⟩
  refine ⟨_, rfl, ?_⟩
  clear hws
  have HX4 := Keep.mk (HX3.out.below hz HX3.out.lt)
  have HD4 := Keep.mk (HD3.out.below hz)
  have LB4 := Keep.mk (belowT LB3.out hz)
  clear hz HX3 HD3 LB3
  simp only [Act.put, pqA, pqB, pqC]
  refine WL.val (by kernel_rfl) (.bool false) (by go_simp) ?_
  simp only [Act.put, pqA, pqB, pqC]
  refine WL.val (by kernel_rfl) (.bool false) (by go_simp) ?_
  simp only [Act.put, pqA, pqB, pqC]
  refine WL.nil ?_
  refine hK8 _ _ ?_
  refine wp_seq_k fun K9 hK9 => ?_
  refine wp_region_list (WL.out ?_)
  refine WL.val (by kernel_rfl) (.pointer (some ⟨d, 0, none⟩)) (by go_simp) ?_
  simp only [Act.put, pqA, pqB, pqC]
  refine WL.val (by kernel_rfl) (.pointer (some ⟨w.heap.size, 2, none⟩)) (by go_simp) ?_
  simp only [Act.put, pqA, pqB, pqC]
  refine WL.midA (by kernel_rfl) 39 (.tmp 105) rfl w.heap.size 2 rfl vv _ (by rw [hvv.out]; exact opA_v (hoo.out ▸ blk_rng HX4.out)) Try.underlying39 rfl (by rw [hvv.out]; exact Try.info39s _ _ _) ?_
  simp only [Act.put, pqA, pqB, pqC]
  have had := add_any d op.q.1 op.q.2 (DgS d g) g w4 HD4.out.at' HD4.out.di (HR.out.below LB4.out) HL.out
  rw [HFt.out, ← hvv.out] at had
  refine WL.callF (by kernel_rfl) 17 _ _ rfl Try.in17 #[ptr d, .agg vv] (by simp [Act.eval]) ?_
  refine (had).mono ?_
  rintro e w9 ⟨u9, g9, ol, rfl, hs, hi, hg, ho, hn⟩
  refine ⟨_, rfl, ?_⟩
  clear had
  have HS9 := Keep.mk (hs.ds hi HD4.out (Nat.le_trans HB.out LB4.out.size))
  have HG9 := Keep.mk hg
  have HX9 := Keep.mk (hs.grown.blk HX4.out fun e => by have := HD.out.at'.lt _ (HD.out.at'.av _ e); omega)
  have HO9 := Keep.mk ho
  obtain ⟨ua, uc, hu9⟩ := ho.sl
  subst hu9
  have B9 : Keep (Below B0 w w9) := ⟨(LB4.out.mono HB.out).trans HS9.out.2⟩
  have GR9 := Keep.mk ((Grown.below (S := DgS d g) LB4.out).trans hs.grown)
  have SB9 : Keep (∀ k, DgS d g9 k → DgS d g k ∨ w.heap.size ≤ k) := ⟨fun k hk => (hs.sub k hk).imp id fun h => Nat.le_trans LB4.out.size h⟩
  clear hs hi hg ho hn
  have hsm := add_two HFt.out HG9.out
  have hol : ol.length = 0 := by rw [hsm.2]; rfl
  have hol' : (ol.length : Int) = 0 := by omega
  have hge : g9.held.length = g.held.length + 1 := by rw [hsm.1.2.1]; simp
  have hw1 : IntKind.i64.wrap ((g.held.length : Int) + 1) = ((g.held.length + 1 : Nat) : Int) := by rw [IntKind.wrap_i64]; have := HD.out.di.hl; omega
  have HH9 : Keep (hasB g9.held op.q.1.id = true) := ⟨by rw [hsm.1.2.1, hasB_app, hasB_one.2 rfl, Bool.or_true]⟩
  clear hsm
  simp only [Act.put, pqA, pqB, pqC]
  refine WL.val (by kernel_rfl) (.tuple #[.int .i64 2, .slice ua ol.length uc, .int .i64 0]) (by go_simp) ?_
  simp only [Act.put, pqA, pqB, pqC]
  refine WL.val (by kernel_rfl) (.int .i64 2) (by go_simp) ?_
  simp only [Act.put, pqA, pqB, pqC]
  refine WL.val (by kernel_rfl) (.slice ua ol.length uc) (by go_simp) ?_
  simp only [Act.put, pqA, pqB, pqC]
  refine WL.val (by kernel_rfl) (.int .i64 0) (by go_simp) ?_
  simp only [Act.put, pqA, pqB, pqC]
  refine WL.val (by kernel_rfl) (.int .i64 2) (by go_simp) ?_
  simp only [Act.put, pqA, pqB, pqC]
  refine WL.val (by kernel_rfl) (.slice ua ol.length uc) (by go_simp) ?_
  simp only [Act.put, pqA, pqB, pqC]
  refine WL.val (by kernel_rfl) (.int .i64 0) (by go_simp) ?_
  simp only [Act.put, pqA, pqB, pqC]
  refine WL.nil ?_
  refine hK9 _ _ ?_
  refine wp_seq_k fun K10 hK10 => ?_
  refine wp_seq_k fun K11 hK11 => ?_
  refine wp_region_list (WL.out ?_)
  refine WL.val (by kernel_rfl) (.int .i64 2) (by go_simp) ?_
  simp only [Act.put, pqA, pqB, pqC]
  refine WL.val (by kernel_rfl) (.int .i64 2) (by go_simp) ?_
  simp only [Act.put, pqA, pqB, pqC]
  refine WL.val (by kernel_rfl) (.bool false) (by go_simp) ?_
  simp only [Act.put, pqA, pqB, pqC]
  refine WL.val (by kernel_rfl) (.bool false) (by go_simp) ?_
  simp only [Act.put, pqA, pqB, pqC]
  refine WL.val (by kernel_rfl) (.int .i64 0) (by go_simp) ?_
  simp only [Act.put, pqA, pqB, pqC]
  refine WL.val (by kernel_rfl) (.int .i64 0) (by go_simp) ?_
  simp only [Act.put, pqA, pqB, pqC]
  refine WL.val (by kernel_rfl) (.bool false) (by go_simp) ?_
  simp only [Act.put, pqA, pqB, pqC]
  refine WL.val (by kernel_rfl) (.bool false) (by go_simp) ?_
  simp only [Act.put, pqA, pqB, pqC]
  refine WL.val (by kernel_rfl) (.bool false) (by go_simp) ?_
  simp only [Act.put, pqA, pqB, pqC]
  refine WL.val (by kernel_rfl) (.int .i64 2) (by go_simp) ?_
  simp only [Act.put, pqA, pqB, pqC]
  refine WL.val (by kernel_rfl) (.bool false) (by go_simp) ?_
  simp only [Act.put, pqA, pqB, pqC]
  refine WL.val (by kernel_rfl) (.bool false) (by go_simp) ?_
  simp only [Act.put, pqA, pqB, pqC]
  refine WL.val (by kernel_rfl) (.bool false) (by go_simp) ?_
  simp only [Act.put, pqA, pqB, pqC]
  refine WL.val (by kernel_rfl) (.bool false) (by go_simp) ?_
  simp only [Act.put, pqA, pqB, pqC]
  refine WL.val (by kernel_rfl) (.bool false) (by go_simp) ?_
  simp only [Act.put, pqA, pqB, pqC]
  refine WL.val (by kernel_rfl) (.int .i64 0) (by go_simp) ?_
  simp only [Act.put, pqA, pqB, pqC]
  refine WL.val (by kernel_rfl) (.bool false) (by go_simp) ?_
  simp only [Act.put, pqA, pqB, pqC]
  refine WL.val (by kernel_rfl) (.bool false) (by go_simp) ?_
  simp only [Act.put, pqA, pqB, pqC]
  refine WL.skip (by kernel_rfl) ?_
  simp only [Act.put, pqA, pqB, pqC]
  refine WL.skip (by kernel_rfl) ?_
  simp only [Act.put, pqA, pqB, pqC]
  refine WL.skip (by kernel_rfl) ?_
  simp only [Act.put, pqA, pqB, pqC]
  refine WL.skip (by kernel_rfl) ?_
  simp only [Act.put, pqA, pqB, pqC]
  refine WL.skip (by kernel_rfl) ?_
  simp only [Act.put, pqA, pqB, pqC]
  refine WL.skip (by kernel_rfl) ?_
  simp only [Act.put, pqA, pqB, pqC]
  refine WL.skip (by kernel_rfl) ?_
  simp only [Act.put, pqA, pqB, pqC]
  refine WL.val (by kernel_rfl) (.bool false) (by go_simp) ?_
  simp only [Act.put, pqA, pqB, pqC]
  refine WL.val (by kernel_rfl) (.bool false) (by go_simp) ?_
  simp only [Act.put, pqA, pqB, pqC]
  refine WL.nil ?_
  refine hK11 _ _ ?_
  refine wp_cond_false rfl ?_
  refine wp_skip ?_
  refine hK10 _ _ ?_
  refine wp_seq_k fun K12 hK12 => ?_
  refine wp_seq_k fun K13 hK13 => ?_
  refine wp_region_list (WL.out ?_)
  refine WL.val (by kernel_rfl) (.int .i64 2) (by go_simp) ?_
  simp only [Act.put, pqA, pqB, pqC]
  refine WL.nil ?_
  refine hK13 _ _ ?_
  refine wp_block ?_
  refine wp_seq_k fun K14 hK14 => ?_
  refine wp_region_list (WL.out ?_)
  refine WL.val (by kernel_rfl) (.bool true) (by go_simp) ?_
  simp only [Act.put, pqA, pqB, pqC]
  refine WL.val (by kernel_rfl) (.bool true) (by go_simp) ?_
  simp only [Act.put, pqA, pqB, pqC]
  refine WL.nil ?_
  refine hK14 _ _ ?_
  refine wp_cond_true rfl ?_
  refine wp_seq_k fun K15 hK15 => ?_
  refine wp_region_list (WL.out ?_)
  refine WL.val (by kernel_rfl) (.pointer (some ⟨d, 0, none⟩)) (by go_simp) ?_
  simp only [Act.put, pqA, pqB, pqC]
  refine WL.val (by kernel_rfl) (.pointer (some ⟨w.heap.size, 2, none⟩)) (by go_simp) ?_
  simp only [Act.put, pqA, pqB, pqC]
  refine WL.val (by kernel_rfl) (.pointer (some ⟨w.heap.size, 2, none⟩)) (by go_simp) ?_
  simp only [Act.put, pqA, pqB, pqC]
  refine WL.midA (by kernel_rfl) 36 (.tmp 143) rfl w.heap.size 2 rfl (bytesA 32 op.q.1.id.f) _ (vtx_id (opA_v (hoo.out ▸ blk_rng HX9.out))) Try.underlying36 rfl (Try.size36B _) ?_
  simp only [Act.put, pqA, pqB, pqC]
  have hhs := has_any d op.q.1.id (DgS d g9) g9 w9 HS9.out.1.at'
  rw [show (g9.held.find? (isV op.q.1.id)).isSome = true from HH9.out] at hhs
  refine WL.callF (by kernel_rfl) 45 _ _ rfl Try.in45 #[ptr d, .agg (bytesA 32 op.q.1.id.f)] (by simp [Act.eval]) ?_
  refine (hhs).mono ?_
  rintro e w10 ⟨rfl, hz⟩
  refine ⟨_, rfl, ?_⟩
  clear hhs
  have HS10 := Keep.mk (HS9.out.1.below hz)
  have B10 : Keep (Below B0 w w10) := ⟨B9.out.trans (below_cut hz (Nat.le_trans HB.out B9.out.size))⟩
  have BZ := Keep.mk hz
  clear hz
  simp only [Act.put, pqA, pqB, pqC]
  refine WL.val (by kernel_rfl) (.bool true) (by go_simp) ?_
  simp only [Act.put, pqA, pqB, pqC]
  refine WL.val (by kernel_rfl) (.pointer (some ⟨d, 0, none⟩)) (by go_simp) ?_
  simp only [Act.put, pqA, pqB, pqC]
  refine WL.callF (by kernel_rfl) 36 _ _ rfl Try.in36 #[ptr d] (by simp [Act.eval]) ?_
  refine (dlen_any d (DgS d g9) g9 w10 HS10.out.at').mono ?_
  rintro e wq ⟨rfl, hq⟩
  refine ⟨_, rfl, ?_⟩
  obtain rfl : w10 = wq := hq.symm
  simp only [Act.put, pqA, pqB, pqC]
  refine WL.val (by kernel_rfl) (.int .i64 (g.held.length : Int)) (by go_simp) ?_
  simp only [Act.put, pqA, pqB, pqC]
  refine WL.val (by kernel_rfl) (.int .i64 ((g.held.length + 1 : Nat) : Int)) (by go_simp) ?_
  simp only [Act.put, pqA, pqB, pqC]
  refine WL.val (by kernel_rfl) (.bool true) (by go_simp) ?_
  simp only [Act.put, pqA, pqB, pqC]
  refine WL.val (by kernel_rfl) (.bool true) (by go_simp) ?_
  simp only [Act.put, pqA, pqB, pqC]
  refine WL.val (by kernel_rfl) (.bool true) (by go_simp) ?_
  simp only [Act.put, pqA, pqB, pqC]
  refine WL.val (by kernel_rfl) (.slice ua ol.length uc) (by go_simp) ?_
  simp only [Act.put, pqA, pqB, pqC]
  refine WL.val (by kernel_rfl) (.int .i64 (ol.length : Int)) (by go_simp) ?_
  simp only [Act.put, pqA, pqB, pqC]
  refine WL.val (by kernel_rfl) (.bool true) (by go_simp) ?_
  simp only [Act.put, pqA, pqB, pqC]
  refine WL.val (by kernel_rfl) (.bool true) (by go_simp) ?_
  simp only [Act.put, pqA, pqB, pqC]
  refine WL.val (by kernel_rfl) (.bool true) (by go_simp) ?_
  simp only [Act.put, pqA, pqB, pqC]
  refine WL.nil ?_
  refine hK15 _ _ ?_
  refine wp_ret ?_
  go_ret
  exact ⟨g9, rfl, HS10.out, B10.out, grw_add HG9.out, GR9.out.trans (Grown.below BZ.out), SB9.out⟩
end Go.Proofs.Ytogmdfhicbmplaa
namespace Go.Proofs.Ytogmdfhicbmplaa
open Go.RowKit
set_option linter.unusedSimpArgs false
set_option linter.unusedVariables false

set_option maxRecDepth 8000 in
set_option maxHeartbeats 4000000 in
theorem do_waits (B0 d : Nat) (op : OP) (g : DG) (w : World) (hD : DS B0 w d g) (hB : B0 ≤ w.heap.size) (hk : op.k ≠ 5 ∧ op.k ≠ 6) (hr : HRow w op.q.2 op.q.1.ps) (hL : (op.q.1.ps.length : Int) ≤ 9223372036854775806) (hFt : fitV g.held g.wait op.q.1 = (3, 0)) (hb1 : hasB g.held op.q.1.id = false) (hb2 : hasB g.wait op.q.1.id = false) : Calls Try.prog 20 #[ptr d, .agg (opA op)] w (DoPost B0 w d g) := by
  have HD := Keep.mk hD
  have HB := Keep.mk hB
  obtain ⟨oo, hoo⟩ : ∃ a : Array Value, Keep (a = opA op) := ⟨_, ⟨rfl⟩⟩
  rw [← hoo.out]
  have HK := Keep.mk hk
  have HR := Keep.mk hr
  have HL := Keep.mk hL
  have HFt := Keep.mk hFt
  obtain ⟨vv, hvv⟩ : ∃ a : Array Value, Keep (a = vtx op.q.1.id.f op.q.1.ck op.q.2) := ⟨_, ⟨rfl⟩⟩
  have HB1 : Keep (hasB g.held op.q.1.id = false) := ⟨hb1⟩
  have HB2 : Keep (hasB g.wait op.q.1.id = false) := ⟨hb2⟩
  clear hb1 hb2
  clear hk hr hL hFt
  clear hD hB
  go_enter Try.func20, Try.ntmps20
  refine wp_seq_k fun K1 hK1 => ?_
  refine wp_region_list (WL.out ?_)
  refine WL.box (by kernel_rfl) 41 (.tmp 1) rfl (oo) rfl ?_
  obtain ⟨w1, hwn⟩ : ∃ wx, Keep (wx = w.alloc (.cells (oo) 41)) := ⟨_, ⟨rfl⟩⟩
  rw [← hwn.out]
  have HX1 : Keep (Blk w1 w.heap.size 41 (oo)) := ⟨by rw [hwn.out]; exact Blk.new _ _ _⟩
  have LB1 : Keep (Below w.heap.size w w1) := ⟨by rw [hwn.out]; exact below_new _ _⟩
  clear hwn
  have HD1 := Keep.mk (HD.out.below LB1.out)
  have c0 : w1.cell? ⟨w.heap.size, 0, none⟩ = some (.int .i64 op.k) := opA_k (hoo.out ▸ blk_rng HX1.out)
  have hk5 := HK.out.1
  have hk6 := HK.out.2
  simp only [Act.put, pqA, pqB, pqC]
  refine WL.val (by kernel_rfl) (.bool false) (by go_simp) ?_
  simp only [Act.put, pqA, pqB, pqC]
  refine WL.nil ?_
  refine hK1 _ _ ?_
  refine wp_seq_k fun K2 hK2 => ?_
  refine wp_seq_k fun K3 hK3 => ?_
  refine wp_region_list (WL.out ?_)
  refine WL.val (by kernel_rfl) (.pointer (some ⟨w.heap.size, 0, none⟩)) (by go_simp) ?_
  simp only [Act.put, pqA, pqB, pqC]
  refine WL.val (by kernel_rfl) (.int .i64 op.k) (by go_simp) ?_
  simp only [Act.put, pqA, pqB, pqC]
  refine WL.nil ?_
  refine hK3 _ _ ?_
  refine wp_block ?_
  refine wp_seq_k fun K4 hK4 => ?_
  refine wp_region_list (WL.out ?_)
  refine WL.val (by kernel_rfl) (.bool false) (by go_simp) ?_
  simp only [Act.put, pqA, pqB, pqC]
  refine WL.val (by kernel_rfl) (.bool false) (by go_simp) ?_
  simp only [Act.put, pqA, pqB, pqC]
  refine WL.nil ?_
  refine hK4 _ _ ?_
  refine wp_cond_false rfl ?_
  refine wp_seq_k fun K5 hK5 => ?_
  refine wp_region_list (WL.out ?_)
  refine WL.val (by kernel_rfl) (.bool false) (by go_simp) ?_
  simp only [Act.put, pqA, pqB, pqC]
  refine WL.val (by kernel_rfl) (.bool false) (by go_simp) ?_
  simp only [Act.put, pqA, pqB, pqC]
  refine WL.nil ?_
  refine hK5 _ _ ?_
  refine wp_cond_false rfl ?_
  refine wp_skip ?_
  refine hK2 _ _ ?_
  refine wp_seq_k fun K6 hK6 => ?_
  refine wp_region_list (WL.out ?_)
  refine WL.val (by kernel_rfl) (.pointer (some ⟨d, 0, none⟩)) (by go_simp) ?_
  simp only [Act.put, pqA, pqB, pqC]
  clear c0
  refine WL.callF (by kernel_rfl) 36 _ _ rfl Try.in36 #[ptr d] (by simp [Act.eval]) ?_
  refine (dlen_any d (DgS d g) g w1 HD1.out.at').mono ?_
  rintro e wq ⟨rfl, hq⟩
  refine ⟨_, rfl, ?_⟩
  obtain rfl : w1 = wq := hq.symm
  simp only [Act.put, pqA, pqB, pqC]
  refine WL.val (by kernel_rfl) (.int .i64 (g.held.length : Int)) (by go_simp) ?_
  simp only [Act.put, pqA, pqB, pqC]
  refine WL.nil ?_
  refine hK6 _ _ ?_
  refine wp_seq_k fun K7 hK7 => ?_
  refine wp_region_list (WL.out ?_)
  refine WL.val (by kernel_rfl) (.pointer (some ⟨d, 0, none⟩)) (by go_simp) ?_
  simp only [Act.put, pqA, pqB, pqC]
  refine WL.val (by kernel_rfl) (.pointer (some ⟨w.heap.size, 2, none⟩)) (by go_simp) ?_
  simp only [Act.put, pqA, pqB, pqC]
  refine WL.midA (by kernel_rfl) 39 (.tmp 86) rfl w.heap.size 2 rfl vv _ (by rw [hvv.out]; exact opA_v (hoo.out ▸ blk_rng HX1.out)) Try.underlying39 rfl (by rw [hvv.out]; exact Try.info39s _ _ _) ?_
  simp only [Act.put, pqA, pqB, pqC]
  have hft := fit_any d op.q.1 op.q.2 (DgS d g) g w1 HD1.out.at' (HR.out.below LB1.out) HD1.out.di.hM HL.out
  rw [HFt.out, ← hvv.out] at hft
  refine WL.callF (by kernel_rfl) 28 _ _ rfl Try.in28 #[ptr d, .agg vv] (by simp [Act.eval]) ?_
  refine (hft).mono ?_
  rintro e w2 ⟨rfl, hz⟩
  refine ⟨_, rfl, ?_⟩
  clear hft
  have HX2 := Keep.mk (HX1.out.below hz HX1.out.lt)
  have HD2 := Keep.mk (HD1.out.below hz)
  have LB2 := Keep.mk (belowT LB1.out hz)
  clear hz HX1 HD1 LB1
  simp only [Act.put, pqA, pqB, pqC]
  refine WL.val (by kernel_rfl) (.tuple #[.int .i64 3, .int .i64 0]) (by go_simp) ?_
  simp only [Act.put, pqA, pqB, pqC]
  refine WL.val (by kernel_rfl) (.int .i64 3) (by go_simp) ?_
  simp only [Act.put, pqA, pqB, pqC]
  refine WL.val (by kernel_rfl) (.int .i64 0) (by go_simp) ?_
  simp only [Act.put, pqA, pqB, pqC]
  refine WL.val (by kernel_rfl) (.int .i64 3) (by go_simp) ?_
  simp only [Act.put, pqA, pqB, pqC]
  refine WL.val (by kernel_rfl) (.int .i64 0) (by go_simp) ?_
  simp only [Act.put, pqA, pqB, pqC]
  refine WL.nil ?_
  refine hK7 _ _ ?_
  refine wp_seq_k fun K8 hK8 => ?_
  refine wp_region_list (WL.out ?_)
  refine WL.val (by kernel_rfl) (.pointer (some ⟨d, 0, none⟩)) (by go_simp) ?_
  simp only [Act.put, pqA, pqB, pqC]
  refine WL.val (by kernel_rfl) (.pointer (some ⟨w.heap.size, 2, none⟩)) (by go_simp) ?_
  simp only [Act.put, pqA, pqB, pqC]
  refine WL.val (by kernel_rfl) (.pointer (some ⟨w.heap.size, 2, none⟩)) (by go_simp) ?_
  simp only [Act.put, pqA, pqB, pqC]
  refine WL.midA (by kernel_rfl) 36 (.tmp 93) rfl w.heap.size 2 rfl (bytesA 32 op.q.1.id.f) _ (vtx_id (opA_v (hoo.out ▸ blk_rng HX2.out))) Try.underlying36 rfl (Try.size36B _) ?_
  simp only [Act.put, pqA, pqB, pqC]
  have hhs := has_any d op.q.1.id (DgS d g) g w2 HD2.out.at'
  rw [show (g.held.find? (isV op.q.1.id)).isSome = false from HB1.out] at hhs
  refine WL.callF (by kernel_rfl) 45 _ _ rfl Try.in45 #[ptr d, .agg (bytesA 32 op.q.1.id.f)] (by simp [Act.eval]) ?_
  refine (hhs).mono ?_
  rintro e w3 ⟨rfl, hz⟩
  refine ⟨_, rfl, ?_⟩
  clear hhs
  have HX3 := Keep.mk (HX2.out.below hz HX2.out.lt)
  have HD3 := Keep.mk (HD2.out.below hz)
  have LB3 := Keep.mk (belowT LB2.out hz)
  clear hz HX2 HD2 LB2
  simp only [Act.put, pqA, pqB, pqC]
  refine WL.val (by kernel_rfl) (.bool false) (by go_simp) ?_
  simp only [Act.put, pqA, pqB, pqC]
  refine WL.val (by kernel_rfl) (.pointer (some ⟨d, 0, none⟩)) (by go_simp) ?_
  simp only [Act.put, pqA, pqB, pqC]
  refine WL.val (by kernel_rfl) (.pointer (some ⟨w.heap.size, 2, none⟩)) (by go_simp) ?_
  simp only [Act.put, pqA, pqB, pqC]
  refine WL.val (by kernel_rfl) (.pointer (some ⟨w.heap.size, 2, none⟩)) (by go_simp) ?_
  simp only [Act.put, pqA, pqB, pqC]
  refine WL.midA (by kernel_rfl) 36 (.tmp 99) rfl w.heap.size 2 rfl (bytesA 32 op.q.1.id.f) _ (vtx_id (opA_v (hoo.out ▸ blk_rng HX3.out))) Try.underlying36 rfl (Try.size36B _) ?_
  simp only [Act.put, pqA, pqB, pqC]
  have hws := waits_any d op.q.1.id (DgS d g) g w3 HD3.out.at'
  rw [show (g.wait.find? (isV op.q.1.id)).isSome = false from HB2.out] at hws
  refine WL.callF (by kernel_rfl) 47 _ _ rfl Try.in47 #[ptr d, .agg (bytesA 32 op.q.1.id.f)] (by simp [Act.eval]) ?_
  refine (hws).mono ?_
  rintro e w4 ⟨rfl, hz⟩
  refine ⟨_, rfl, ?_⟩
  clear hws
  have HX4 := Keep.mk (HX3.out.below hz HX3.out.lt)
  have HD4 := Keep.mk (HD3.out.below hz)
  have LB4 := Keep.mk (belowT LB3.out hz)
  clear hz HX3 HD3 LB3
  simp only [Act.put, pqA, pqB, pqC]
  refine WL.val (by kernel_rfl) (.bool false) (by go_simp) ?_
  simp only [Act.put, pqA, pqB, pqC]
  refine WL.val (by kernel_rfl) (.bool false) (by go_simp) ?_
  simp only [Act.put, pqA, pqB, pqC]
  refine WL.nil ?_
  refine hK8 _ _ ?_
  refine wp_seq_k fun K9 hK9 => ?_
  refine wp_region_list (WL.out ?_)
  refine WL.val (by kernel_rfl) (.pointer (some ⟨d, 0, none⟩)) (by go_simp) ?_
  simp only [Act.put, pqA, pqB, pqC]
  refine WL.val (by kernel_rfl) (.pointer (some ⟨w.heap.size, 2, none⟩)) (by go_simp) ?_
  simp only [Act.put, pqA, pqB, pqC]
  refine WL.midA (by kernel_rfl) 39 (.tmp 105) rfl w.heap.size 2 rfl vv _ (by rw [hvv.out]; exact opA_v (hoo.out ▸ blk_rng HX4.out)) Try.underlying39 rfl (by rw [hvv.out]; exact Try.info39s _ _ _) ?_
  simp only [Act.put, pqA, pqB, pqC]
  have had := add_any d op.q.1 op.q.2 (DgS d g) g w4 HD4.out.at' HD4.out.di (HR.out.below LB4.out) HL.out
  rw [HFt.out, ← hvv.out] at had
  refine WL.callF (by kernel_rfl) 17 _ _ rfl Try.in17 #[ptr d, .agg vv] (by simp [Act.eval]) ?_
  refine (had).mono ?_
  rintro e w9 ⟨u9, g9, ol, rfl, hs, hi, hg, ho, hn⟩
  refine ⟨_, rfl, ?_⟩
  clear had
  have HS9 := Keep.mk (hs.ds hi HD4.out (Nat.le_trans HB.out LB4.out.size))
  have HG9 := Keep.mk hg
  have HX9 := Keep.mk (hs.grown.blk HX4.out fun e => by have := HD.out.at'.lt _ (HD.out.at'.av _ e); omega)
  have HO9 := Keep.mk ho
  obtain ⟨ua, uc, hu9⟩ := ho.sl
  subst hu9
  have B9 : Keep (Below B0 w w9) := ⟨(LB4.out.mono HB.out).trans HS9.out.2⟩
  have GR9 := Keep.mk ((Grown.below (S := DgS d g) LB4.out).trans hs.grown)
  have SB9 : Keep (∀ k, DgS d g9 k → DgS d g k ∨ w.heap.size ≤ k) := ⟨fun k hk => (hs.sub k hk).imp id fun h => Nat.le_trans LB4.out.size h⟩
  clear hs hi hg ho hn
  have hsm := add_three HD.out.di HFt.out HB2.out HG9.out
  have hge : g9.held.length = g.held.length := by rw [hsm.1]
  obtain ⟨bq, hbq⟩ : ∃ b, Keep (hasB g9.wait op.q.1.id = b) := ⟨_, ⟨rfl⟩⟩
  obtain ⟨iq, hiq⟩ : ∃ i, Keep (ixF op.q.1.id ol 0 = i) := ⟨_, ⟨rfl⟩⟩
  have hbi : Keep (decide (iq < 0) = bq) := ⟨by rw [← hiq.out, ← hbq.out]; exact hsm.2.1.symm⟩
  have hsm2 := Keep.mk hsm.2.2
  clear hsm
  simp only [Act.put, pqA, pqB, pqC]
  refine WL.val (by kernel_rfl) (.tuple #[.int .i64 3, .slice ua ol.length uc, .int .i64 0]) (by go_simp) ?_
  simp only [Act.put, pqA, pqB, pqC]
  refine WL.val (by kernel_rfl) (.int .i64 3) (by go_simp) ?_
  simp only [Act.put, pqA, pqB, pqC]
  refine WL.val (by kernel_rfl) (.slice ua ol.length uc) (by go_simp) ?_
  simp only [Act.put, pqA, pqB, pqC]
  refine WL.val (by kernel_rfl) (.int .i64 0) (by go_simp) ?_
  simp only [Act.put, pqA, pqB, pqC]
  refine WL.val (by kernel_rfl) (.int .i64 3) (by go_simp) ?_
  simp only [Act.put, pqA, pqB, pqC]
  refine WL.val (by kernel_rfl) (.slice ua ol.length uc) (by go_simp) ?_
  simp only [Act.put, pqA, pqB, pqC]
  refine WL.val (by kernel_rfl) (.int .i64 0) (by go_simp) ?_
  simp only [Act.put, pqA, pqB, pqC]
  refine WL.nil ?_
  refine hK9 _ _ ?_
  refine wp_seq_k fun K10 hK10 => ?_
  refine wp_seq_k fun K11 hK11 => ?_
  refine wp_region_list (WL.out ?_)
  refine WL.val (by kernel_rfl) (.int .i64 3) (by go_simp) ?_
  simp only [Act.put, pqA, pqB, pqC]
  refine WL.val (by kernel_rfl) (.int .i64 3) (by go_simp) ?_
  simp only [Act.put, pqA, pqB, pqC]
  refine WL.val (by kernel_rfl) (.bool false) (by go_simp) ?_
  simp only [Act.put, pqA, pqB, pqC]
  refine WL.val (by kernel_rfl) (.bool false) (by go_simp) ?_
  simp only [Act.put, pqA, pqB, pqC]
  refine WL.val (by kernel_rfl) (.int .i64 0) (by go_simp) ?_
  simp only [Act.put, pqA, pqB, pqC]
  refine WL.val (by kernel_rfl) (.int .i64 0) (by go_simp) ?_
  simp only [Act.put, pqA, pqB, pqC]
  refine WL.val (by kernel_rfl) (.bool false) (by go_simp) ?_
  simp only [Act.put, pqA, pqB, pqC]
  refine WL.val (by kernel_rfl) (.bool false) (by go_simp) ?_
  simp only [Act.put, pqA, pqB, pqC]
  refine WL.val (by kernel_rfl) (.bool false) (by go_simp) ?_
  simp only [Act.put, pqA, pqB, pqC]
  refine WL.val (by kernel_rfl) (.int .i64 3) (by go_simp) ?_
  simp only [Act.put, pqA, pqB, pqC]
  refine WL.val (by kernel_rfl) (.bool false) (by go_simp) ?_
  simp only [Act.put, pqA, pqB, pqC]
  refine WL.val (by kernel_rfl) (.bool false) (by go_simp) ?_
  simp only [Act.put, pqA, pqB, pqC]
  refine WL.val (by kernel_rfl) (.bool false) (by go_simp) ?_
  simp only [Act.put, pqA, pqB, pqC]
  refine WL.val (by kernel_rfl) (.bool false) (by go_simp) ?_
  simp only [Act.put, pqA, pqB, pqC]
  refine WL.val (by kernel_rfl) (.bool false) (by go_simp) ?_
  simp only [Act.put, pqA, pqB, pqC]
  refine WL.val (by kernel_rfl) (.int .i64 0) (by go_simp) ?_
  simp only [Act.put, pqA, pqB, pqC]
  refine WL.val (by kernel_rfl) (.bool false) (by go_simp) ?_
  simp only [Act.put, pqA, pqB, pqC]
  refine WL.val (by kernel_rfl) (.bool false) (by go_simp) ?_
  simp only [Act.put, pqA, pqB, pqC]
  refine WL.skip (by kernel_rfl) ?_
  simp only [Act.put, pqA, pqB, pqC]
  refine WL.skip (by kernel_rfl) ?_
  simp only [Act.put, pqA, pqB, pqC]
  refine WL.skip (by kernel_rfl) ?_
  simp only [Act.put, pqA, pqB, pqC]
  refine WL.skip (by kernel_rfl) ?_
  simp only [Act.put, pqA, pqB, pqC]
  refine WL.skip (by kernel_rfl) ?_
  simp only [Act.put, pqA, pqB, pqC]
  refine WL.skip (by kernel_rfl) ?_
  simp only [Act.put, pqA, pqB, pqC]
  refine WL.skip (by kernel_rfl) ?_
  simp only [Act.put, pqA, pqB, pqC]
  refine WL.val (by kernel_rfl) (.bool false) (by go_simp) ?_
  simp only [Act.put, pqA, pqB, pqC]
  refine WL.val (by kernel_rfl) (.bool false) (by go_simp) ?_
  simp only [Act.put, pqA, pqB, pqC]
  refine WL.nil ?_
  refine hK11 _ _ ?_
  refine wp_cond_false rfl ?_
  refine wp_skip ?_
  refine hK10 _ _ ?_
  refine wp_seq_k fun K12 hK12 => ?_
  refine wp_seq_k fun K13 hK13 => ?_
  refine wp_region_list (WL.out ?_)
  refine WL.val (by kernel_rfl) (.int .i64 3) (by go_simp) ?_
  simp only [Act.put, pqA, pqB, pqC]
  refine WL.nil ?_
  refine hK13 _ _ ?_
  refine wp_block ?_
  refine wp_seq_k fun K14 hK14 => ?_
  refine wp_region_list (WL.out ?_)
  refine WL.val (by kernel_rfl) (.bool false) (by go_simp) ?_
  simp only [Act.put, pqA, pqB, pqC]
  refine WL.val (by kernel_rfl) (.bool false) (by go_simp) ?_
  simp only [Act.put, pqA, pqB, pqC]
  refine WL.nil ?_
  refine hK14 _ _ ?_
  refine wp_cond_false rfl ?_
  refine wp_seq_k fun K15 hK15 => ?_
  refine wp_region_list (WL.out ?_)
  refine WL.val (by kernel_rfl) (.bool true) (by go_simp) ?_
  simp only [Act.put, pqA, pqB, pqC]
  refine WL.val (by kernel_rfl) (.bool true) (by go_simp) ?_
  simp only [Act.put, pqA, pqB, pqC]
  refine WL.nil ?_
  refine hK15 _ _ ?_
  refine wp_cond_true rfl ?_
  refine wp_seq_k fun K16 hK16 => ?_
  have hrI : Keep (∀ wx, Below w9.heap.size w9 wx → wx.rangeAt w.heap.size 2 (bytesA 32 op.q.1.id.f).toList) := ⟨fun wx hb => vtx_id (opA_v (hoo.out ▸ blk_rng (HX9.out.below hb HX9.out.lt)))⟩
  have BD : Keep (Below w9.heap.size w9 w9.drew) := ⟨(Below.refl _ _).drew⟩
  refine wp_region_held_drew (S := fun wx => wx.rangeAt w.heap.size 2 (bytesA 32 op.q.1.id.f).toList) (by kernel_rfl) (hrI.out _ BD.out) (fun hHeld => ?_)
  refine wpAnyH_take (i := 0) (oi := ⟨some 160, Op.move (Operand.tmp 0), 27, _, _, none⟩) (v := .pointer (some ⟨d, 0, none⟩)) rfl (by kernel_rfl) (by kernel_rfl) (by kernel_rfl) (fun _ _ _ h => h) (Or.inl ⟨by rfl, fun w hS => by clear hS; go_simp⟩) hHeld ?_
  simp only [Act.put, pqA, pqB, pqC]
  refine wpAnyH_take (i := 2) (oi := ⟨some 162, Op.move (Operand.tmp 10), 3, _, _, none⟩) (v := .int .i64 (g.held.length : Int)) rfl (by kernel_rfl) (by kernel_rfl) (by kernel_rfl) (fun _ _ _ h => h) (Or.inl ⟨by rfl, fun w hS => by clear hS; go_simp⟩) hHeld ?_
  simp only [Act.put, pqA, pqB, pqC]
  refine wpAnyH_ready (rs := [1]) (by kernel_rfl) (by simp) ?_
  refine AllReadyH.cons (o := ⟨some 161, Op.call { callee := Callee.value (Operand.func 36), args := #[Operand.tmp 160], argTypes := #[27] }, 3, _, _, none⟩) rfl (fun K hK => ?_) AllReadyH.nil
  rw [if_pos (by rfl)]
  refine wp_callF 36 _ _ rfl Try.in36 #[ptr d] (by simp [Act.eval]) (fun u wx => u = .int .i64 (g9.held.length : Int) ∧ wx = w9.drew) ((dlen_any d (DgS d g9) g9 w9.drew (HS9.out.1.below BD.out).at').mono fun e w' ⟨h1, h2⟩ => ⟨_, h1, rfl, h2⟩) ?_
  rintro _ _ ⟨rfl, rfl⟩
  refine hK _ _ (hrI.out _ BD.out) fun hH1 => ?_
  clear hK
  simp only [Act.put, pqA, pqB, pqC]
  refine wpAnyH_take (i := 3) (oi := ⟨some 163, Op.binOp BinOp.eql 3 (Operand.tmp 161) (Operand.tmp 162) 3, 4, _, _, none⟩) (v := .bool true) rfl (by kernel_rfl) (by kernel_rfl) (by kernel_rfl) (fun _ _ _ h => h) (Or.inl ⟨by rfl, fun w hS => by clear hS; go_simp⟩) hH1 ?_
  simp only [Act.put, pqA, pqB, pqC]
  refine wpAnyH_take (i := 4) (oi := ⟨some 164, Op.move (Operand.tmp 163), 4, _, _, none⟩) (v := .bool true) rfl (by kernel_rfl) (by kernel_rfl) (by kernel_rfl) (fun _ _ _ h => h) (Or.inl ⟨by rfl, fun w hS => by clear hS; go_simp⟩) hH1 ?_
  simp only [Act.put, pqA, pqB, pqC]
  refine wpAnyH_take (i := 5) (oi := ⟨some 165, Op.move (Operand.tmp 0), 27, _, _, some (4, true)⟩) (v := .pointer (some ⟨d, 0, none⟩)) rfl (by kernel_rfl) (by kernel_rfl) (by kernel_rfl) (fun _ _ _ h => h) (Or.inl ⟨by rfl, fun w hS => by clear hS; go_simp⟩) hH1 ?_
  simp only [Act.put, pqA, pqB, pqC]
  refine wpAnyH_take (i := 6) (oi := ⟨some 166, Op.fieldAddr 41 (Operand.tmp 3) 2, 0, _, _, some (4, true)⟩) (v := .pointer (some ⟨w.heap.size, 2, none⟩)) rfl (by kernel_rfl) (by kernel_rfl) (by kernel_rfl) (fun _ _ _ h => h) (Or.inl ⟨by rfl, fun w hS => by clear hS; go_simp⟩) hH1 ?_
  simp only [Act.put, pqA, pqB, pqC]
  refine wpAnyH_take (i := 7) (oi := ⟨some 167, Op.fieldAddr 39 (Operand.tmp 166) 0, 0, _, _, some (4, true)⟩) (v := .pointer (some ⟨w.heap.size, 2, none⟩)) rfl (by kernel_rfl) (by kernel_rfl) (by kernel_rfl) (fun _ _ _ h => h) (Or.inl ⟨by rfl, fun w hS => by clear hS; go_simp⟩) hH1 ?_
  simp only [Act.put, pqA, pqB, pqC]
  refine wpAnyH_take (i := 8) (oi := ⟨some 168, Op.load 36 (Operand.tmp 167), 36, _, _, some (4, true)⟩) (v := .agg (bytesA 32 op.q.1.id.f)) rfl (by kernel_rfl) (by kernel_rfl) (by kernel_rfl) (fun _ _ _ h => h) (yieldsIf_ld (by rfl) (Operand.tmp 167) 36 rfl w.heap.size 2 rfl (bytesA 32 op.q.1.id.f) _ Try.underlying36 rfl (size36A _) fun w hS => hS) hH1 ?_
  simp only [Act.put, pqA, pqB, pqC]
  refine wpAnyH_take (i := 10) (oi := ⟨some 170, Op.move (Operand.tmp 15), 37, _, _, some (4, true)⟩) (v := .slice ua ol.length uc) rfl (by kernel_rfl) (by kernel_rfl) (by kernel_rfl) (fun _ _ _ h => h) (Or.inl ⟨by rfl, fun w hS => by clear hS; go_simp⟩) hH1 ?_
  simp only [Act.put, pqA, pqB, pqC]
  refine wpAnyH_take (i := 11) (oi := ⟨some 171, Op.fieldAddr 41 (Operand.tmp 3) 2, 0, _, _, some (4, true)⟩) (v := .pointer (some ⟨w.heap.size, 2, none⟩)) rfl (by kernel_rfl) (by kernel_rfl) (by kernel_rfl) (fun _ _ _ h => h) (Or.inl ⟨by rfl, fun w hS => by clear hS; go_simp⟩) hH1 ?_
  simp only [Act.put, pqA, pqB, pqC]
  refine wpAnyH_take (i := 12) (oi := ⟨some 172, Op.fieldAddr 39 (Operand.tmp 171) 0, 0, _, _, some (4, true)⟩) (v := .pointer (some ⟨w.heap.size, 2, none⟩)) rfl (by kernel_rfl) (by kernel_rfl) (by kernel_rfl) (fun _ _ _ h => h) (Or.inl ⟨by rfl, fun w hS => by clear hS; go_simp⟩) hH1 ?_
  simp only [Act.put, pqA, pqB, pqC]
  refine wpAnyH_take (i := 13) (oi := ⟨some 173, Op.load 36 (Operand.tmp 172), 36, _, _, some (4, true)⟩) (v := .agg (bytesA 32 op.q.1.id.f)) rfl (by kernel_rfl) (by kernel_rfl) (by kernel_rfl) (fun _ _ _ h => h) (yieldsIf_ld (by rfl) (Operand.tmp 172) 36 rfl w.heap.size 2 rfl (bytesA 32 op.q.1.id.f) _ Try.underlying36 rfl (size36A _) fun w hS => hS) hH1 ?_
  simp only [Act.put, pqA, pqB, pqC]
  refine wpAnyH_ready (rs := [9]) (by kernel_rfl) (by simp) ?_
  refine AllReadyH.cons (o := ⟨some 169, Op.call { callee := Callee.value (Operand.func 47), args := #[Operand.tmp 165, Operand.tmp 168], argTypes := #[27, 36] }, 4, _, _, some (4, true)⟩) rfl (fun K hK => ?_) AllReadyH.nil
  rw [if_pos (by rfl)]
  have hws := waits_any d op.q.1.id (DgS d g9) g9 w9.drew (HS9.out.1.below BD.out).at'
  rw [show (g9.wait.find? (isV op.q.1.id)).isSome = bq from hbq.out] at hws
  refine wp_callF 47 _ _ rfl Try.in47 #[ptr d, .agg (bytesA 32 op.q.1.id.f)] (by simp [Act.eval]) (fun u wx => u = .bool bq ∧ Below w9.drew.heap.size w9.drew wx) (hws.mono fun e w' ⟨h1, h2⟩ => ⟨_, h1, rfl, h2⟩) ?_
  clear hws
  rintro _ w10 ⟨rfl, hz⟩
  have B10 : Keep (Below w9.heap.size w9 w10) := ⟨belowT BD.out hz⟩
  refine hK _ _ (hrI.out _ B10.out) fun hH2 => ?_
  clear hK hz
  simp only [Act.put, pqA, pqB, pqC]
  refine wpAnyH_ready (rs := [14]) (by kernel_rfl) (by simp) ?_
  refine AllReadyH.cons (o := ⟨some 174, Op.call { callee := Callee.value (Operand.func 63), args := #[Operand.tmp 170, Operand.tmp 173], argTypes := #[37, 36] }, 3, _, _, some (4, true)⟩) rfl (fun K hK => ?_) AllReadyH.nil
  rw [if_pos (by rfl)]
  have hix := refIx_any (.slice ua ol.length uc) ol op.q.1.id w10 (HO9.out.below B10.out).row (by have := hsm2.out; omega)
  rw [hiq.out] at hix
  refine wp_callF 63 _ _ rfl Try.in63 #[.slice ua ol.length uc, .agg (bytesA 32 op.q.1.id.f)] (by simp [Act.eval]) (fun u wx => u = .int .i64 iq ∧ Below w10.heap.size w10 wx) (hix.mono fun e w' ⟨h1, h2⟩ => ⟨_, h1, rfl, h2⟩) ?_
  clear hix
  rintro _ w11 ⟨rfl, hz⟩
  have B11 : Keep (Below w9.heap.size w9 w11) := ⟨belowT B10.out hz⟩
  refine hK _ _ (hrI.out _ B11.out) fun hH3 => ?_
  clear hK hz
  simp only [Act.put, pqA, pqB, pqC]
  refine wpAnyH_take (i := 15) (oi := ⟨some 175, Op.binOp BinOp.lss 3 (Operand.tmp 174) (Operand.const (Value.int IntKind.i64 0)) 3, 4, _, _, some (4, true)⟩) (v := .bool bq) rfl (by kernel_rfl) (by kernel_rfl) (by kernel_rfl) (fun _ _ _ h => h) (Or.inl ⟨by rfl, fun w hS => by clear hS; go_simp; rw [hbi.out]⟩) hH3 ?_
  simp only [Act.put, pqA, pqB, pqC]
  refine wpAnyH_take (i := 16) (oi := ⟨some 176, Op.binOp BinOp.eql 4 (Operand.tmp 169) (Operand.tmp 175) 4, 4, _, _, some (4, true)⟩) (v := .bool true) rfl (by kernel_rfl) (by kernel_rfl) (by kernel_rfl) (fun _ _ _ h => h) (Or.inl ⟨by rfl, fun w hS => by clear hS; go_simp⟩) hH3 ?_
  simp only [Act.put, pqA, pqB, pqC]
  refine wpAnyH_take (i := 17) (oi := ⟨some 177, Op.pick (Operand.tmp 164) (Operand.tmp 176) (Operand.const (Value.bool false)), 4, _, _, none⟩) (v := .bool true) rfl (by kernel_rfl) (by kernel_rfl) (by kernel_rfl) (fun _ _ _ h => h) (Or.inl ⟨by rfl, fun w hS => by clear hS; go_simp⟩) hH3 ?_
  simp only [Act.put, pqA, pqB, pqC]
  refine wpAnyH_take (i := 18) (oi := ⟨some 4, Op.assign (Operand.tmp 177), 4, _, _, none⟩) (v := .bool true) rfl (by kernel_rfl) (by kernel_rfl) (by kernel_rfl) (fun _ _ _ h => h) (Or.inl ⟨by rfl, fun w hS => by clear hS; go_simp⟩) hH3 ?_
  simp only [Act.put, pqA, pqB, pqC]
  refine wpAnyH_done (by kernel_rfl) ?_ _
  refine hK16 _ _ ?_
  refine wp_ret ?_
  go_ret
  exact ⟨g9, rfl, HS9.out.1.below B11.out, B9.out.trans (below_cut B11.out (Nat.le_trans HB.out B9.out.size)), grw_add HG9.out, GR9.out.trans (Grown.below B11.out), SB9.out⟩
end Go.Proofs.Ytogmdfhicbmplaa
