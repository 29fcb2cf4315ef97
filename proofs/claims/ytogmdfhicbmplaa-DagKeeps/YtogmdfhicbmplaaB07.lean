import Derived.Test.YtogmdfhicbmplaaB05
import Derived.Test.YtogmdfhicbmplaaB06
namespace Go.Proofs.Ytogmdfhicbmplaa
open Go.RowKit
set_option linter.unusedSimpArgs false
set_option linter.unusedVariables false

theorem Try.in29 (w : World) (vs : Array Value) : (callFunc 29 vs).run Try.prog w = .ok (.enter 29 vs) w := by kernel_rfl
set_option maxRecDepth 8000 in
theorem settle_absent (d : Nat) (x : Hs) (Av : Nat → Prop) (g : DG) (w : World) (hD : DagAt w Av d g) (hM : ∀ v ∈ g.held, 0 ≤ v.ck ∧ v.ck ≤ 4096) (hL : ∀ v, g.wait.find? (isV x) = some v → v.ps.length ≤ 4398046511104) (hE : rdyE g.held g.wait x = 6) : Calls Try.prog 29 #[ptr d, .agg (bytesA 32 x.f)] w fun e w' => e = .returned (.tuple #[.int .i64 0, .int .i64 6]) ∧ Below w.heap.size w w' := by
  have HD := Keep.mk hD
  have HM := Keep.mk hM
  have HL := Keep.mk hL
  have HE := Keep.mk hE
  clear hD hM hL hE
  go_enter Try.func29, Try.ntmps29
  refine wp_seq_k fun K1 hK1 => ?_
  refine wp_region_list (WL.out ?_)
  refine WL.box (by kernel_rfl) 36 (.tmp 1) rfl (bytesA 32 x.f) rfl ?_
  obtain ⟨w1, hwn⟩ : ∃ wx, Keep (wx = w.alloc (.cells (bytesA 32 x.f) 36)) := ⟨_, ⟨rfl⟩⟩
  rw [← hwn.out]
  have HX1 : Keep (Blk w1 w.heap.size 36 (bytesA 32 x.f)) := ⟨by rw [hwn.out]; exact Blk.new _ _ _⟩
  have LB1 : Keep (Below w.heap.size w w1) := ⟨by rw [hwn.out]; exact below_new _ _⟩
  clear hwn
  have HD1 := Keep.mk (HD.out.below LB1.out)
  simp only [Act.put, List.setIfInBounds_toArray, List.set_cons_zero, List.set_cons_succ]
  refine WL.val (by kernel_rfl) (.int .i64 0) (by go_simp) ?_
  simp only [Act.put, List.setIfInBounds_toArray, List.set_cons_zero, List.set_cons_succ]
  refine WL.val (by kernel_rfl) (.int .i64 0) (by go_simp) ?_
  simp only [Act.put, List.setIfInBounds_toArray, List.set_cons_zero, List.set_cons_succ]
  refine WL.nil ?_
  refine hK1 _ _ ?_
  refine wp_seq_k fun K2 hK2 => ?_
  refine wp_region_list (WL.out ?_)
  refine WL.val (by kernel_rfl) (.pointer (some ⟨d, 0, none⟩)) (by go_simp) ?_
  simp only [Act.put, List.setIfInBounds_toArray, List.set_cons_zero, List.set_cons_succ]
  refine WL.row (by kernel_rfl) 36 (.tmp 3) rfl w.heap.size rfl 36 (bytesA 32 x.f) _ HX1.out Try.underlying36 rfl (Try.size36B _) ?_
  simp only [Act.put, List.setIfInBounds_toArray, List.set_cons_zero, List.set_cons_succ]
  have hrd := ready_any d x Av g w1 HD1.out HM.out HL.out
  rw [HE.out] at hrd
  refine WL.callF (by kernel_rfl) 40 _ _ rfl Try.in40 #[ptr d, .agg (bytesA 32 x.f)] (by simp [Act.eval]) ?_
  refine (hrd).mono ?_
  rintro e w2 ⟨rfl, hz⟩
  refine ⟨_, rfl, ?_⟩
  clear hrd
  have HX2 := Keep.mk (HX1.out.below hz HX1.out.lt)
  have LB2 := Keep.mk (belowT LB1.out hz)
  have HD2 := Keep.mk (HD1.out.below hz)
  clear hz HX1 HD1
  simp only [Act.put, List.setIfInBounds_toArray, List.set_cons_zero, List.set_cons_succ]
  refine WL.val (by kernel_rfl) (.int .i64 6) (by go_simp) ?_
  simp only [Act.put, List.setIfInBounds_toArray, List.set_cons_zero, List.set_cons_succ]
  refine WL.nil ?_
  refine hK2 _ _ ?_
  refine wp_seq_k fun K3 hK3 => ?_
  refine wp_seq_k fun K4 hK4 => ?_
  refine wp_region_list (WL.out ?_)
  refine WL.val (by kernel_rfl) (.int .i64 6) (by go_simp) ?_
  simp only [Act.put, List.setIfInBounds_toArray, List.set_cons_zero, List.set_cons_succ]
  refine WL.val (by kernel_rfl) (.bool true) (by go_simp) ?_
  simp only [Act.put, List.setIfInBounds_toArray, List.set_cons_zero, List.set_cons_succ]
  refine WL.val (by kernel_rfl) (.bool true) (by go_simp) ?_
  simp only [Act.put, List.setIfInBounds_toArray, List.set_cons_zero, List.set_cons_succ]
  refine WL.skip (by kernel_rfl) ?_
  simp only [Act.put, List.setIfInBounds_toArray, List.set_cons_zero, List.set_cons_succ]
  refine WL.skip (by kernel_rfl) ?_
  simp only [Act.put, List.setIfInBounds_toArray, List.set_cons_zero, List.set_cons_succ]
  refine WL.val (by kernel_rfl) (.bool true) (by go_simp) ?_
  simp only [Act.put, List.setIfInBounds_toArray, List.set_cons_zero, List.set_cons_succ]
  refine WL.nil ?_
  refine hK4 _ _ ?_
  refine wp_cond_true rfl ?_
  refine wp_seq_k fun K5 hK5 => ?_
  refine wp_region_list (WL.out ?_)
  refine WL.val (by kernel_rfl) (.int .i64 6) (by go_simp) ?_
  simp only [Act.put, List.setIfInBounds_toArray, List.set_cons_zero, List.set_cons_succ]
  refine WL.val (by kernel_rfl) (.int .i64 0) (by go_simp) ?_
  simp only [Act.put, List.setIfInBounds_toArray, List.set_cons_zero, List.set_cons_succ]
  refine WL.val (by kernel_rfl) (.int .i64 6) (by go_simp) ?_
  simp only [Act.put, List.setIfInBounds_toArray, List.set_cons_zero, List.set_cons_succ]
  refine WL.nil ?_
  refine hK5 _ _ ?_
  refine wp_ret ?_
  go_ret2
  exact ⟨rfl, LB2.out⟩
set_option maxRecDepth 8000 in
theorem settle_state (d : Nat) (x : Hs) (Av : Nat → Prop) (g : DG) (w : World) (hD : DagAt w Av d g) (hM : ∀ v ∈ g.held, 0 ≤ v.ck ∧ v.ck ≤ 4096) (hL : ∀ v, g.wait.find? (isV x) = some v → v.ps.length ≤ 4398046511104) (hE : rdyE g.held g.wait x = 9) : Calls Try.prog 29 #[ptr d, .agg (bytesA 32 x.f)] w fun e w' => e = .returned (.tuple #[.int .i64 0, .int .i64 9]) ∧ Below w.heap.size w w' := by
  have HD := Keep.mk hD
  have HM := Keep.mk hM
  have HL := Keep.mk hL
  have HE := Keep.mk hE
  clear hD hM hL hE
  go_enter Try.func29, Try.ntmps29
  refine wp_seq_k fun K1 hK1 => ?_
  refine wp_region_list (WL.out ?_)
  refine WL.box (by kernel_rfl) 36 (.tmp 1) rfl (bytesA 32 x.f) rfl ?_
  obtain ⟨w1, hwn⟩ : ∃ wx, Keep (wx = w.alloc (.cells (bytesA 32 x.f) 36)) := ⟨_, ⟨rfl⟩⟩
  rw [← hwn.out]
  have HX1 : Keep (Blk w1 w.heap.size 36 (bytesA 32 x.f)) := ⟨by rw [hwn.out]; exact Blk.new _ _ _⟩
  have LB1 : Keep (Below w.heap.size w w1) := ⟨by rw [hwn.out]; exact below_new _ _⟩
  clear hwn
  have HD1 := Keep.mk (HD.out.below LB1.out)
  simp only [Act.put, List.setIfInBounds_toArray, List.set_cons_zero, List.set_cons_succ]
  refine WL.val (by kernel_rfl) (.int .i64 0) (by go_simp) ?_
  simp only [Act.put, List.setIfInBounds_toArray, List.set_cons_zero, List.set_cons_succ]
  refine WL.val (by kernel_rfl) (.int .i64 0) (by go_simp) ?_
  simp only [Act.put, List.setIfInBounds_toArray, List.set_cons_zero, List.set_cons_succ]
  refine WL.nil ?_
  refine hK1 _ _ ?_
  refine wp_seq_k fun K2 hK2 => ?_
  refine wp_region_list (WL.out ?_)
  refine WL.val (by kernel_rfl) (.pointer (some ⟨d, 0, none⟩)) (by go_simp) ?_
  simp only [Act.put, List.setIfInBounds_toArray, List.set_cons_zero, List.set_cons_succ]
  refine WL.row (by kernel_rfl) 36 (.tmp 3) rfl w.heap.size rfl 36 (bytesA 32 x.f) _ HX1.out Try.underlying36 rfl (Try.size36B _) ?_
  simp only [Act.put, List.setIfInBounds_toArray, List.set_cons_zero, List.set_cons_succ]
  have hrd := ready_any d x Av g w1 HD1.out HM.out HL.out
  rw [HE.out] at hrd
  refine WL.callF (by kernel_rfl) 40 _ _ rfl Try.in40 #[ptr d, .agg (bytesA 32 x.f)] (by simp [Act.eval]) ?_
  refine (hrd).mono ?_
  rintro e w2 ⟨rfl, hz⟩
  refine ⟨_, rfl, ?_⟩
  clear hrd
  have HX2 := Keep.mk (HX1.out.below hz HX1.out.lt)
  have LB2 := Keep.mk (belowT LB1.out hz)
  have HD2 := Keep.mk (HD1.out.below hz)
  clear hz HX1 HD1
  simp only [Act.put, List.setIfInBounds_toArray, List.set_cons_zero, List.set_cons_succ]
  refine WL.val (by kernel_rfl) (.int .i64 9) (by go_simp) ?_
  simp only [Act.put, List.setIfInBounds_toArray, List.set_cons_zero, List.set_cons_succ]
  refine WL.nil ?_
  refine hK2 _ _ ?_
  refine wp_seq_k fun K3 hK3 => ?_
  refine wp_seq_k fun K4 hK4 => ?_
  refine wp_region_list (WL.out ?_)
  refine WL.val (by kernel_rfl) (.int .i64 9) (by go_simp) ?_
  simp only [Act.put, List.setIfInBounds_toArray, List.set_cons_zero, List.set_cons_succ]
  refine WL.val (by kernel_rfl) (.bool false) (by go_simp) ?_
  simp only [Act.put, List.setIfInBounds_toArray, List.set_cons_zero, List.set_cons_succ]
  refine WL.val (by kernel_rfl) (.bool false) (by go_simp) ?_
  simp only [Act.put, List.setIfInBounds_toArray, List.set_cons_zero, List.set_cons_succ]
  refine WL.val (by kernel_rfl) (.int .i64 9) (by go_simp) ?_
  simp only [Act.put, List.setIfInBounds_toArray, List.set_cons_zero, List.set_cons_succ]
  refine WL.val (by kernel_rfl) (.bool true) (by go_simp) ?_
  simp only [Act.put, List.setIfInBounds_toArray, List.set_cons_zero, List.set_cons_succ]
  refine WL.val (by kernel_rfl) (.bool true) (by go_simp) ?_
  simp only [Act.put, List.setIfInBounds_toArray, List.set_cons_zero, List.set_cons_succ]
  refine WL.nil ?_
  refine hK4 _ _ ?_
  refine wp_cond_true rfl ?_
  refine wp_seq_k fun K5 hK5 => ?_
  refine wp_region_list (WL.out ?_)
  refine WL.val (by kernel_rfl) (.int .i64 9) (by go_simp) ?_
  simp only [Act.put, List.setIfInBounds_toArray, List.set_cons_zero, List.set_cons_succ]
  refine WL.val (by kernel_rfl) (.int .i64 0) (by go_simp) ?_
  simp only [Act.put, List.setIfInBounds_toArray, List.set_cons_zero, List.set_cons_succ]
  refine WL.val (by kernel_rfl) (.int .i64 9) (by go_simp) ?_
  simp only [Act.put, List.setIfInBounds_toArray, List.set_cons_zero, List.set_cons_succ]
  refine WL.nil ?_
  refine hK5 _ _ ?_
  refine wp_ret ?_
  go_ret2
  exact ⟨rfl, LB2.out⟩
set_option maxRecDepth 8000 in
set_option maxHeartbeats 1000000 in
theorem settle_goes (d : Nat) (x : Hs) (Av : Nat → Prop) (g : DG) (w : World) (ee : Int) (hD : DagAt w Av d g) (hM : ∀ v ∈ g.held, 0 ≤ v.ck ∧ v.ck ≤ 4096) (hL : ∀ v, g.wait.find? (isV x) = some v → v.ps.length ≤ 4398046511104) (v : VX) (hF : g.wait.find? (isV x) = some v) (hQ : hasB g.wait x = true → ∃ i : Nat, i < g.queue.length ∧ ixF x g.queue 0 = (i : Int)) (hQl : g.queue.length ≤ 1000000000) (hE : rdyE g.held g.wait x = ee) (hN : ¬ ee = 6 ∧ ¬ ee = 9 ∧ ¬ ee = 0) : Calls Try.prog 29 #[ptr d, .agg (bytesA 32 x.f)] w fun e w' => e = .returned (.tuple #[.int .i64 0, .int .i64 ee]) ∧ ∃ (i : Nat) (g' : DG), ixF x g.queue 0 = (i : Int) ∧ Ste w w' Av d g g' ∧ g'.room = g.room ∧ g'.held = g.held ∧ g'.wait = g.wait.eraseP (isV x) ∧ g'.queue = g.queue.take i ++ g.queue.drop (i + 1) ∧ g'.order = g.order ∧ g'.heads = g.heads := by
  have HD := Keep.mk hD
  have HM := Keep.mk hM
  have HL := Keep.mk hL
  have HE := Keep.mk hE
  have HF := Keep.mk hF
  have HQ := Keep.mk hQ
  have HQl := Keep.mk hQl
  have HN := Keep.mk hN
  clear hD hM hL hE hF hQ hQl hN
  go_enter Try.func29, Try.ntmps29
  refine wp_seq_k fun K1 hK1 => ?_
  refine wp_region_list (WL.out ?_)
  refine WL.box (by kernel_rfl) 36 (.tmp 1) rfl (bytesA 32 x.f) rfl ?_
  obtain ⟨w1, hwn⟩ : ∃ wx, Keep (wx = w.alloc (.cells (bytesA 32 x.f) 36)) := ⟨_, ⟨rfl⟩⟩
  rw [← hwn.out]
  have HX1 : Keep (Blk w1 w.heap.size 36 (bytesA 32 x.f)) := ⟨by rw [hwn.out]; exact Blk.new _ _ _⟩
  have LB1 : Keep (Below w.heap.size w w1) := ⟨by rw [hwn.out]; exact below_new _ _⟩
  clear hwn
  have HD1 := Keep.mk (HD.out.below LB1.out)
  simp only [Act.put, List.setIfInBounds_toArray, List.set_cons_zero, List.set_cons_succ]
  refine WL.val (by kernel_rfl) (.int .i64 0) (by go_simp) ?_
  simp only [Act.put, List.setIfInBounds_toArray, List.set_cons_zero, List.set_cons_succ]
  refine WL.val (by kernel_rfl) (.int .i64 0) (by go_simp) ?_
  simp only [Act.put, List.setIfInBounds_toArray, List.set_cons_zero, List.set_cons_succ]
  refine WL.nil ?_
  refine hK1 _ _ ?_
  refine wp_seq_k fun K2 hK2 => ?_
  refine wp_region_list (WL.out ?_)
  refine WL.val (by kernel_rfl) (.pointer (some ⟨d, 0, none⟩)) (by go_simp) ?_
  simp only [Act.put, List.setIfInBounds_toArray, List.set_cons_zero, List.set_cons_succ]
  refine WL.row (by kernel_rfl) 36 (.tmp 3) rfl w.heap.size rfl 36 (bytesA 32 x.f) _ HX1.out Try.underlying36 rfl (Try.size36B _) ?_
  simp only [Act.put, List.setIfInBounds_toArray, List.set_cons_zero, List.set_cons_succ]
  have hrd := ready_any d x Av g w1 HD1.out HM.out HL.out
  rw [HE.out] at hrd
  refine WL.callF (by kernel_rfl) 40 _ _ rfl Try.in40 #[ptr d, .agg (bytesA 32 x.f)] (by simp [Act.eval]) ?_
  refine (hrd).mono ?_
  rintro e w2 ⟨rfl, hz⟩
  refine ⟨_, rfl, ?_⟩
  clear hrd
  have HX2 := Keep.mk (HX1.out.below hz HX1.out.lt)
  have LB2 := Keep.mk (belowT LB1.out hz)
  have HD2 := Keep.mk (HD1.out.below hz)
  clear hz HX1 HD1
  simp only [Act.put, List.setIfInBounds_toArray, List.set_cons_zero, List.set_cons_succ]
  refine WL.val (by kernel_rfl) (.int .i64 ee) (by go_simp) ?_
  simp only [Act.put, List.setIfInBounds_toArray, List.set_cons_zero, List.set_cons_succ]
  refine WL.nil ?_
  refine hK2 _ _ ?_
  refine wp_seq_k fun K3 hK3 => ?_
  refine wp_seq_k fun K4 hK4 => ?_
  have hn6 := HN.out.1
  have hn9 := HN.out.2.1
  have hn0 := HN.out.2.2
  refine wp_region_list (WL.out ?_)
  refine WL.val (by kernel_rfl) (.int .i64 ee) (by go_simp) ?_
  simp only [Act.put, List.setIfInBounds_toArray, List.set_cons_zero, List.set_cons_succ]
  refine WL.val (by kernel_rfl) (.bool false) (by go_simp) ?_
  simp only [Act.put, List.setIfInBounds_toArray, List.set_cons_zero, List.set_cons_succ]
  refine WL.val (by kernel_rfl) (.bool false) (by go_simp) ?_
  simp only [Act.put, List.setIfInBounds_toArray, List.set_cons_zero, List.set_cons_succ]
  refine WL.val (by kernel_rfl) (.int .i64 ee) (by go_simp) ?_
  simp only [Act.put, List.setIfInBounds_toArray, List.set_cons_zero, List.set_cons_succ]
  refine WL.val (by kernel_rfl) (.bool false) (by go_simp) ?_
  simp only [Act.put, List.setIfInBounds_toArray, List.set_cons_zero, List.set_cons_succ]
  refine WL.val (by kernel_rfl) (.bool false) (by go_simp) ?_
  simp only [Act.put, List.setIfInBounds_toArray, List.set_cons_zero, List.set_cons_succ]
  refine WL.nil ?_
  refine hK4 _ _ ?_
  refine wp_cond_false rfl ?_
  refine wp_skip ?_
  refine hK3 _ _ ?_
  refine wp_seq_k fun K5 hK5 => ?_
  obtain ⟨es, ck, c0, k0, pa, pn, pm, hes, hl1, hl2, hcs⟩ := look1 HD2.out.wait x
  obtain ⟨vv, hvv⟩ : ∃ a : Array Value, Keep (a = vtx c0 k0 (.slice pa pn pm)) := ⟨_, ⟨rfl⟩⟩
  obtain ⟨vz, hvz⟩ : ∃ a : Array Value, Keep (a = vtx (fun _ => 0) 0 (.slice none 0 0)) := ⟨_, ⟨rfl⟩⟩
  rw [← hvv.out] at hl2
  have H1 := Keep.mk hl2
  have HC : Keep (c0 = v.id.f ∧ k0 = v.ck ∧ HRow w2 (.slice pa pn pm) v.ps ∧ ∀ k, (Value.slice pa pn pm).ownBlock = some k → k < w2.heap.size ∧ ¬ Av k) := ⟨hcs.elim (fun h => absurd (HF.out.symm.trans h.1) (by simp)) fun ⟨v', h, h2, h3, h4, h5⟩ => by cases Option.some.inj (HF.out.symm.trans h); exact ⟨h2, h3, h4, h5⟩⟩
  have hSB : Keep (∀ wx, Below w2.heap.size w2 wx → (fun wx => wx.cell? ⟨d, 4, none⟩ = some (.map (some g.wb)) ∧ wx.rangeAt w.heap.size 0 (bytesA 32 x.f).toList ∧ wx.heap[g.wb]? = some (.map es ck)) wx) := ⟨fun wx hb => ⟨(HD2.out.blk.below hb HD2.out.blk.lt).c 4 rfl, blk_rng (HX2.out.below hb HX2.out.lt), by rw [hb.block _ (Array.getElem?_eq_some_iff.1 hes).1]; exact hes⟩⟩
  have B3 : Keep (Below w2.heap.size w2 w2.drew) := ⟨(Below.refl _ _).drew⟩
  clear hl1 hl2 hcs hes
  refine wp_region_held_drew (S := fun wx => wx.cell? ⟨d, 4, none⟩ = some (.map (some g.wb)) ∧ wx.rangeAt w.heap.size 0 (bytesA 32 x.f).toList ∧ wx.heap[g.wb]? = some (.map es ck)) (by kernel_rfl) (hSB.out _ B3.out) (fun hHeld => ?_)
  refine wpAnyH_take (i := 0) (oi := ⟨some 18, Op.move (Operand.tmp 0), 27, _, _, none⟩) (v := .pointer (some ⟨d, 0, none⟩)) rfl (by kernel_rfl) (by kernel_rfl) (by kernel_rfl) (fun _ _ _ h => h) (Or.inl ⟨by rfl, fun w hS => by obtain ⟨hS1, hS2, hS3⟩ := hS; go_simp⟩) hHeld ?_
  simp only [Act.put, List.setIfInBounds_toArray, List.set_cons_zero, List.set_cons_succ]
  refine wpAnyH_take (i := 1) (oi := ⟨some 19, Op.nilCheck (Operand.tmp 18), 0, _, _, none⟩) (v := .pointer (some ⟨d, 0, none⟩)) rfl (by kernel_rfl) (by kernel_rfl) (by kernel_rfl) (fun _ _ _ h => h) (Or.inl ⟨by rfl, fun w hS => by obtain ⟨hS1, hS2, hS3⟩ := hS; go_simp⟩) hHeld ?_
  simp only [Act.put, List.setIfInBounds_toArray, List.set_cons_zero, List.set_cons_succ]
  refine wpAnyH_take (i := 2) (oi := ⟨some 20, Op.fieldAddr 77 (Operand.tmp 19) 4, 0, _, _, none⟩) (v := .pointer (some ⟨d, 4, none⟩)) rfl (by kernel_rfl) (by kernel_rfl) (by kernel_rfl) (fun _ _ _ h => h) (Or.inl ⟨by rfl, fun w hS => by obtain ⟨hS1, hS2, hS3⟩ := hS; go_simp⟩) hHeld ?_
  simp only [Act.put, List.setIfInBounds_toArray, List.set_cons_zero, List.set_cons_succ]
  refine wpAnyH_take (i := 3) (oi := ⟨some 21, Op.load 75 (Operand.tmp 20), 75, _, _, none⟩) (v := .map (some g.wb)) rfl (by kernel_rfl) (by kernel_rfl) (by kernel_rfl) (fun _ _ _ h => h) (Or.inl ⟨by rfl, fun w hS => by obtain ⟨hS1, hS2, hS3⟩ := hS; go_simp⟩) hHeld ?_
  simp only [Act.put, List.setIfInBounds_toArray, List.set_cons_zero, List.set_cons_succ]
  refine wpAnyH_take (i := 4) (oi := ⟨some 22, Op.load 36 (Operand.tmp 3), 36, _, _, none⟩) (v := .agg (bytesA 32 x.f)) rfl (by kernel_rfl) (by kernel_rfl) (by kernel_rfl) (fun _ _ _ h => h) (yieldsIf_ld (by rfl) (Operand.tmp 3) 36 rfl w.heap.size 0 rfl (bytesA 32 x.f) _ Try.underlying36 rfl (size36A _) fun w hS => hS.2.1) hHeld ?_
  simp only [Act.put, List.setIfInBounds_toArray, List.set_cons_zero, List.set_cons_succ]
  refine wpAnyH_take (i := 5) (oi := ⟨some 23, Op.lookup 75 (Operand.tmp 21) (Operand.tmp 22) false, 39, _, _, none⟩) (v := .agg vv) rfl (by kernel_rfl) (by kernel_rfl) (by kernel_rfl) (fun _ _ _ h => h) (yieldsIf_look (by rfl) (Operand.tmp 21) (Operand.tmp 22) false rfl g.wb x.f rfl rfl _ fun wx hS => H1.out wx hS.2.2) hHeld ?_
  simp only [Act.put, List.setIfInBounds_toArray, List.set_cons_zero, List.set_cons_succ]
  refine wpAnyH_ready (rs := [6]) (by kernel_rfl) (by simp) ?_
  refine AllReadyH.cons (o := ⟨some 7, Op.alloc 39, 0, _, _, none⟩) rfl (fun K hK => ?_) AllReadyH.nil
  rw [if_pos (by rfl)]
  refine wp_newA 39 rfl vz (by rw [hvz.out]; exact Try.new39) ?_
  have B4 := Keep.mk (B3.out.alloc (Nat.le_refl _) (.cells vz 39))
  obtain ⟨w4, hw4⟩ : ∃ wx, Keep (wx = w2.drew.alloc (.cells vz 39)) := ⟨_, ⟨rfl⟩⟩
  rw [← hw4.out]
  have HB4 : Keep (Blk w4 w2.drew.heap.size 39 vz) := ⟨by rw [hw4.out]; exact Blk.new _ _ _⟩
  have B4 : Keep (Below w2.heap.size w2 w4) := ⟨by rw [hw4.out]; exact B4.out⟩
  have hL4 : Keep (w2.heap.size ≤ w2.drew.heap.size) := ⟨Nat.le_refl _⟩
  clear hw4
  generalize w2.drew.heap.size = n1 at *
  refine hK _ _ (hSB.out _ B4.out) fun hH1 => ?_
  clear hK
  simp only [Act.put, List.setIfInBounds_toArray, List.set_cons_zero, List.set_cons_succ]
  refine wpAnyH_ready (rs := [7]) (by kernel_rfl) (by simp) ?_
  refine AllReadyH.cons (o := ⟨none, Op.store 39 (Operand.tmp 7) (Operand.tmp 23), 0, _, _, none⟩) rfl (fun K hK => ?_) AllReadyH.nil
  rw [if_pos (by rfl)]
  refine wp_store_row 39 (Operand.tmp 7) (Operand.tmp 23) rfl n1 vv rfl rfl 39 vz HB4.out (by rw [hvv.out]; exact Try.info39s _ _ _) (by rw [hvv.out, hvz.out, vtx_size, vtx_size]) (by rw [hvv.out]; exact vtx_one _ _ _ (slice_one _ _ _)) ?_
  have B5 := Keep.mk (below_setRow B4.out hL4.out vv)
  have HV5 := Keep.mk (HB4.out.setRow vv)
  refine hK _ _ (hSB.out _ B5.out) fun hH2 => ?_
  generalize w4.setRow n1 vv = w5 at *
  have HD5 := Keep.mk (HD2.out.below B5.out)
  have HX5 := Keep.mk (HX2.out.below B5.out HX2.out.lt)
  have LB5 := Keep.mk (belowT LB2.out B5.out)
  have HR5 := Keep.mk (HC.out.2.2.1.below B5.out)
  have HA5 : Keep (∀ k, (Value.slice pa pn pm).ownBlock = some k → k < w5.heap.size ∧ ¬ Av k) := ⟨fun k hk => ⟨Nat.lt_of_lt_of_le (HC.out.2.2.2 k hk).1 B5.out.size, (HC.out.2.2.2 k hk).2⟩⟩
  have NV : Keep (¬ DgS d g n1) := ⟨fun e => by have := HD2.out.lt n1 (HD2.out.av n1 e); have := hL4.out; omega⟩
  clear hK hH1 HB4 B4 B3 hSB
  simp only [Act.put, List.setIfInBounds_toArray, List.set_cons_zero, List.set_cons_succ]
  refine wpAnyH_done (by kernel_rfl) ?_ _
  refine hK5 _ _ ?_
  refine wp_seq_k fun K6 hK6 => ?_
  refine wp_region_list (WL.out ?_)
  refine WL.val (by kernel_rfl) (.pointer (some ⟨d, 0, none⟩)) (by go_simp) ?_
  simp only [Act.put, List.setIfInBounds_toArray, List.set_cons_zero, List.set_cons_succ]
  refine WL.row (by kernel_rfl) 36 (.tmp 3) rfl w.heap.size rfl 36 (bytesA 32 x.f) _ HX5.out Try.underlying36 rfl (Try.size36B _) ?_
  simp only [Act.put, List.setIfInBounds_toArray, List.set_cons_zero, List.set_cons_succ]
  have hfg := forget_any d x Av g w5 HD5.out HQ.out HQl.out
  refine WL.callF (by kernel_rfl) 43 _ _ rfl Try.in43 #[ptr d, .agg (bytesA 32 x.f)] (by simp [Act.eval]) ?_
  refine (hfg.mono (R' := fun e w' => e = .returned (.bool true) ∧ ∃ i : Nat, ixF x g.queue 0 = (i : Int) ∧ ∃ g', Ste w5 w' Av d g g' ∧ g'.room = g.room ∧ g'.held = g.held ∧ g'.wait = g.wait.eraseP (isV x) ∧ g'.queue = g.queue.take i ++ g.queue.drop (i + 1) ∧ g'.order = g.order ∧ g'.heads = g.heads) (fun e w' h => h.elim (fun h => by have h1 := h.1; rw [hasB, HF.out] at h1; cases h1) fun ⟨_, h2, i, _, h4, h5⟩ => ⟨h2, i, h4, h5⟩)).mono ?_
  rintro e w6 ⟨rfl, i, hi, g6, hs, hg⟩
  refine ⟨_, rfl, ?_⟩
  clear hfg
  have HS6 := Keep.mk hs
  have HG6 := Keep.mk hg
  have Hi6 := Keep.mk hi
  have HV6 := Keep.mk (hs.grown.blk HV5.out NV.out)
  clear hs hg hi
  simp only [Act.put, List.setIfInBounds_toArray, List.set_cons_zero, List.set_cons_succ]
  refine WL.nil ?_
  refine hK6 _ _ ?_
  refine wp_seq_k fun K7 hK7 => ?_
  refine wp_seq_k fun K8 hK8 => ?_
  refine wp_region_list (WL.out ?_)
  refine WL.val (by kernel_rfl) (.int .i64 ee) (by go_simp) ?_
  simp only [Act.put, List.setIfInBounds_toArray, List.set_cons_zero, List.set_cons_succ]
  refine WL.val (by kernel_rfl) (.bool true) (by go_simp) ?_
  simp only [Act.put, List.setIfInBounds_toArray, List.set_cons_zero, List.set_cons_succ]
  refine WL.nil ?_
  refine hK8 _ _ ?_
  refine wp_cond_true rfl ?_
  refine wp_seq_k fun K9 hK9 => ?_
  refine wp_region_list (WL.out ?_)
  refine WL.val (by kernel_rfl) (.int .i64 ee) (by go_simp) ?_
  simp only [Act.put, List.setIfInBounds_toArray, List.set_cons_zero, List.set_cons_succ]
  refine WL.val (by kernel_rfl) (.int .i64 0) (by go_simp) ?_
  simp only [Act.put, List.setIfInBounds_toArray, List.set_cons_zero, List.set_cons_succ]
  refine WL.val (by kernel_rfl) (.int .i64 ee) (by go_simp) ?_
  simp only [Act.put, List.setIfInBounds_toArray, List.set_cons_zero, List.set_cons_succ]
  refine WL.nil ?_
  refine hK9 _ _ ?_
  refine wp_ret ?_
  go_ret2
  exact ⟨rfl, i, g6, Hi6.out, ⟨HS6.out.at', (Grown.below (S := DgS d g) LB5.out).trans HS6.out.grown, fun k hk => (HS6.out.sub k hk).imp id fun h => Nat.le_trans LB5.out.size h⟩, HG6.out⟩
set_option maxRecDepth 8000 in
set_option maxHeartbeats 1000000 in
theorem settle_took (d : Nat) (x : Hs) (Av : Nat → Prop) (g : DG) (w : World) (X : DG → Prop) (hD : DagAt w Av d g) (hM : ∀ v ∈ g.held, 0 ≤ v.ck ∧ v.ck ≤ 4096) (hL : ∀ v, g.wait.find? (isV x) = some v → v.ps.length ≤ 4398046511104) (v : VX) (hF : g.wait.find? (isV x) = some v) (hQ : hasB g.wait x = true → ∃ i : Nat, i < g.queue.length ∧ ixF x g.queue 0 = (i : Int)) (hQl : g.queue.length ≤ 1000000000) (hE : rdyE g.held g.wait x = 0)
    (hT : ∀ (w1 : World) (p1 : Value) (Av1 : Nat → Prop) (g1 : DG), DagAt w1 Av1 d g1 → ∀ i : Nat, ixF x g.queue 0 = (i : Int) → (g1.room = g.room ∧ g1.held = g.held ∧ g1.wait = g.wait.eraseP (isV x) ∧ g1.queue = g.queue.take i ++ g.queue.drop (i + 1) ∧ g1.order = g.order ∧ g1.heads = g.heads) → HRow w1 p1 v.ps → (∀ k, p1.ownBlock = some k → k < w1.heap.size ∧ ¬ Av1 k) → Calls Try.prog 58 #[ptr d, .agg (vtx v.id.f v.ck p1)] w1 fun e w' => e = .returned (.tuple #[]) ∧ ∃ g', Ste w1 w' Av1 d g1 g' ∧ X g') :
    Calls Try.prog 29 #[ptr d, .agg (bytesA 32 x.f)] w fun e w' => e = .returned (.tuple #[.int .i64 2, .int .i64 0]) ∧ ∃ g', Ste w w' Av d g g' ∧ X g' := by
  have HD := Keep.mk hD
  have HM := Keep.mk hM
  have HL := Keep.mk hL
  have HE := Keep.mk hE
  have HF := Keep.mk hF
  have HQ := Keep.mk hQ
  have HQl := Keep.mk hQl
  have HT := Keep.mk hT
  clear hD hM hL hE hF hQ hQl hT
  go_enter Try.func29, Try.ntmps29
  refine wp_seq_k fun K1 hK1 => ?_
  refine wp_region_list (WL.out ?_)
  refine WL.box (by kernel_rfl) 36 (.tmp 1) rfl (bytesA 32 x.f) rfl ?_
  obtain ⟨w1, hwn⟩ : ∃ wx, Keep (wx = w.alloc (.cells (bytesA 32 x.f) 36)) := ⟨_, ⟨rfl⟩⟩
  rw [← hwn.out]
  have HX1 : Keep (Blk w1 w.heap.size 36 (bytesA 32 x.f)) := ⟨by rw [hwn.out]; exact Blk.new _ _ _⟩
  have LB1 : Keep (Below w.heap.size w w1) := ⟨by rw [hwn.out]; exact below_new _ _⟩
  clear hwn
  have HD1 := Keep.mk (HD.out.below LB1.out)
  simp only [Act.put, List.setIfInBounds_toArray, List.set_cons_zero, List.set_cons_succ]
  refine WL.val (by kernel_rfl) (.int .i64 0) (by go_simp) ?_
  simp only [Act.put, List.setIfInBounds_toArray, List.set_cons_zero, List.set_cons_succ]
  refine WL.val (by kernel_rfl) (.int .i64 0) (by go_simp) ?_
  simp only [Act.put, List.setIfInBounds_toArray, List.set_cons_zero, List.set_cons_succ]
  refine WL.nil ?_
  refine hK1 _ _ ?_
  refine wp_seq_k fun K2 hK2 => ?_
  refine wp_region_list (WL.out ?_)
  refine WL.val (by kernel_rfl) (.pointer (some ⟨d, 0, none⟩)) (by go_simp) ?_
  simp only [Act.put, List.setIfInBounds_toArray, List.set_cons_zero, List.set_cons_succ]
  refine WL.row (by kernel_rfl) 36 (.tmp 3) rfl w.heap.size rfl 36 (bytesA 32 x.f) _ HX1.out Try.underlying36 rfl (Try.size36B _) ?_
  simp only [Act.put, List.setIfInBounds_toArray, List.set_cons_zero, List.set_cons_succ]
  have hrd := ready_any d x Av g w1 HD1.out HM.out HL.out
  rw [HE.out] at hrd
  refine WL.callF (by kernel_rfl) 40 _ _ rfl Try.in40 #[ptr d, .agg (bytesA 32 x.f)] (by simp [Act.eval]) ?_
  refine (hrd).mono ?_
  rintro e w2 ⟨rfl, hz⟩
  refine ⟨_, rfl, ?_⟩
  clear hrd
  have HX2 := Keep.mk (HX1.out.below hz HX1.out.lt)
  have LB2 := Keep.mk (belowT LB1.out hz)
  have HD2 := Keep.mk (HD1.out.below hz)
  clear hz HX1 HD1
  simp only [Act.put, List.setIfInBounds_toArray, List.set_cons_zero, List.set_cons_succ]
  refine WL.val (by kernel_rfl) (.int .i64 0) (by go_simp) ?_
  simp only [Act.put, List.setIfInBounds_toArray, List.set_cons_zero, List.set_cons_succ]
  refine WL.nil ?_
  refine hK2 _ _ ?_
  refine wp_seq_k fun K3 hK3 => ?_
  refine wp_seq_k fun K4 hK4 => ?_
  refine wp_region_list (WL.out ?_)
  refine WL.val (by kernel_rfl) (.int .i64 0) (by go_simp) ?_
  simp only [Act.put, List.setIfInBounds_toArray, List.set_cons_zero, List.set_cons_succ]
  refine WL.val (by kernel_rfl) (.bool false) (by go_simp) ?_
  simp only [Act.put, List.setIfInBounds_toArray, List.set_cons_zero, List.set_cons_succ]
  refine WL.val (by kernel_rfl) (.bool false) (by go_simp) ?_
  simp only [Act.put, List.setIfInBounds_toArray, List.set_cons_zero, List.set_cons_succ]
  refine WL.val (by kernel_rfl) (.int .i64 0) (by go_simp) ?_
  simp only [Act.put, List.setIfInBounds_toArray, List.set_cons_zero, List.set_cons_succ]
  refine WL.val (by kernel_rfl) (.bool false) (by go_simp) ?_
  simp only [Act.put, List.setIfInBounds_toArray, List.set_cons_zero, List.set_cons_succ]
  refine WL.val (by kernel_rfl) (.bool false) (by go_simp) ?_
  simp only [Act.put, List.setIfInBounds_toArray, List.set_cons_zero, List.set_cons_succ]
  refine WL.nil ?_
  refine hK4 _ _ ?_
  refine wp_cond_false rfl ?_
  refine wp_skip ?_
  refine hK3 _ _ ?_
  refine wp_seq_k fun K5 hK5 => ?_
  obtain ⟨es, ck, c0, k0, pa, pn, pm, hes, hl1, hl2, hcs⟩ := look1 HD2.out.wait x
  obtain ⟨vv, hvv⟩ : ∃ a : Array Value, Keep (a = vtx c0 k0 (.slice pa pn pm)) := ⟨_, ⟨rfl⟩⟩
  obtain ⟨vz, hvz⟩ : ∃ a : Array Value, Keep (a = vtx (fun _ => 0) 0 (.slice none 0 0)) := ⟨_, ⟨rfl⟩⟩
  rw [← hvv.out] at hl2
  have H1 := Keep.mk hl2
  have HC : Keep (c0 = v.id.f ∧ k0 = v.ck ∧ HRow w2 (.slice pa pn pm) v.ps ∧ ∀ k, (Value.slice pa pn pm).ownBlock = some k → k < w2.heap.size ∧ ¬ Av k) := ⟨hcs.elim (fun h => absurd (HF.out.symm.trans h.1) (by simp)) fun ⟨v', h, h2, h3, h4, h5⟩ => by cases Option.some.inj (HF.out.symm.trans h); exact ⟨h2, h3, h4, h5⟩⟩
  have hSB : Keep (∀ wx, Below w2.heap.size w2 wx → (fun wx => wx.cell? ⟨d, 4, none⟩ = some (.map (some g.wb)) ∧ wx.rangeAt w.heap.size 0 (bytesA 32 x.f).toList ∧ wx.heap[g.wb]? = some (.map es ck)) wx) := ⟨fun wx hb => ⟨(HD2.out.blk.below hb HD2.out.blk.lt).c 4 rfl, blk_rng (HX2.out.below hb HX2.out.lt), by rw [hb.block _ (Array.getElem?_eq_some_iff.1 hes).1]; exact hes⟩⟩
  have B3 : Keep (Below w2.heap.size w2 w2.drew) := ⟨(Below.refl _ _).drew⟩
  clear hl1 hl2 hcs hes
  refine wp_region_held_drew (S := fun wx => wx.cell? ⟨d, 4, none⟩ = some (.map (some g.wb)) ∧ wx.rangeAt w.heap.size 0 (bytesA 32 x.f).toList ∧ wx.heap[g.wb]? = some (.map es ck)) (by kernel_rfl) (hSB.out _ B3.out) (fun hHeld => ?_)
  refine wpAnyH_take (i := 0) (oi := ⟨some 18, Op.move (Operand.tmp 0), 27, _, _, none⟩) (v := .pointer (some ⟨d, 0, none⟩)) rfl (by kernel_rfl) (by kernel_rfl) (by kernel_rfl) (fun _ _ _ h => h) (Or.inl ⟨by rfl, fun w hS => by obtain ⟨hS1, hS2, hS3⟩ := hS; go_simp⟩) hHeld ?_
  simp only [Act.put, List.setIfInBounds_toArray, List.set_cons_zero, List.set_cons_succ]
  refine wpAnyH_take (i := 1) (oi := ⟨some 19, Op.nilCheck (Operand.tmp 18), 0, _, _, none⟩) (v := .pointer (some ⟨d, 0, none⟩)) rfl (by kernel_rfl) (by kernel_rfl) (by kernel_rfl) (fun _ _ _ h => h) (Or.inl ⟨by rfl, fun w hS => by obtain ⟨hS1, hS2, hS3⟩ := hS; go_simp⟩) hHeld ?_
  simp only [Act.put, List.setIfInBounds_toArray, List.set_cons_zero, List.set_cons_succ]
  refine wpAnyH_take (i := 2) (oi := ⟨some 20, Op.fieldAddr 77 (Operand.tmp 19) 4, 0, _, _, none⟩) (v := .pointer (some ⟨d, 4, none⟩)) rfl (by kernel_rfl) (by kernel_rfl) (by kernel_rfl) (fun _ _ _ h => h) (Or.inl ⟨by rfl, fun w hS => by obtain ⟨hS1, hS2, hS3⟩ := hS; go_simp⟩) hHeld ?_
  simp only [Act.put, List.setIfInBounds_toArray, List.set_cons_zero, List.set_cons_succ]
  refine wpAnyH_take (i := 3) (oi := ⟨some 21, Op.load 75 (Operand.tmp 20), 75, _, _, none⟩) (v := .map (some g.wb)) rfl (by kernel_rfl) (by kernel_rfl) (by kernel_rfl) (fun _ _ _ h => h) (Or.inl ⟨by rfl, fun w hS => by obtain ⟨hS1, hS2, hS3⟩ := hS; go_simp⟩) hHeld ?_
  simp only [Act.put, List.setIfInBounds_toArray, List.set_cons_zero, List.set_cons_succ]
  refine wpAnyH_take (i := 4) (oi := ⟨some 22, Op.load 36 (Operand.tmp 3), 36, _, _, none⟩) (v := .agg (bytesA 32 x.f)) rfl (by kernel_rfl) (by kernel_rfl) (by kernel_rfl) (fun _ _ _ h => h) (yieldsIf_ld (by rfl) (Operand.tmp 3) 36 rfl w.heap.size 0 rfl (bytesA 32 x.f) _ Try.underlying36 rfl (size36A _) fun w hS => hS.2.1) hHeld ?_
  simp only [Act.put, List.setIfInBounds_toArray, List.set_cons_zero, List.set_cons_succ]
  refine wpAnyH_take (i := 5) (oi := ⟨some 23, Op.lookup 75 (Operand.tmp 21) (Operand.tmp 22) false, 39, _, _, none⟩) (v := .agg vv) rfl (by kernel_rfl) (by kernel_rfl) (by kernel_rfl) (fun _ _ _ h => h) (yieldsIf_look (by rfl) (Operand.tmp 21) (Operand.tmp 22) false rfl g.wb x.f rfl rfl _ fun wx hS => H1.out wx hS.2.2) hHeld ?_
  simp only [Act.put, List.setIfInBounds_toArray, List.set_cons_zero, List.set_cons_succ]
  refine wpAnyH_ready (rs := [6]) (by kernel_rfl) (by simp) ?_
  refine AllReadyH.cons (o := ⟨some 7, Op.alloc 39, 0, _, _, none⟩) rfl (fun K hK => ?_) AllReadyH.nil
  rw [if_pos (by rfl)]
  refine wp_newA 39 rfl vz (by rw [hvz.out]; exact Try.new39) ?_
  have B4 := Keep.mk (B3.out.alloc (Nat.le_refl _) (.cells vz 39))
  obtain ⟨w4, hw4⟩ : ∃ wx, Keep (wx = w2.drew.alloc (.cells vz 39)) := ⟨_, ⟨rfl⟩⟩
  rw [← hw4.out]
  have HB4 : Keep (Blk w4 w2.drew.heap.size 39 vz) := ⟨by rw [hw4.out]; exact Blk.new _ _ _⟩
  have B4 : Keep (Below w2.heap.size w2 w4) := ⟨by rw [hw4.out]; exact B4.out⟩
  have hL4 : Keep (w2.heap.size ≤ w2.drew.heap.size) := ⟨Nat.le_refl _⟩
  clear hw4
  generalize w2.drew.heap.size = n1 at *
  refine hK _ _ (hSB.out _ B4.out) fun hH1 => ?_
  clear hK
  simp only [Act.put, List.setIfInBounds_toArray, List.set_cons_zero, List.set_cons_succ]
  refine wpAnyH_ready (rs := [7]) (by kernel_rfl) (by simp) ?_
  refine AllReadyH.cons (o := ⟨none, Op.store 39 (Operand.tmp 7) (Operand.tmp 23), 0, _, _, none⟩) rfl (fun K hK => ?_) AllReadyH.nil
  rw [if_pos (by rfl)]
  refine wp_store_row 39 (Operand.tmp 7) (Operand.tmp 23) rfl n1 vv rfl rfl 39 vz HB4.out (by rw [hvv.out]; exact Try.info39s _ _ _) (by rw [hvv.out, hvz.out, vtx_size, vtx_size]) (by rw [hvv.out]; exact vtx_one _ _ _ (slice_one _ _ _)) ?_
  have B5 := Keep.mk (below_setRow B4.out hL4.out vv)
  have HV5 := Keep.mk (HB4.out.setRow vv)
  refine hK _ _ (hSB.out _ B5.out) fun hH2 => ?_
  generalize w4.setRow n1 vv = w5 at *
  have HD5 := Keep.mk (HD2.out.below B5.out)
  have HX5 := Keep.mk (HX2.out.below B5.out HX2.out.lt)
  have LB5 := Keep.mk (belowT LB2.out B5.out)
  have HR5 := Keep.mk (HC.out.2.2.1.below B5.out)
  have HA5 : Keep (∀ k, (Value.slice pa pn pm).ownBlock = some k → k < w5.heap.size ∧ ¬ Av k) := ⟨fun k hk => ⟨Nat.lt_of_lt_of_le (HC.out.2.2.2 k hk).1 B5.out.size, (HC.out.2.2.2 k hk).2⟩⟩
  have NV : Keep (¬ DgS d g n1) := ⟨fun e => by have := HD2.out.lt n1 (HD2.out.av n1 e); have := hL4.out; omega⟩
  clear hK hH1 HB4 B4 B3 hSB
  simp only [Act.put, List.setIfInBounds_toArray, List.set_cons_zero, List.set_cons_succ]
  refine wpAnyH_done (by kernel_rfl) ?_ _
  refine hK5 _ _ ?_
  refine wp_seq_k fun K6 hK6 => ?_
  refine wp_region_list (WL.out ?_)
  refine WL.val (by kernel_rfl) (.pointer (some ⟨d, 0, none⟩)) (by go_simp) ?_
  simp only [Act.put, List.setIfInBounds_toArray, List.set_cons_zero, List.set_cons_succ]
  refine WL.row (by kernel_rfl) 36 (.tmp 3) rfl w.heap.size rfl 36 (bytesA 32 x.f) _ HX5.out Try.underlying36 rfl (Try.size36B _) ?_
  simp only [Act.put, List.setIfInBounds_toArray, List.set_cons_zero, List.set_cons_succ]
  have hfg := forget_any d x Av g w5 HD5.out HQ.out HQl.out
  refine WL.callF (by kernel_rfl) 43 _ _ rfl Try.in43 #[ptr d, .agg (bytesA 32 x.f)] (by simp [Act.eval]) ?_
  refine (hfg.mono (R' := fun e w' => e = .returned (.bool true) ∧ ∃ i : Nat, ixF x g.queue 0 = (i : Int) ∧ ∃ g', Ste w5 w' Av d g g' ∧ g'.room = g.room ∧ g'.held = g.held ∧ g'.wait = g.wait.eraseP (isV x) ∧ g'.queue = g.queue.take i ++ g.queue.drop (i + 1) ∧ g'.order = g.order ∧ g'.heads = g.heads) (fun e w' h => h.elim (fun h => by have h1 := h.1; rw [hasB, HF.out] at h1; cases h1) fun ⟨_, h2, i, _, h4, h5⟩ => ⟨h2, i, h4, h5⟩)).mono ?_
  rintro e w6 ⟨rfl, i, hi, g6, hs, hg⟩
  refine ⟨_, rfl, ?_⟩
  clear hfg
  have HS6 := Keep.mk hs
  have HG6 := Keep.mk hg
  have Hi6 := Keep.mk hi
  have HV6 := Keep.mk (hs.grown.blk HV5.out NV.out)
  clear hs hg hi
  simp only [Act.put, List.setIfInBounds_toArray, List.set_cons_zero, List.set_cons_succ]
  refine WL.nil ?_
  refine hK6 _ _ ?_
  refine wp_seq_k fun K7 hK7 => ?_
  refine wp_seq_k fun K8 hK8 => ?_
  refine wp_region_list (WL.out ?_)
  refine WL.val (by kernel_rfl) (.int .i64 0) (by go_simp) ?_
  simp only [Act.put, List.setIfInBounds_toArray, List.set_cons_zero, List.set_cons_succ]
  refine WL.val (by kernel_rfl) (.bool false) (by go_simp) ?_
  simp only [Act.put, List.setIfInBounds_toArray, List.set_cons_zero, List.set_cons_succ]
  refine WL.nil ?_
  refine hK8 _ _ ?_
  refine wp_cond_false rfl ?_
  refine wp_skip ?_
  refine hK7 _ _ ?_
  refine wp_seq_k fun K9 hK9 => ?_
  refine wp_region_list (WL.out ?_)
  refine WL.val (by kernel_rfl) (.pointer (some ⟨d, 0, none⟩)) (by go_simp) ?_
  simp only [Act.put, List.setIfInBounds_toArray, List.set_cons_zero, List.set_cons_succ]
  refine WL.row (by kernel_rfl) 39 (.tmp 7) rfl n1 rfl 39 vv _ HV6.out Try.underlying39 rfl (by rw [hvv.out]; exact Try.info39s _ _ _) ?_
  simp only [Act.put, List.setIfInBounds_toArray, List.set_cons_zero, List.set_cons_succ]
  have htk := HT.out w6 (.slice pa pn pm) _ g6 HS6.out.at' i Hi6.out HG6.out (HR5.out.grown HS6.out.grown fun b' o' n' c' e1 e2 => (HA5.out b' (by rw [e1]; rfl)).2 (HD5.out.av _ e2)) (fun k hk => ⟨Nat.lt_of_lt_of_le (HA5.out k hk).1 HS6.out.grown.size, fun h => h.elim (HA5.out k hk).2 fun h => (HS6.out.sub k h).elim (fun h => (HA5.out k hk).2 (HD5.out.av k h)) fun h => by have := (HA5.out k hk).1; omega⟩)
  rw [← HC.out.1, ← HC.out.2.1, ← hvv.out] at htk
  refine WL.callF (by kernel_rfl) 58 _ _ rfl Try.in58 #[ptr d, .agg vv] (by simp [Act.eval]) ?_
  refine (htk).mono ?_
  rintro e w7 ⟨rfl, g7, hs, hx⟩
  refine ⟨_, rfl, ?_⟩
  clear htk
  have HS7 := Keep.mk (HS6.out.trans hs)
  have HX7 := Keep.mk hx
  clear hs hx
  simp only [Act.put, List.setIfInBounds_toArray, List.set_cons_zero, List.set_cons_succ]
  refine WL.nil ?_
  refine hK9 _ _ ?_
  refine wp_seq_k fun K10 hK10 => ?_
  refine wp_region_list (WL.out ?_)
  refine WL.val (by kernel_rfl) (.int .i64 2) (by go_simp) ?_
  simp only [Act.put, List.setIfInBounds_toArray, List.set_cons_zero, List.set_cons_succ]
  refine WL.val (by kernel_rfl) (.int .i64 0) (by go_simp) ?_
  simp only [Act.put, List.setIfInBounds_toArray, List.set_cons_zero, List.set_cons_succ]
  refine WL.nil ?_
  refine hK10 _ _ ?_
  refine wp_ret ?_
  go_ret2
  exact ⟨rfl, g7, ⟨HS7.out.at', (Grown.below (S := DgS d g) LB5.out).trans HS7.out.grown, fun k hk => (HS7.out.sub k hk).imp id fun h => Nat.le_trans LB5.out.size h⟩, HX7.out⟩
end Go.Proofs.Ytogmdfhicbmplaa
namespace Go.Proofs.Ytogmdfhicbmplaa
open Go.RowKit
set_option linter.unusedSimpArgs false
set_option linter.unusedVariables false

set_option maxRecDepth 8000 in
theorem add_other (d : Nat) (v : VX) (p : Value) (Av : Nat → Prop) (g : DG) (w : World) (hw ee : Int) (hD : DagAt w Av d g) (hr : HRow w p v.ps) (hM : ∀ v ∈ g.held, 0 ≤ v.ck ∧ v.ck ≤ 4096) (hL : (v.ps.length : Int) ≤ 9223372036854775806) (hFt : fitV g.held g.wait v = (hw, ee)) (hN : ¬ hw = 2 ∧ ¬ hw = 3) :
    Calls Try.prog 17 #[ptr d, .agg (vtx v.id.f v.ck p)] w fun e w' => e = .returned (.tuple #[.int .i64 hw, .slice none 0 0, .int .i64 ee]) ∧ Below w.heap.size w w' := by
  obtain ⟨pa, pc, rfl⟩ := hr.form
  obtain ⟨vv, hvv⟩ : ∃ a : Array Value, Keep (a = vtx v.id.f v.ck (.slice pa v.ps.length pc)) := ⟨_, ⟨rfl⟩⟩
  rw [← hvv.out]
  have HD := Keep.mk hD
  have HR := Keep.mk hr
  have HM := Keep.mk hM
  have HL := Keep.mk hL
  have HFt := Keep.mk hFt
  have HN := Keep.mk hN
  clear hD hr hM hL hFt hN
  go_enter Try.func17, Try.ntmps17
  refine wp_seq_k fun K1 hK1 => ?_
  refine wp_region_list (WL.out ?_)
  refine WL.box (by kernel_rfl) 39 (.tmp 1) rfl (vv) rfl ?_
  obtain ⟨w1, hwn⟩ : ∃ wx, Keep (wx = w.alloc (.cells (vv) 39)) := ⟨_, ⟨rfl⟩⟩
  rw [← hwn.out]
  have HX1 : Keep (Blk w1 w.heap.size 39 (vv)) := ⟨by rw [hwn.out]; exact Blk.new _ _ _⟩
  have LB1 : Keep (Below w.heap.size w w1) := ⟨by rw [hwn.out]; exact below_new _ _⟩
  clear hwn
  have HD1 := Keep.mk (HD.out.below LB1.out)
  have HR1 := Keep.mk (HR.out.below LB1.out)
  simp only [Act.put, List.setIfInBounds_toArray, List.set_cons_zero, List.set_cons_succ]
  refine WL.val (by kernel_rfl) (.int .i64 0) (by go_simp) ?_
  simp only [Act.put, List.setIfInBounds_toArray, List.set_cons_zero, List.set_cons_succ]
  refine WL.val (by kernel_rfl) (.slice none 0 0) (by go_simp) ?_
  simp only [Act.put, List.setIfInBounds_toArray, List.set_cons_zero, List.set_cons_succ]
  refine WL.val (by kernel_rfl) (.int .i64 0) (by go_simp) ?_
  simp only [Act.put, List.setIfInBounds_toArray, List.set_cons_zero, List.set_cons_succ]
  refine WL.nil ?_
  refine hK1 _ _ ?_
  refine wp_seq_k fun K2 hK2 => ?_
  refine wp_region_list (WL.out ?_)
  refine WL.val (by kernel_rfl) (.pointer (some ⟨d, 0, none⟩)) (by go_simp) ?_
  simp only [Act.put, List.setIfInBounds_toArray, List.set_cons_zero, List.set_cons_succ]
  refine WL.row (by kernel_rfl) 39 (.tmp 3) rfl w.heap.size rfl 39 vv _ HX1.out Try.underlying39 rfl (by rw [hvv.out]; exact Try.info39s _ _ _) ?_
  simp only [Act.put, List.setIfInBounds_toArray, List.set_cons_zero, List.set_cons_succ]
  have hft := fit_any d v _ Av g w1 HD1.out HR1.out HM.out HL.out
  rw [← hvv.out, HFt.out] at hft
  refine WL.callF (by kernel_rfl) 28 _ _ rfl Try.in28 #[ptr d, .agg vv] (by simp [Act.eval]) ?_
  refine (hft).mono ?_
  rintro e w2 ⟨rfl, hz⟩
  refine ⟨_, rfl, ?_⟩
  clear hft
  have LB2 := Keep.mk (belowT LB1.out hz)
  clear hz
  have hn2 := HN.out.1
  have hn3 := HN.out.2
  simp only [Act.put, List.setIfInBounds_toArray, List.set_cons_zero, List.set_cons_succ]
  refine WL.val (by kernel_rfl) (.tuple #[.int .i64 hw, .int .i64 ee]) (by go_simp) ?_
  simp only [Act.put, List.setIfInBounds_toArray, List.set_cons_zero, List.set_cons_succ]
  refine WL.val (by kernel_rfl) (.int .i64 hw) (by go_simp) ?_
  simp only [Act.put, List.setIfInBounds_toArray, List.set_cons_zero, List.set_cons_succ]
  refine WL.val (by kernel_rfl) (.int .i64 ee) (by go_simp) ?_
  simp only [Act.put, List.setIfInBounds_toArray, List.set_cons_zero, List.set_cons_succ]
  refine WL.val (by kernel_rfl) (.int .i64 hw) (by go_simp) ?_
  simp only [Act.put, List.setIfInBounds_toArray, List.set_cons_zero, List.set_cons_succ]
  refine WL.val (by kernel_rfl) (.int .i64 ee) (by go_simp) ?_
  simp only [Act.put, List.setIfInBounds_toArray, List.set_cons_zero, List.set_cons_succ]
  refine WL.nil ?_
  refine hK2 _ _ ?_
  refine wp_seq_k fun K3 hK3 => ?_
  refine wp_seq_k fun K4 hK4 => ?_
  refine wp_region_list (WL.out ?_)
  refine WL.val (by kernel_rfl) (.int .i64 hw) (by go_simp) ?_
  simp only [Act.put, List.setIfInBounds_toArray, List.set_cons_zero, List.set_cons_succ]
  refine WL.nil ?_
  refine hK4 _ _ ?_
  refine wp_block ?_
  refine wp_seq_k fun K5 hK5 => ?_
  refine wp_region_list (WL.out ?_)
  refine WL.val (by kernel_rfl) (.bool false) (by go_simp) ?_
  simp only [Act.put, List.setIfInBounds_toArray, List.set_cons_zero, List.set_cons_succ]
  refine WL.val (by kernel_rfl) (.bool false) (by go_simp) ?_
  simp only [Act.put, List.setIfInBounds_toArray, List.set_cons_zero, List.set_cons_succ]
  refine WL.nil ?_
  refine hK5 _ _ ?_
  refine wp_cond_false rfl ?_
  refine wp_seq_k fun K6 hK6 => ?_
  refine wp_region_list (WL.out ?_)
  refine WL.val (by kernel_rfl) (.bool false) (by go_simp) ?_
  simp only [Act.put, List.setIfInBounds_toArray, List.set_cons_zero, List.set_cons_succ]
  refine WL.val (by kernel_rfl) (.bool false) (by go_simp) ?_
  simp only [Act.put, List.setIfInBounds_toArray, List.set_cons_zero, List.set_cons_succ]
  refine WL.nil ?_
  refine hK6 _ _ ?_
  refine wp_cond_false rfl ?_
  refine wp_skip ?_
  refine hK3 _ _ ?_
  refine wp_seq_k fun K7 hK7 => ?_
  refine wp_region_list (WL.out ?_)
  refine WL.val (by kernel_rfl) (.int .i64 hw) (by go_simp) ?_
  simp only [Act.put, List.setIfInBounds_toArray, List.set_cons_zero, List.set_cons_succ]
  refine WL.val (by kernel_rfl) (.slice none 0 0) (by go_simp) ?_
  simp only [Act.put, List.setIfInBounds_toArray, List.set_cons_zero, List.set_cons_succ]
  refine WL.val (by kernel_rfl) (.int .i64 ee) (by go_simp) ?_
  simp only [Act.put, List.setIfInBounds_toArray, List.set_cons_zero, List.set_cons_succ]
  refine WL.val (by kernel_rfl) (.int .i64 hw) (by go_simp) ?_
  simp only [Act.put, List.setIfInBounds_toArray, List.set_cons_zero, List.set_cons_succ]
  refine WL.val (by kernel_rfl) (.slice none 0 0) (by go_simp) ?_
  simp only [Act.put, List.setIfInBounds_toArray, List.set_cons_zero, List.set_cons_succ]
  refine WL.val (by kernel_rfl) (.int .i64 ee) (by go_simp) ?_
  simp only [Act.put, List.setIfInBounds_toArray, List.set_cons_zero, List.set_cons_succ]
  refine WL.nil ?_
  refine hK7 _ _ ?_
  refine wp_ret ?_
  go_ret3
  exact ⟨rfl, LB2.out⟩
/-- The oldest one whose parents are all held. -/
def nxQ (l m : List VX) : List Hs → Option VX
  | [] => none
  | x :: r => match m.find? (isV x) with
    | some v => if v.ps.all (hasB l) = true then some v else nxQ l m r
    | none => nxQ l m r
theorem built_zero : Try.prog.built 39 [] = some (vtx (fun _ => 0) 0 (.slice none 0 0)) := by kernel_rfl
set_option maxRecDepth 8000 in
set_option maxHeartbeats 1000000 in
theorem nextV_any (d : Nat) (Av : Nat → Prop) (g : DG) (w : World) (hD : DagAt w Av d g) (hQ : ∀ x ∈ g.queue, ∃ v, g.wait.find? (isV x) = some v) (hVl : ∀ v ∈ g.wait, v.ps.length ≤ 4398046511104) (hQl : g.queue.length ≤ 1000000000) : Calls Try.prog 35 #[ptr d] w fun e w' =>
    (nxQ g.held g.wait g.queue = none ∧ e = .returned (.tuple #[vZ, .bool false]) ∧ Below w.heap.size w w') ∨ ∃ v, nxQ g.held g.wait g.queue = some v ∧ ∃ p', e = .returned (.tuple #[.agg (vtx v.id.f v.ck p'), .bool true]) ∧ Fresh w w' p' v.ps := by
  have HD := Keep.mk hD
  have HQ := Keep.mk hQ
  have HVl := Keep.mk hVl
  have HQl := Keep.mk hQl
  clear hD hQ hVl hQl
  go_enter Try.func35, Try.ntmps35
  refine wp_seq_k fun K1 hK1 => ?_
  refine wp_region_list (WL.out ?_)
  refine WL.new (by kernel_rfl) 39 rfl _ Try.new39 ?_
  obtain ⟨vz, hvz⟩ : ∃ a : Array Value, Keep (a = vtx (fun _ => 0) 0 (.slice none 0 0)) := ⟨_, ⟨rfl⟩⟩
  rw [← hvz.out]
  have HZ1 := Keep.mk (Blk.new w 39 vz)
  have LB1 := Keep.mk (below_new w (.cells vz 39))
  generalize w.alloc (.cells vz 39) = w1 at *
  have HD1 := Keep.mk (HD.out.below LB1.out)
  obtain ⟨qa, qc, hqv⟩ := HD1.out.oq.sl
  have Hqv := Keep.mk hqv
  clear hqv
  have c5 : w1.cell? ⟨d, 5, none⟩ = some (.slice qa g.queue.length qc) := by have h := HD1.out.blk.c 5 (by rfl : (dgA g)[5]? = some g.qv); rw [Hqv.out] at h; exact h
  simp only [Act.put, List.setIfInBounds_toArray, List.set_cons_zero, List.set_cons_succ]
  refine WL.val (by kernel_rfl) (.bool false) (by go_simp) ?_
  simp only [Act.put, List.setIfInBounds_toArray, List.set_cons_zero, List.set_cons_succ]
  refine WL.nil ?_
  refine hK1 _ _ ?_
  refine wp_seq_k fun K2 hK2 => ?_
  refine wp_seq_k fun K3 hK3 => ?_
  refine wp_region_list (WL.out ?_)
  refine WL.val (by kernel_rfl) (.pointer (some ⟨d, 0, none⟩)) (by go_simp) ?_
  simp only [Act.put, List.setIfInBounds_toArray, List.set_cons_zero, List.set_cons_succ]
  refine WL.val (by kernel_rfl) (.pointer (some ⟨d, 0, none⟩)) (by go_simp) ?_
  simp only [Act.put, List.setIfInBounds_toArray, List.set_cons_zero, List.set_cons_succ]
  refine WL.val (by kernel_rfl) (.pointer (some ⟨d, 5, none⟩)) (by go_simp) ?_
  simp only [Act.put, List.setIfInBounds_toArray, List.set_cons_zero, List.set_cons_succ]
  refine WL.val (by kernel_rfl) (.slice qa g.queue.length qc) (by go_simp) ?_
  simp only [Act.put, List.setIfInBounds_toArray, List.set_cons_zero, List.set_cons_succ]
  refine WL.val (by kernel_rfl) (.int .i64 (g.queue.length : Int)) (by go_simp) ?_
  simp only [Act.put, List.setIfInBounds_toArray, List.set_cons_zero, List.set_cons_succ]
  refine WL.val (by kernel_rfl) (.int .i64 0) (by go_simp) ?_
  simp only [Act.put, List.setIfInBounds_toArray, List.set_cons_zero, List.set_cons_succ]
  refine WL.nil ?_
  refine hK3 _ _ ?_
  refine wp_block ?_
  refine wp_loop (fun ac wr => ∃ (t : Nat) (u3 u5 u6 u13 u14 u15 u16 u17 u18 u19 u20 u21 u22 u23 u24 u25 u26 u27 u28 : Value), ac = { tmps := #[.pointer (some ⟨d, 0, none⟩), undef, .pointer (some ⟨w.heap.size, 0, none⟩), u3, undef, u5, u6, .pointer (some ⟨d, 0, none⟩), .pointer (some ⟨d, 0, none⟩), .pointer (some ⟨d, 5, none⟩), .slice qa g.queue.length qc, .int .i64 (g.queue.length : Int), .int .i64 (t : Int), u13, u14, u15, u16, u17, u18, u19, u20, u21, u22, u23, u24, u25, u26, u27, u28, undef], defers := [] } ∧ t ≤ g.queue.length ∧ nxQ g.held g.wait g.queue = nxQ g.held g.wait (g.queue.drop t) ∧ Below w1.heap.size w1 wr) (fun a _ => g.queue.length - (intOf (a.tmps.getD 12 undef)).toNat) ⟨0, .bool false, undef, undef, undef, undef, undef, undef, undef, undef, undef, undef, undef, undef, undef, undef, undef, undef, undef, undef, rfl, by omega, rfl, Below.refl _ _⟩ ?_
  rintro ac wr ⟨t, u3, u5, u6, u13, u14, u15, u16, u17, u18, u19, u20, u21, u22, u23, u24, u25, u26, u27, u28, rfl, ht, hP, hB⟩
  have JB := Keep.mk hB
  have JP := Keep.mk hP
  clear hB hP
  have HDr := Keep.mk (HD1.out.below JB.out)
  have HZr := Keep.mk (HZ1.out.below JB.out HZ1.out.lt)
  have LBr := Keep.mk (belowT LB1.out JB.out)
  by_cases htl : t < g.queue.length
  · have htl' : (t : Int) < (g.queue.length : Int) := by omega
    have hwr1 : IntKind.i64.wrap ((t : Int) + 1) = (t : Int) + 1 := by rw [IntKind.wrap_i64]; have := HQl.out; omega
    obtain ⟨gp, op, hpa, _, _, hrg⟩ := (Hqv.out ▸ HDr.out.oq.row : HRow wr (.slice qa g.queue.length qc) g.queue).at (by omega)
    have hel := rangeAt_elem hrg t htl
    obtain ⟨hh, hhh⟩ : ∃ hh, hh = g.queue[t] := ⟨_, rfl⟩
    rw [← hhh] at hel
    have Hel := Keep.mk hel
    have Jhh := Keep.mk hhh
    obtain ⟨v, hv⟩ := HQ.out hh (by rw [hhh]; exact List.getElem_mem htl)
    have HF := Keep.mk hv
    have hvl := HVl.out v (List.mem_of_find?_eq_some hv)
    have HLv := Keep.mk hvl
    have hid : hh = v.id := by have h := List.find?_some hv; simpa [isV] using h
    have Hid := Keep.mk hid
    subst hpa
    clear hel hrg hhh hv hvl hid
    refine wp_seq_k fun K4 hK4 => ?_
    refine wp_region_list (WL.out ?_)
    refine WL.val (by kernel_rfl) (.bool true) (by go_simp) ?_
    simp only [Act.put, List.setIfInBounds_toArray, List.set_cons_zero, List.set_cons_succ]
    refine WL.nil ?_
    refine hK4 _ _ ?_
    refine wp_seq_k fun K5 hK5 => ?_
    refine wp_cond_true rfl ?_
    refine wp_skip ?_
    refine hK5 _ _ ?_
    refine wp_seq_k fun K6 hK6 => ?_
    refine wp_block ?_
    refine wp_seq_k fun K7 hK7 => ?_
    refine wp_region_list (WL.out ?_)
    refine WL.val (by kernel_rfl) (.pointer (some ⟨gp, op + t * 32, none⟩)) (by go_simp) ?_
    simp only [Act.put, List.setIfInBounds_toArray, List.set_cons_zero, List.set_cons_succ]
    refine WL.mid (by kernel_rfl) 36 (.tmp 14) rfl gp (op + t * 32) rfl (encH hh) _ Hel.out Try.underlying36 rfl (Try.size36L hh) ?_
    rw [enc_load]
    simp only [Act.put, List.setIfInBounds_toArray, List.set_cons_zero, List.set_cons_succ]
    refine WL.new (by kernel_rfl) 36 rfl _ Try.new36 ?_
    simp only [Act.put, List.setIfInBounds_toArray, List.set_cons_zero, List.set_cons_succ]
    refine WL.storeR (by kernel_rfl) 36 (.tmp 5) (.tmp 15) rfl wr.heap.size (bytesA 32 hh.f) rfl rfl 36 (bytesA 32 fun _ => 0) (Blk.new wr 36 _) (Try.size36B _) (bytesA_sizes _ _ _) (bytesA_one _ _) ?_
    have HX2 := Keep.mk ((Blk.new wr 36 (bytesA 32 fun _ => 0)).setRow (bytesA 32 hh.f))
    have B2 : Keep (Below wr.heap.size wr ((wr.alloc (.cells (bytesA 32 fun _ => 0) 36)).setRow wr.heap.size (bytesA 32 hh.f))) := ⟨below_setRow (below_new wr _) (Nat.le_refl _) _⟩
    generalize (wr.alloc (.cells (bytesA 32 fun _ => 0) 36)).setRow wr.heap.size (bytesA 32 hh.f) = w2 at *
    have HD2 := Keep.mk (HDr.out.below B2.out)
    have HZ2 := Keep.mk (HZr.out.below B2.out HZr.out.lt)
    have LB2 := Keep.mk (belowT LBr.out B2.out)
    have JB2 := Keep.mk (belowT JB.out B2.out)
    generalize wr.heap.size = bb at *
    clear Hel
    simp only [Act.put]
    refine WL.nil ?_
    refine hK7 _ _ ?_
    refine wp_seq_k fun K8 hK8 => ?_
    obtain ⟨es, ck, c0, k0, pa, pn, pm, hes, hl1, hl2, hcs⟩ := look1 HD2.out.wait hh
    obtain ⟨vv, hvv⟩ : ∃ a : Array Value, Keep (a = vtx c0 k0 (.slice pa pn pm)) := ⟨_, ⟨rfl⟩⟩
    rw [← hvv.out] at hl2
    have H1 := Keep.mk hl2
    have HC : Keep (c0 = v.id.f ∧ k0 = v.ck ∧ HRow w2 (.slice pa pn pm) v.ps) := ⟨hcs.elim (fun h => absurd (HF.out.symm.trans h.1) (by simp)) fun ⟨v', h, h2, h3, h4, _⟩ => by cases Option.some.inj (HF.out.symm.trans h); exact ⟨h2, h3, h4⟩⟩
    have hSB : Keep (∀ wx, Below w2.heap.size w2 wx → (fun wx => wx.cell? ⟨d, 4, none⟩ = some (.map (some g.wb)) ∧ wx.rangeAt bb 0 (bytesA 32 hh.f).toList ∧ wx.heap[g.wb]? = some (.map es ck)) wx) := ⟨fun wx hb => ⟨(HD2.out.blk.below hb HD2.out.blk.lt).c 4 rfl, blk_rng (HX2.out.below hb HX2.out.lt), by rw [hb.block _ (Array.getElem?_eq_some_iff.1 hes).1]; exact hes⟩⟩
    have B3 : Keep (Below w2.heap.size w2 w2.drew) := ⟨(Below.refl _ _).drew⟩
    clear hl1 hl2 hcs hes
    refine wp_region_held_drew (S := fun wx => wx.cell? ⟨d, 4, none⟩ = some (.map (some g.wb)) ∧ wx.rangeAt bb 0 (bytesA 32 hh.f).toList ∧ wx.heap[g.wb]? = some (.map es ck)) (by kernel_rfl) (hSB.out _ B3.out) (fun hHeld => ?_)
    refine wpAnyH_take (i := 0) (oi := ⟨some 16, Op.move (Operand.tmp 0), 27, _, _, none⟩) (v := .pointer (some ⟨d, 0, none⟩)) rfl (by kernel_rfl) (by kernel_rfl) (by kernel_rfl) (fun _ _ _ h => h) (Or.inl ⟨by rfl, fun w hS => by obtain ⟨hS1, hS2, hS3⟩ := hS; go_simp⟩) hHeld ?_
    simp only [Act.put, List.setIfInBounds_toArray, List.set_cons_zero, List.set_cons_succ]
    refine wpAnyH_take (i := 1) (oi := ⟨some 17, Op.nilCheck (Operand.tmp 16), 0, _, _, none⟩) (v := .pointer (some ⟨d, 0, none⟩)) rfl (by kernel_rfl) (by kernel_rfl) (by kernel_rfl) (fun _ _ _ h => h) (Or.inl ⟨by rfl, fun w hS => by obtain ⟨hS1, hS2, hS3⟩ := hS; go_simp⟩) hHeld ?_
    simp only [Act.put, List.setIfInBounds_toArray, List.set_cons_zero, List.set_cons_succ]
    refine wpAnyH_take (i := 2) (oi := ⟨some 18, Op.fieldAddr 77 (Operand.tmp 17) 4, 0, _, _, none⟩) (v := .pointer (some ⟨d, 4, none⟩)) rfl (by kernel_rfl) (by kernel_rfl) (by kernel_rfl) (fun _ _ _ h => h) (Or.inl ⟨by rfl, fun w hS => by obtain ⟨hS1, hS2, hS3⟩ := hS; go_simp⟩) hHeld ?_
    simp only [Act.put, List.setIfInBounds_toArray, List.set_cons_zero, List.set_cons_succ]
    refine wpAnyH_take (i := 3) (oi := ⟨some 19, Op.load 75 (Operand.tmp 18), 75, _, _, none⟩) (v := .map (some g.wb)) rfl (by kernel_rfl) (by kernel_rfl) (by kernel_rfl) (fun _ _ _ h => h) (Or.inl ⟨by rfl, fun w hS => by obtain ⟨hS1, hS2, hS3⟩ := hS; go_simp⟩) hHeld ?_
    simp only [Act.put, List.setIfInBounds_toArray, List.set_cons_zero, List.set_cons_succ]
    refine wpAnyH_take (i := 4) (oi := ⟨some 20, Op.load 36 (Operand.tmp 5), 36, _, _, none⟩) (v := .agg (bytesA 32 hh.f)) rfl (by kernel_rfl) (by kernel_rfl) (by kernel_rfl) (fun _ _ _ h => h) (yieldsIf_ld (by rfl) (Operand.tmp 5) 36 rfl bb 0 rfl (bytesA 32 hh.f) _ Try.underlying36 rfl (size36A _) fun w hS => hS.2.1) hHeld ?_
    simp only [Act.put, List.setIfInBounds_toArray, List.set_cons_zero, List.set_cons_succ]
    refine wpAnyH_take (i := 5) (oi := ⟨some 21, Op.lookup 75 (Operand.tmp 19) (Operand.tmp 20) false, 39, _, _, none⟩) (v := .agg vv) rfl (by kernel_rfl) (by kernel_rfl) (by kernel_rfl) (fun _ _ _ h => h) (yieldsIf_look (by rfl) (Operand.tmp 19) (Operand.tmp 20) false rfl g.wb hh.f rfl rfl _ fun wx hS => H1.out wx hS.2.2) hHeld ?_
    simp only [Act.put, List.setIfInBounds_toArray, List.set_cons_zero, List.set_cons_succ]
    refine wpAnyH_ready (rs := [6]) (by kernel_rfl) (by simp) ?_
    refine AllReadyH.cons (o := ⟨some 6, Op.alloc 39, 0, _, _, none⟩) rfl (fun K hK => ?_) AllReadyH.nil
    rw [if_pos (by rfl)]
    refine wp_newA 39 rfl vz (by rw [hvz.out]; exact Try.new39) ?_
    have B4 := Keep.mk (B3.out.alloc (Nat.le_refl _) (.cells vz 39))
    obtain ⟨w4, hw4⟩ : ∃ wx, Keep (wx = w2.drew.alloc (.cells vz 39)) := ⟨_, ⟨rfl⟩⟩
    rw [← hw4.out]
    have HB4 : Keep (Blk w4 w2.drew.heap.size 39 vz) := ⟨by rw [hw4.out]; exact Blk.new _ _ _⟩
    have B4 : Keep (Below w2.heap.size w2 w4) := ⟨by rw [hw4.out]; exact B4.out⟩
    have hL4 : Keep (w2.heap.size ≤ w2.drew.heap.size) := ⟨Nat.le_refl _⟩
    clear hw4
    generalize w2.drew.heap.size = n1 at *
    refine hK _ _ (hSB.out _ B4.out) fun hH1 => ?_
    clear hK
    simp only [Act.put, List.setIfInBounds_toArray, List.set_cons_zero, List.set_cons_succ]
    refine wpAnyH_ready (rs := [7]) (by kernel_rfl) (by simp) ?_
    refine AllReadyH.cons (o := ⟨none, Op.store 39 (Operand.tmp 6) (Operand.tmp 21), 0, _, _, none⟩) rfl (fun K hK => ?_) AllReadyH.nil
    rw [if_pos (by rfl)]
    refine wp_store_row 39 (Operand.tmp 6) (Operand.tmp 21) rfl n1 vv rfl rfl 39 vz HB4.out (by rw [hvv.out]; exact Try.info39s _ _ _) (by rw [hvv.out, hvz.out, vtx_size, vtx_size]) (by rw [hvv.out]; exact vtx_one _ _ _ (slice_one _ _ _)) ?_
    have B5 := Keep.mk (below_setRow B4.out hL4.out vv)
    have HX5 := Keep.mk (HB4.out.setRow vv)
    refine hK _ _ (hSB.out _ B5.out) fun hH2 => ?_
    generalize w4.setRow n1 vv = w5 at *
    have HD5 := Keep.mk (HD2.out.below B5.out)
    have HZ5 := Keep.mk (HZ2.out.below B5.out HZ2.out.lt)
    have LB5 := Keep.mk (belowT LB2.out B5.out)
    have JB5 := Keep.mk (belowT JB2.out B5.out)
    have HR5 := Keep.mk (HC.out.2.2.below B5.out)
    obtain ⟨_, pm', hpf⟩ := HR5.out.form
    injection hpf with _ hpn _
    subst hpn
    have c33 : w5.cell? ⟨n1, 33, none⟩ = some (.slice pa v.ps.length pm) := HX5.out.c 33 (by rw [hvv.out]; exact vtx_ps _ _ _)
    clear hK hH1 HB4 B4 B3 hSB
    simp only [Act.put, List.setIfInBounds_toArray, List.set_cons_zero, List.set_cons_succ]
    refine wpAnyH_done (by kernel_rfl) ?_ _
    refine hK8 _ _ ?_
    refine wp_seq_k fun K9 hK9 => ?_
    refine wp_region_list (WL.out ?_)
    refine WL.val (by kernel_rfl) (.pointer (some ⟨d, 0, none⟩)) (by go_simp) ?_
    simp only [Act.put, List.setIfInBounds_toArray, List.set_cons_zero, List.set_cons_succ]
    refine WL.val (by kernel_rfl) (.pointer (some ⟨n1, 33, none⟩)) (by go_simp) ?_
    simp only [Act.put, List.setIfInBounds_toArray, List.set_cons_zero, List.set_cons_succ]
    refine WL.val (by kernel_rfl) (.slice pa v.ps.length pm) (by go_simp) ?_
    simp only [Act.put, List.setIfInBounds_toArray, List.set_cons_zero, List.set_cons_succ]
    clear c33
    have hal := hasAll_any d _ v.ps Av g w5 HD5.out HR5.out (by have := HLv.out; omega)
    refine WL.callF (by kernel_rfl) 68 _ _ rfl Try.in68 #[ptr d, .slice pa v.ps.length pm] (by simp [Act.eval]) ?_
    refine (hal).mono ?_
    rintro e w6 ⟨rfl, hz⟩
    refine ⟨_, rfl, ?_⟩
    clear hal
    have HX6 := Keep.mk (HX5.out.below hz HX5.out.lt)
    have HZ6 := Keep.mk (HZ5.out.below hz HZ5.out.lt)
    have LB6 := Keep.mk (belowT LB5.out hz)
    have JB6 := Keep.mk (belowT JB5.out hz)
    have HR6 := Keep.mk (HR5.out.below hz)
    obtain ⟨ba, Hba⟩ : ∃ b, Keep (v.ps.all (hasB g.held) = b) := ⟨_, ⟨rfl⟩⟩
    rw [Hba.out]
    have HPc : Keep (nxQ g.held g.wait g.queue = if ba = true then some v else nxQ g.held g.wait (g.queue.drop (t + 1))) := ⟨by rw [JP.out, List.drop_eq_getElem_cons htl, nxQ, ← Jhh.out, HF.out, ← Hba.out]⟩
    clear hz
    simp only [Act.put, List.setIfInBounds_toArray, List.set_cons_zero, List.set_cons_succ]
    refine WL.nil ?_
    refine hK9 _ _ ?_
    rcases Bool.eq_false_or_eq_true ba with hba | hba
    · subst hba
      refine wp_cond_true rfl ?_
      refine wp_seq_k fun K10 hK10 => ?_
      refine wp_region_list (WL.out ?_)
      refine WL.row (by kernel_rfl) 39 (.tmp 6) rfl n1 rfl 39 vv _ HX6.out Try.underlying39 rfl (by rw [hvv.out]; exact Try.info39s _ _ _) ?_
      simp only [Act.put, List.setIfInBounds_toArray, List.set_cons_zero, List.set_cons_succ]
      have how := own_any v _ w6 HR6.out (by have := HLv.out; omega)
      rw [← HC.out.1, ← HC.out.2.1, ← hvv.out] at how
      refine WL.callF (by kernel_rfl) 59 _ _ rfl Try.in59 #[.agg vv] (by simp [Act.eval]) ?_
      refine (how).mono ?_
      rintro e w7 ⟨p7, rfl, hf⟩
      refine ⟨_, rfl, ?_⟩
      clear how
      have HF7 := Keep.mk hf
      have HZ7 := Keep.mk (HZ6.out.below hf.bel HZ6.out.lt)
      have LB7 := Keep.mk (belowT LB6.out hf.bel)
      obtain ⟨pa7, pc7, hp7⟩ := hf.own.sl
      have HP7 := Keep.mk hp7
      obtain ⟨vq, hvq⟩ : ∃ a : Array Value, Keep (a = vtx c0 k0 p7) := ⟨_, ⟨rfl⟩⟩
      have HI7 : Keep ((Try.prog.info? 39).map (·.size) = some vq.size) := ⟨by rw [hvq.out]; exact Try.info39s _ _ _⟩
      have HO7 : Keep (vq.all (·.oneCell') = true) := ⟨by rw [hvq.out, hp7]; exact vtx_one _ _ _ (slice_one _ _ _)⟩
      have HS7 : Keep (vz.size = vq.size) := ⟨by rw [hvq.out, hvz.out, vtx_size, vtx_size]⟩
      rw [← hvq.out]
      clear hf hp7 HX6 HR6
      simp only [Act.put, List.setIfInBounds_toArray, List.set_cons_zero, List.set_cons_succ]
      refine WL.storeR (by kernel_rfl) 39 (.tmp 2) (.tmp 27) rfl w.heap.size vq rfl rfl 39 vz HZ7.out HI7.out HS7.out HO7.out ?_
      have HZ8 := Keep.mk (HZ7.out.setRow vq)
      have LB8 := Keep.mk (below_setRow LB7.out (b := w.heap.size) (Nat.le_refl _) vq)
      have G8 : Keep (Grown w7 (w7.setRow w.heap.size vq) fun k => k = w.heap.size) := ⟨Grown.setRow w7 _ _ fun _ => rfl⟩
      generalize w7.setRow w.heap.size vq = w8 at *
      simp only [Act.put]
      refine WL.val (by kernel_rfl) (.bool true) (by go_simp) ?_
      simp only [Act.put, List.setIfInBounds_toArray, List.set_cons_zero, List.set_cons_succ]
      refine WL.nil ?_
      refine hK10 _ _ ?_
      refine wp_ret ?_
      try simp only [Exit.inBlock, Exit.then]
      refine bodyPost_ret (v := .tuple #[.agg vq, .bool true]) (results_cell_row2 Try.results35 _ _ w.heap.size 39 _ (0, 0) _ _ rfl rfl HZ8.out Try.underlying39 rfl HI7.out) rfl ?_
      refine .inr ⟨v, HPc.out, p7, by rw [hvq.out, HC.out.1, HC.out.2.1], ⟨HF7.out.own.grown G8.out fun k hk e => ?_, fun k hk => Nat.le_trans LB6.out.size (HF7.out.new k hk), LB8.out⟩⟩
      have := HF7.out.new k hk; have := HZ6.out.lt; omega
    · subst hba
      refine wp_cond_false rfl ?_
      refine wp_skip ?_
      refine hK6 _ _ ?_
      refine wp_region_list (WL.out ?_)
      refine WL.val (by kernel_rfl) (.int .i64 ((t : Int) + 1)) (by go_simp) ?_
      simp only [Act.put, List.setIfInBounds_toArray, List.set_cons_zero, List.set_cons_succ]
      refine WL.val (by kernel_rfl) (.int .i64 ((t : Int) + 1)) (by go_simp) ?_
      simp only [Act.put, List.setIfInBounds_toArray, List.set_cons_zero, List.set_cons_succ]
      refine WL.nil ?_
      refine ⟨⟨t + 1, u3, .pointer (some ⟨bb, 0, none⟩), .pointer (some ⟨n1, 0, none⟩), .bool true, .pointer (some ⟨gp, op + t * 32, none⟩), .agg (bytesA 32 hh.f), .pointer (some ⟨d, 0, none⟩), .pointer (some ⟨d, 0, none⟩), .pointer (some ⟨d, 4, none⟩), .map (some g.wb), .agg (bytesA 32 hh.f), .agg vv, .pointer (some ⟨d, 0, none⟩), .pointer (some ⟨n1, 33, none⟩), .slice pa v.ps.length pm, .bool false, u26, u27, .int .i64 ((t : Int) + 1), rfl, by omega, ?_, JB6.out⟩, ?_⟩
      · rw [HPc.out]; rfl
      · simp only [intOf]; show g.queue.length - ((t : Int) + 1).toNat < g.queue.length - ((t : Int)).toNat; omega
  · have hte : Keep (t = g.queue.length) := ⟨by omega⟩
    have htl' : ¬ (t : Int) < (g.queue.length : Int) := by omega
    refine wp_seq_k fun K11 hK11 => ?_
    refine wp_region_list (WL.out ?_)
    refine WL.val (by kernel_rfl) (.bool false) (by go_simp) ?_
    simp only [Act.put, List.setIfInBounds_toArray, List.set_cons_zero, List.set_cons_succ]
    refine WL.nil ?_
    refine hK11 _ _ ?_
    refine wp_seq_k fun K12 hK12 => ?_
    refine wp_cond_false rfl ?_
    refine wp_exit ?_
    refine hK2 _ _ ?_
    refine wp_seq_k fun K13 hK13 => ?_
    refine wp_region_list (WL.out ?_)
    refine WL.bld (by kernel_rfl) 39 _ rfl [] (by simp) vz (by rw [hvz.out]; exact built_zero) ?_
    simp only [Act.put, List.setIfInBounds_toArray, List.set_cons_zero, List.set_cons_succ]
    refine WL.storeR (by kernel_rfl) 39 (.tmp 2) (.tmp 29) rfl w.heap.size vz rfl rfl 39 vz HZr.out (by rw [hvz.out]; exact Try.info39s _ _ _) rfl (by rw [hvz.out]; exact vtx_one _ _ _ (slice_one _ _ _)) ?_
    have HZ8 := Keep.mk (HZr.out.setRow vz)
    have LB8 := Keep.mk (below_setRow LBr.out (b := w.heap.size) (Nat.le_refl _) vz)
    generalize wr.setRow w.heap.size vz = w8 at *
    simp only [Act.put]
    refine WL.val (by kernel_rfl) (.bool false) (by go_simp) ?_
    simp only [Act.put, List.setIfInBounds_toArray, List.set_cons_zero, List.set_cons_succ]
    refine WL.nil ?_
    refine hK13 _ _ ?_
    refine wp_ret ?_
    try simp only [Exit.inBlock, Exit.then]
    refine bodyPost_ret (v := .tuple #[.agg vz, .bool false]) (results_cell_row2 Try.results35 _ _ w.heap.size 39 _ (0, 0) _ _ rfl rfl HZ8.out Try.underlying39 rfl (by rw [hvz.out]; exact Try.info39s _ _ _)) rfl ?_
    refine .inl ⟨by rw [JP.out, hte.out, List.drop_length]; rfl, by rw [hvz.out]; rfl, LB8.out⟩
end Go.Proofs.Ytogmdfhicbmplaa
namespace Go.Proofs.Ytogmdfhicbmplaa
open Go.RowKit
set_option linter.unusedSimpArgs false
set_option linter.unusedVariables false

/-! ### Lists that rise. -/
theorem rises_pw {L : List Hs} (h : risesB L = true) : L.Pairwise Lt := by
  rw [risesB_iff] at h
  have key : ∀ n i : Nat, i + n + 1 < L.length → Lt (L.getD i default) (L.getD (i + n + 1) default) := by
    intro n
    induction n with
    | zero => intro i hi; exact h i hi
    | succ n ih =>
      intro i hi
      have h1 := ih i (by omega)
      have h2 := h (i + n + 1) (by omega)
      exact h1.trans h2
  rw [List.pairwise_iff_getElem]
  intro i j hi hj hij
  have := key (j - i - 1) i (by omega)
  rw [show i + (j - i - 1) + 1 = j by omega] at this
  simpa [List.getD_eq_getElem?_getD, hi, hj] using this
theorem pw_inc {L : List Hs} (h : L.Pairwise Lt) : Inc L := fun i j hij hj => by
  have := (List.pairwise_iff_getElem.1 h) i j (by omega) hj hij
  simpa [List.getD_eq_getElem?_getD, hj, show i < L.length by omega] using this
theorem pw_nodup {L : List Hs} (h : L.Pairwise Lt) : L.Nodup := h.imp fun h => h.ne
theorem getD_at {l : List Hs} {k : Nat} {z : Hs} (h : l[k]? = some z) : l.getD k default = z := by rw [List.getD_eq_getElem?_getD, h]; rfl
theorem at_getD {l : List Hs} {k : Nat} (h : k < l.length) : l[k]? = some (l.getD k default) := by rw [List.getD_eq_getElem?_getD, List.getElem?_eq_getElem h]; rfl
/-! ### Where a vertex is placed. -/
theorem plc_gen (v : VX) (l : List Hs) : ∀ k b, k ≤ b → b ≤ l.length → (∀ (j : Nat) z, k ≤ j → l[j]? = some z → z ∉ v.ps) → (∀ z, l[b]? = some z → Lt v.id z) → (∀ (j : Nat) z, k ≤ j → j < b → l[j]? = some z → ¬ Lt v.id z) →
    plc v l k b ≤ l.length ∧ (∀ (j : Nat) z, l[j]? = some z → z ∈ v.ps → j < plc v l k b) ∧ (∀ z, l[plc v l k b]? = some z → Lt v.id z) ∧ (∀ (i : Nat) z, i < plc v l k b → l[i]? = some z → Lt v.id z → ∃ (j : Nat) (y : Hs), i ≤ j ∧ l[j]? = some y ∧ y ∈ v.ps)
  | 0, b, h1, h2, h3, h4, h5 => by
    unfold plc
    exact ⟨h2, fun j z hj hz => absurd hz (h3 j z (Nat.zero_le _) hj), h4, fun i z hi hz hlt => absurd hlt (h5 i z (Nat.zero_le _) hi hz)⟩
  | k + 1, b, h1, h2, h3, h4, h5 => by
    have hk := at_getD (l := l) (k := k) (by omega)
    unfold plc
    by_cases hp : l.getD k default ∈ v.ps
    · rw [if_pos hp]
      refine ⟨h2, fun j z hj hz => ?_, h4, fun i z hi hz hlt => ?_⟩
      · exact Nat.lt_of_not_le fun hb => h3 j z (by omega) hj hz
      · by_cases hik : i ≤ k
        · exact ⟨k, _, hik, hk, hp⟩
        · exact absurd hlt (h5 i z (by omega) hi hz)
    · rw [if_neg hp]
      refine plc_gen v l k _ ?_ ?_ ?_ ?_ ?_
      · split <;> omega
      · split <;> omega
      · intro j z hj hz
        rcases Nat.lt_or_eq_of_le hj with h | rfl
        · exact h3 j z h hz
        · rw [hk] at hz; cases hz; exact hp
      · intro z hz
        by_cases hc : cf v.id (l.getD k default) < 0
        · rw [if_pos hc, hk] at hz; cases hz; exact hc
        · rw [if_neg hc] at hz; exact h4 z hz
      · intro j z hj hb hz
        rcases Nat.lt_or_eq_of_le hj with h | rfl
        · refine h5 j z h ?_ hz
          split at hb <;> omega
        · rw [hk] at hz; cases hz
          intro hc
          have hc' : cf v.id (l.getD k default) < 0 := hc
          rw [if_pos hc'] at hb
          omega
theorem plc_spec (v : VX) (l : List Hs) :
    plc v l l.length l.length ≤ l.length ∧ (∀ (j : Nat) z, l[j]? = some z → z ∈ v.ps → j < plc v l l.length l.length) ∧ (∀ z, l[plc v l l.length l.length]? = some z → Lt v.id z) ∧ (∀ (i : Nat) z, i < plc v l l.length l.length → l[i]? = some z → Lt v.id z → ∃ (j : Nat) (y : Hs), i ≤ j ∧ l[j]? = some y ∧ y ∈ v.ps) :=
  plc_gen v l l.length l.length (Nat.le_refl _) (Nat.le_refl _) (fun j z hj hz => by rw [List.getElem?_eq_none hj] at hz; cases hz) (fun z hz => by rw [List.getElem?_eq_none (Nat.le_refl _)] at hz; cases hz) (fun j z h1 h2 => by omega)
/-! ### Vertices by their hashes. -/
theorem isV_iff {x : Hs} {v : VX} : isV x v = true ↔ v.id = x := by unfold isV; rw [decide_eq_true_iff]; exact eq_comm
theorem hasB_iff {l : List VX} {x : Hs} : hasB l x = true ↔ ∃ v ∈ l, v.id = x := by
  unfold hasB
  rw [List.find?_isSome]
  exact ⟨fun ⟨v, h1, h2⟩ => ⟨v, h1, isV_iff.1 h2⟩, fun ⟨v, h1, h2⟩ => ⟨v, h1, isV_iff.2 h2⟩⟩
theorem hasB_no {l : List VX} {x : Hs} : hasB l x = false ↔ ∀ v ∈ l, v.id ≠ x := by
  rw [Bool.eq_false_iff]
  constructor
  · intro h v hv e; exact h (hasB_iff.2 ⟨v, hv, e⟩)
  · intro h e; obtain ⟨v, hv, e⟩ := hasB_iff.1 e; exact h v hv e
theorem hasB_app {l m : List VX} {x : Hs} : hasB (l ++ m) x = (hasB l x || hasB m x) := by
  rw [Bool.eq_iff_iff, Bool.or_eq_true, hasB_iff, hasB_iff, hasB_iff]
  constructor
  · rintro ⟨v, hv, e⟩
    rcases List.mem_append.1 hv with h | h
    · exact .inl ⟨v, h, e⟩
    · exact .inr ⟨v, h, e⟩
  · rintro (⟨v, h, e⟩ | ⟨v, h, e⟩)
    · exact ⟨v, List.mem_append.2 (.inl h), e⟩
    · exact ⟨v, List.mem_append.2 (.inr h), e⟩
theorem hasB_one {v : VX} {x : Hs} : hasB [v] x = true ↔ x = v.id := by
  rw [hasB_iff]
  constructor
  · rintro ⟨u, hu, e⟩; rw [List.mem_singleton] at hu; subst hu; exact e.symm
  · rintro rfl; exact ⟨v, by simp, rfl⟩
theorem find_none {l : List VX} {x : Hs} (h : hasB l x = false) : l.find? (isV x) = none := by
  unfold hasB at h
  cases hf : l.find? (isV x) with
  | none => rfl
  | some v => rw [hf] at h; cases h
theorem find_has {l : List VX} {x : Hs} (h : hasB l x = true) : ∃ v, l.find? (isV x) = some v ∧ v ∈ l ∧ v.id = x := by
  unfold hasB at h
  obtain ⟨v, hv⟩ := Option.isSome_iff_exists.1 h
  exact ⟨v, hv, List.mem_of_find?_eq_some hv, isV_iff.1 (List.find?_some hv)⟩
theorem find_mem {l : List VX} (hn : (l.map (·.id)).Nodup) {v : VX} (hv : v ∈ l) : l.find? (isV v.id) = some v := by
  induction l with
  | nil => cases hv
  | cons u r ih =>
    rw [List.map_cons, List.nodup_cons] at hn
    rw [List.find?_cons]
    rcases List.mem_cons.1 hv with rfl | h
    · rw [isV_iff.2 rfl]
    · have hne : isV v.id u = false := by
        rw [Bool.eq_false_iff, Ne, isV_iff]
        intro e
        exact hn.1 (List.mem_map.2 ⟨v, h, e.symm⟩)
      rw [hne]
      exact ih hn.2 h
theorem find_app {l m : List VX} {x : Hs} (h : hasB l x = true) : (l ++ m).find? (isV x) = l.find? (isV x) := by
  obtain ⟨v, hv, _⟩ := find_has h
  rw [List.find?_append, hv]; rfl
theorem ckOf_app {l m : List VX} {x : Hs} (h : hasB l x = true) : ckOf (l ++ m) x = ckOf l x := by unfold ckOf; rw [find_app h]
theorem mxC_app {l m : List VX} {ps : List Hs} (h : ∀ p ∈ ps, hasB l p = true) : mxC (l ++ m) ps = mxC l ps := by
  unfold mxC
  suffices H : ∀ (ps : List Hs) (k : Int), (∀ p ∈ ps, hasB l p = true) → ps.foldl (fun m' h => if ckOf (l ++ m) h > m' then ckOf (l ++ m) h else m') k = ps.foldl (fun m h => if ckOf l h > m then ckOf l h else m) k from H ps 0 h
  intro ps
  induction ps with
  | nil => intros; rfl
  | cons x r ih =>
    intro k hk
    rw [List.foldl_cons, List.foldl_cons, ckOf_app (hk x (by simp))]
    exact ih _ fun p hp => hk p (by simp [hp])
/-- The parents of a held one. -/
def parH (l : List VX) (x : Hs) : List Hs := match l.find? (isV x) with
  | some v => v.ps
  | none => []
theorem parH_app {l m : List VX} {x : Hs} (h : hasB l x = true) : parH (l ++ m) x = parH l x := by unfold parH; rw [find_app h]
theorem parH_mem {l : List VX} (hn : (l.map (·.id)).Nodup) {v : VX} (hv : v ∈ l) : parH l v.id = v.ps := by unfold parH; rw [find_mem hn hv]
theorem chk_ok {v : VX} (h : chkV v = 0) : v.ps.length ≤ 64 ∧ v.ps.Pairwise Lt ∧ 1 ≤ v.ck ∧ v.ck ≤ 4096 ∧ (v.ck = 1 ↔ v.ps.length = 0) := by
  unfold chkV at h
  by_cases h1 : 64 < v.ps.length ∨ risesB v.ps = false
  · rw [if_pos h1] at h; cases h
  · rw [if_neg h1] at h
    by_cases h2 : v.ck < 1 ∨ 4096 < v.ck ∨ ¬ (v.ck = 1 ↔ v.ps.length = 0)
    · rw [if_pos h2] at h; cases h
    · rw [not_or] at h1
      rw [not_or, not_or, Classical.not_not] at h2
      exact ⟨by omega, rises_pw (by simpa using h1.2), by omega, by omega, h2.2.2⟩
theorem next_ok {l : List VX} {v : VX} (h : nextE l v = 0) : v.ck = mxC l v.ps + 1 ∧ l.length < 4096 := by
  unfold nextE at h
  by_cases h1 : v.ck ≠ mxC l v.ps + 1
  · rw [if_pos h1] at h; cases h
  · rw [if_neg h1] at h
    by_cases h2 : 4096 ≤ l.length
    · rw [if_pos h2] at h; cases h
    · exact ⟨Classical.not_not.1 h1, by omega⟩
/-! ### What the heads are then. -/
def hdsOf (h : List Hs) (v : VX) : List Hs := insL (h.filter (outB v.ps)) ((h.filter (outB v.ps)).countP fun x => decide (cf x v.id < 0)) v.id
theorem cnt_at {l : List Hs} {x : Hs} {i : Nat} (hi : i ≤ l.length) (h1 : ∀ k, k < i → Lt (l.getD k default) x) (h2 : ∀ k, i ≤ k → k < l.length → ¬ Lt (l.getD k default) x) : l.countP (fun h => decide (cf h x < 0)) = i := by
  conv => lhs; rw [← List.take_append_drop i l]
  rw [List.countP_append]
  have e1 : (l.take i).countP (fun h => decide (cf h x < 0)) = i := by
    have : (l.take i).countP (fun h => decide (cf h x < 0)) = (l.take i).length := List.countP_eq_length.2 fun a ha => by
      obtain ⟨k, hk⟩ := mem_at ha
      have hk' := (List.getElem?_eq_some_iff.1 hk).1
      rw [List.length_take] at hk'
      rw [List.getElem?_take, if_pos (by omega)] at hk
      have := h1 k (by omega)
      rw [getD_at hk] at this
      exact decide_eq_true this
    rw [this, List.length_take]; omega
  have e2 : (l.drop i).countP (fun h => decide (cf h x < 0)) = 0 := List.countP_eq_zero.2 fun a ha => by
    obtain ⟨k, hk⟩ := mem_at ha
    rw [List.getElem?_drop] at hk
    have hk' := (List.getElem?_eq_some_iff.1 hk).1
    have := h2 (i + k) (by omega) hk'
    rw [getD_at hk] at this
    simpa [Lt] using this
  omega
theorem cnt_take {l : List Hs} (hl : l.Pairwise Lt) (x : Hs) : (∀ y ∈ l.take (l.countP fun h => decide (cf h x < 0)), Lt y x) ∧ (∀ y ∈ l.drop (l.countP fun h => decide (cf h x < 0)), ¬ Lt y x) := by
  induction l with
  | nil => simp
  | cons a r ih =>
    rw [List.pairwise_cons] at hl
    rw [List.countP_cons]
    by_cases ha : cf a x < 0
    · rw [if_pos (by simpa using ha), List.take_succ_cons, List.drop_succ_cons]
      refine ⟨fun y hy => ?_, (ih hl.2).2⟩
      rcases List.mem_cons.1 hy with rfl | h
      · exact ha
      · exact (ih hl.2).1 y h
    · have h0 : r.countP (fun h => decide (cf h x < 0)) = 0 := List.countP_eq_zero.2 fun y hy => by
        have := hl.1 y hy
        intro hc
        have hc2 : Lt y x := by simpa [Lt] using hc
        exact ha (this.trans hc2)
      rw [if_neg (by simpa using ha), h0]
      refine ⟨by simp, fun y hy => ?_⟩
      simp only [Nat.add_zero, List.drop_zero] at hy
      rcases List.mem_cons.1 hy with rfl | h
      · exact ha
      · intro hc; exact ha ((hl.1 y h).trans hc)
theorem hds_pw {h : List Hs} {v : VX} (hp : h.Pairwise Lt) (hv : v.id ∉ h) : (hdsOf h v).Pairwise Lt := by
  unfold hdsOf
  have h1 : (h.filter (outB v.ps)).Pairwise Lt := hp.filter _
  have h2 : v.id ∉ h.filter (outB v.ps) := fun hc => hv (List.mem_filter.1 hc).1
  generalize h.filter (outB v.ps) = l at *
  obtain ⟨t1, t2⟩ := cnt_take h1 v.id
  generalize l.countP (fun x => decide (cf x v.id < 0)) = i at *
  have gt : ∀ y ∈ l.drop i, Lt v.id y := fun y hy => by
    rcases Lt.tri v.id y with h | h | h
    · exact h
    · exact absurd (h ▸ List.mem_of_mem_drop hy) h2
    · exact absurd h (t2 y hy)
  have h1' : (l.take i ++ l.drop i).Pairwise Lt := by rw [List.take_append_drop]; exact h1
  rw [List.pairwise_append] at h1'
  unfold insL
  rw [List.pairwise_append, List.pairwise_cons]
  refine ⟨h1'.1, ⟨gt, h1'.2.1⟩, fun a ha b hb => ?_⟩
  rcases List.mem_cons.1 hb with rfl | hb
  · exact t1 a ha
  · exact h1'.2.2 a ha b hb
theorem hds_mem {h : List Hs} {v : VX} {x : Hs} : x ∈ hdsOf h v ↔ x = v.id ∨ (x ∈ h ∧ x ∉ v.ps) := by
  unfold hdsOf
  rw [insL_mem, List.mem_filter]
  simp [outB]
/-! ### What holds of every Dag. -/
structure DI (g : DG) : Prop where
  room : 0 ≤ g.room ∧ g.room ≤ 64
  hl : g.held.length ≤ 4096
  hn : (g.held.map (·.id)).Nodup
  wn : (g.wait.map (·.id)).Nodup
  dj : ∀ v ∈ g.wait, hasB g.held v.id = false
  hc : ∀ v ∈ g.held, chkV v = 0
  wc : ∀ v ∈ g.wait, chkV v = 0
  q : g.queue = g.wait.map (·.id)
  ql : (g.wait.length : Int) ≤ g.room
  ck : ∀ v ∈ g.held, v.ck = mxC g.held v.ps + 1
  cl : ∀ v ∈ g.held, ∀ p ∈ v.ps, hasB g.held p = true
  om : ∀ x, x ∈ g.order ↔ hasB g.held x = true
  oo : OneO (parH g.held) g.order
  hd : g.heads.Pairwise Lt
  hm : ∀ x, x ∈ g.heads ↔ hasB g.held x = true ∧ ∀ v ∈ g.held, x ∉ v.ps
/-- A vertex was taken. -/
def tookG (g : DG) (v : VX) (g' : DG) : Prop := g'.room = g.room ∧ g'.held = g.held ++ [v] ∧ g'.wait = g.wait ∧ g'.queue = g.queue ∧ g'.order = insL g.order (plc v g.order g.order.length g.order.length) v.id ∧ g'.heads = hdsOf g.heads v
theorem DI.took {g g' : DG} {v : VX} (h : DI g) (hc : chkV v = 0) (h1 : hasB g.held v.id = false) (h2 : hasB g.wait v.id = false) (ha : ∀ p ∈ v.ps, hasB g.held p = true) (hn : nextE g.held v = 0) (t : tookG g v g') : DI g' := by
  obtain ⟨e1, e2, e3, e4, e5, e6⟩ := t
  have hnx := next_ok hn
  have hvo : v.id ∉ g.order := fun hc => by rw [h.om, h1] at hc; cases hc
  have hps : v.id ∉ v.ps := fun hc => by have := ha _ hc; rw [h1] at this; cases this
  have hup : ∀ u ∈ g.held, v.id ∉ u.ps := fun u hu hc => by have := h.cl u hu _ hc; rw [h1] at this; cases this
  have hnd : ((g.held ++ [v]).map (·.id)).Nodup := by
    rw [List.map_append, List.nodup_append]
    refine ⟨h.hn, by simp, fun a ha b hb => ?_⟩
    simp only [List.map_cons, List.map_nil, List.mem_singleton] at hb
    subst hb
    obtain ⟨u, hu, rfl⟩ := List.mem_map.1 ha
    exact hasB_no.1 h1 u hu
  have hpv : parH (g.held ++ [v]) v.id = v.ps := parH_mem hnd (by simp)
  have hhas : ∀ x, hasB (g.held ++ [v]) x = true ↔ x = v.id ∨ hasB g.held x = true := fun x => by rw [hasB_app, Bool.or_eq_true, hasB_one]; exact Or.comm
  refine ⟨by rw [e1]; exact h.room, by rw [e2, List.length_append]; have := hnx.2; simp; omega, by rw [e2]; exact hnd, by rw [e3]; exact h.wn, ?_, ?_, by rw [e3]; exact h.wc, by rw [e4, e3]; exact h.q, by rw [e3, e1]; exact h.ql, ?_, ?_, ?_, ?_, ?_, ?_⟩
  · rw [e3, e2]
    intro u hu
    rw [Bool.eq_false_iff, Ne, hhas]
    rintro (e | e)
    · exact hasB_no.1 h2 u hu e
    · rw [h.dj u hu] at e; cases e
  · rw [e2]
    intro u hu
    rcases List.mem_append.1 hu with hu | hu
    · exact h.hc u hu
    · rw [List.mem_singleton] at hu; subst hu; exact hc
  · rw [e2]
    intro u hu
    rcases List.mem_append.1 hu with hu | hu
    · rw [mxC_app (h.cl u hu)]; exact h.ck u hu
    · rw [List.mem_singleton] at hu; subst hu; rw [mxC_app ha]; exact hnx.1
  · rw [e2]
    intro u hu p hp
    rw [hhas]
    rcases List.mem_append.1 hu with hu | hu
    · exact .inr (h.cl u hu p hp)
    · rw [List.mem_singleton] at hu; subst hu; exact .inr (ha p hp)
  · intro x
    rw [e5, e2, insL_mem, hhas, h.om]
  · rw [e5, e2]
    obtain ⟨p1, p2, p3, p4⟩ := plc_spec v g.order
    refine h.oo.ins (fun x hx => parH_app ((h.om x).1 hx)) p1 hvo ?_ ?_ ?_ p3 ?_
    · intro x hx hcx
      obtain ⟨u, hu, hum, hue⟩ := find_has ((h.om x).1 hx)
      rw [← hue, parH_mem h.hn hum] at hcx
      exact hup u hum hcx
    · rw [hpv]; exact fun p hp => (h.om p).2 (ha p hp)
    · rw [hpv]; exact p2
    · rw [hpv]; exact p4
  · rw [e6]
    refine hds_pw h.hd fun hc => ?_
    have := ((h.hm _).1 hc).1
    rw [h1] at this; cases this
  · intro x
    rw [e6, e2, hds_mem, hhas]
    constructor
    · rintro (rfl | ⟨h3, h4⟩)
      · refine ⟨.inl rfl, fun u hu => ?_⟩
        rcases List.mem_append.1 hu with hu | hu
        · exact hup u hu
        · rw [List.mem_singleton] at hu; subst hu; exact hps
      · obtain ⟨h5, h6⟩ := (h.hm x).1 h3
        refine ⟨.inr h5, fun u hu => ?_⟩
        rcases List.mem_append.1 hu with hu | hu
        · exact h6 u hu
        · rw [List.mem_singleton] at hu; subst hu; exact h4
    · rintro ⟨h3 | h3, h4⟩
      · exact .inl h3
      · exact .inr ⟨(h.hm x).2 ⟨h3, fun u hu => h4 u (by simp [hu])⟩, h4 v (by simp)⟩
theorem DI.waits {g g' : DG} {v : VX} (h : DI g) (hc : chkV v = 0) (h1 : hasB g.held v.id = false) (h2 : hasB g.wait v.id = false) (hr : (g.wait.length : Int) + 1 ≤ g.room)
    (t : g'.room = g.room ∧ g'.held = g.held ∧ g'.wait = g.wait ++ [v] ∧ g'.queue = g.queue ++ [v.id] ∧ g'.order = g.order ∧ g'.heads = g.heads) : DI g' := by
  obtain ⟨e1, e2, e3, e4, e5, e6⟩ := t
  refine ⟨by rw [e1]; exact h.room, by rw [e2]; exact h.hl, by rw [e2]; exact h.hn, ?_, ?_, by rw [e2]; exact h.hc, ?_, by rw [e4, e3, h.q, List.map_append]; rfl, by rw [e3, e1, List.length_append]; simp; omega, by rw [e2]; exact h.ck, by rw [e2]; exact h.cl, by rw [e5, e2]; exact h.om, by rw [e5, e2]; exact h.oo, by rw [e6]; exact h.hd, by rw [e6, e2]; exact h.hm⟩
  · rw [e3, List.map_append, List.nodup_append]
    refine ⟨h.wn, by simp, fun a ha b hb => ?_⟩
    simp only [List.map_cons, List.map_nil, List.mem_singleton] at hb
    subst hb
    obtain ⟨u, hu, rfl⟩ := List.mem_map.1 ha
    exact hasB_no.1 h2 u hu
  · rw [e3, e2]
    intro u hu
    rcases List.mem_append.1 hu with hu | hu
    · exact h.dj u hu
    · rw [List.mem_singleton] at hu; subst hu; exact h1
  · rw [e3]
    intro u hu
    rcases List.mem_append.1 hu with hu | hu
    · exact h.wc u hu
    · rw [List.mem_singleton] at hu; subst hu; exact hc
theorem ix_has (x : Hs) : ∀ (l : List VX) (t : Nat), hasB l x = true → ∃ i : Nat, i < l.length ∧ ixF x (l.map (·.id)) t = ((t + i : Nat) : Int) ∧ (l.eraseP (isV x)).map (·.id) = (l.map (·.id)).take i ++ (l.map (·.id)).drop (i + 1)
  | [], t, h => by rw [hasB_iff] at h; obtain ⟨v, hv, _⟩ := h; cases hv
  | v :: r, t, h => by
    by_cases hx : x = v.id
    · refine ⟨0, by simp, by simp [ixF, hx], ?_⟩
      rw [List.eraseP_cons, isV_iff.2 hx.symm]
      simp
    · have hne : isV x v = false := by rw [Bool.eq_false_iff, Ne, isV_iff]; exact fun e => hx e.symm
      have hr : hasB r x = true := by
        rw [hasB_iff] at h ⊢
        obtain ⟨u, hu, e⟩ := h
        rcases List.mem_cons.1 hu with rfl | hu
        · exact absurd e.symm hx
        · exact ⟨u, hu, e⟩
      obtain ⟨i, h1, h2, h3⟩ := ix_has x r (t + 1) hr
      refine ⟨i + 1, by simp; omega, ?_, ?_⟩
      · rw [List.map_cons, ixF, if_neg hx, h2]; congr 1; omega
      · rw [List.eraseP_cons, hne]
        simp [h3]
theorem DI.ix {g : DG} (h : DI g) (x : Hs) : hasB g.wait x = true → ∃ i : Nat, i < g.queue.length ∧ ixF x g.queue 0 = (i : Int) := fun hx => by
  obtain ⟨i, h1, h2, _⟩ := ix_has x g.wait 0 hx
  rw [← h.q, Nat.zero_add] at h2
  exact ⟨i, by rw [h.q, List.length_map]; exact h1, h2⟩
theorem erase_mem {l : List VX} (hn : (l.map (·.id)).Nodup) {x : Hs} {v : VX} : v ∈ l.eraseP (isV x) ↔ v ∈ l ∧ v.id ≠ x := by
  induction l with
  | nil => simp
  | cons u r ih =>
    rw [List.map_cons, List.nodup_cons] at hn
    rw [List.eraseP_cons]
    by_cases hu : isV x u = true
    · have hx := isV_iff.1 hu
      rw [hu]
      simp only [if_true, cond_true, List.mem_cons]
      constructor
      · intro hv
        refine ⟨.inr hv, fun e => hn.1 (List.mem_map.2 ⟨v, hv, by rw [hx]; exact e⟩)⟩
      · rintro ⟨rfl | hv, hne⟩
        · exact absurd hx hne
        · exact hv
    · rw [Bool.eq_false_iff.2 hu]
      simp only [cond_false, List.mem_cons, ih hn.2]
      constructor
      · rintro (rfl | ⟨h1, h2⟩)
        · exact ⟨.inl rfl, fun e => hu (isV_iff.2 e)⟩
        · exact ⟨.inr h1, h2⟩
      · rintro ⟨rfl | h1, h2⟩
        · exact .inl rfl
        · exact .inr ⟨h1, h2⟩
theorem DI.forgets {g g' : DG} {x : Hs} {i : Nat} (h : DI g) (hx : hasB g.wait x = true) (hi : ixF x g.queue 0 = (i : Int))
    (t : g'.room = g.room ∧ g'.held = g.held ∧ g'.wait = g.wait.eraseP (isV x) ∧ g'.queue = g.queue.take i ++ g.queue.drop (i + 1) ∧ g'.order = g.order ∧ g'.heads = g.heads) : DI g' := by
  obtain ⟨e1, e2, e3, e4, e5, e6⟩ := t
  obtain ⟨j, h1, h2, h3⟩ := ix_has x g.wait 0 hx
  rw [← h.q, Nat.zero_add, hi] at h2
  have hij : i = j := Int.ofNat.inj h2
  subst hij
  refine ⟨by rw [e1]; exact h.room, by rw [e2]; exact h.hl, by rw [e2]; exact h.hn, ?_, ?_, by rw [e2]; exact h.hc, ?_, by rw [e4, e3, h.q, h3], ?_, by rw [e2]; exact h.ck, by rw [e2]; exact h.cl, by rw [e5, e2]; exact h.om, by rw [e5, e2]; exact h.oo, by rw [e6]; exact h.hd, by rw [e6, e2]; exact h.hm⟩
  · rw [e3]; exact h.wn.sublist (List.eraseP_sublist.map _)
  · rw [e3, e2]; exact fun u hu => h.dj u (List.mem_of_mem_eraseP hu)
  · rw [e3]; exact fun u hu => h.wc u (List.mem_of_mem_eraseP hu)
  · rw [e3, e1]; have := List.length_eraseP_le (p := isV x) (l := g.wait); have := h.ql; omega
end Go.Proofs.Ytogmdfhicbmplaa
namespace Go.Proofs.Ytogmdfhicbmplaa
open Go.RowKit
set_option linter.unusedSimpArgs false
set_option linter.unusedVariables false

/-- The length of a slice. -/
def lnV : Value → Nat
  | .slice _ n _ => n
  | _ => 0
set_option maxRecDepth 8000 in
set_option maxHeartbeats 1000000 in
theorem shed_one (d : Nat) (v0 : VX) (r : List VX) (Av : Nat → Prop) (g : DG) (w : World) (hD : DagAt w Av d g) (hQ : g.queue = g.wait.map (·.id)) (hW : g.wait = v0 :: r) (hR : g.room = (r.length : Int)) (hQl : g.queue.length ≤ 1000000000) : Calls Try.prog 60 #[ptr d] w fun e w' => ∃ u g', e = .returned u ∧ Ste w w' Av d g g' ∧ (g'.room = g.room ∧ g'.held = g.held ∧ g'.wait = r ∧ g'.queue = r.map (·.id) ∧ g'.order = g.order ∧ g'.heads = g.heads) ∧ OwnH w' u [v0.id] ∧ (∀ k, u.ownBlock = some k → w.heap.size ≤ k ∧ ¬ DgS d g' k) := by
  have HD := Keep.mk hD
  have HQ := Keep.mk hQ
  have HW := Keep.mk hW
  have HR := Keep.mk hR
  have HQl := Keep.mk hQl
  clear hD hQ hW hR hQl
  go_enter Try.func60, Try.ntmps60
  refine wp_seq_k fun K1 hK1 => ?_
  refine wp_region_list (WL.out ?_)
  refine WL.val (by kernel_rfl) (.slice none 0 0) (by go_simp) ?_
  simp only [Act.put, List.setIfInBounds_toArray, List.set_cons_zero, List.set_cons_succ]
  refine WL.nil ?_
  refine hK1 _ _ ?_
  refine wp_seq_k fun K2 hK2 => ?_
  refine wp_region_list (WL.out ?_)
  refine WL.val (by kernel_rfl) (.slice none 0 0) (by go_simp) ?_
  simp only [Act.put, List.setIfInBounds_toArray, List.set_cons_zero, List.set_cons_succ]
  refine WL.nil ?_
  refine hK2 _ _ ?_
  refine wp_seq_k fun K3 hK3 => ?_
  refine wp_block ?_
  refine wp_loop (fun ac wr => ∃ (t : Nat) (u3 u4 u5 u6 u7 u8 u9 u10 u11 u12 u13 u14 u15 u16 u17 u18 u19 u20 u21 u22 u23 u24 u25 u26 u27 : Value) (gr : DG), ac = { tmps := #[.pointer (some ⟨d, 0, none⟩), undef, .slice none 0 0, u3, u4, u5, u6, u7, u8, u9, u10, u11, u12, u13, u14, u15, u16, u17, u18, u19, u20, u21, u22, u23, u24, u25, u26, u27, undef], defers := [] } ∧ ((t = 0 ∧ w = wr ∧ g = gr ∧ .slice none 0 0 = u3) ∨ (t = 1 ∧ Ste w wr Av d g gr ∧ (gr.room = g.room ∧ gr.held = g.held ∧ gr.wait = r ∧ gr.queue = r.map (·.id) ∧ gr.order = g.order ∧ gr.heads = g.heads) ∧ OwnH wr u3 [v0.id] ∧ (∀ k, u3.ownBlock = some k → w.heap.size ≤ k ∧ ¬ DgS d gr k)))) (fun a _ => 1 - lnV (a.tmps.getD 3 undef)) ⟨0, .slice none 0 0, undef, undef, undef, undef, undef, undef, undef, undef, undef, undef, undef, undef, undef, undef, undef, undef, undef, undef, undef, undef, undef, undef, undef, undef, g, rfl, .inl ⟨rfl, rfl, rfl, rfl⟩⟩ ?_
  rintro ac wr ⟨t, u3, u4, u5, u6, u7, u8, u9, u10, u11, u12, u13, u14, u15, u16, u17, u18, u19, u20, u21, u22, u23, u24, u25, u26, u27, gr, rfl, hX⟩
  rcases hX with ⟨rfl, rfl, rfl, rfl⟩ | ⟨rfl, hS, hG, hO, hN⟩
  · have JA := Keep.mk HD.out
    obtain ⟨qa, qc, hqv⟩ := JA.out.oq.sl
    have Hqv := Keep.mk hqv
    clear hqv
    have hql0 : 0 < g.queue.length := by rw [HQ.out, HW.out]; simp
    have hle : g.room < (g.queue.length : Int) := by rw [HR.out, HQ.out, HW.out]; simp; omega
    refine wp_seq_k fun K4 hK4 => ?_
    refine wp_seq_k fun K5 hK5 => ?_
    have hS0 : Keep (w.drew.cell? ⟨d, 5, none⟩ = some (.slice qa g.queue.length qc) ∧ w.drew.cell? ⟨d, 0, none⟩ = some (.int .i64 g.room)) := ⟨by have h := JA.out.blk.drew.c 5 (by rfl : (dgA g)[5]? = some g.qv); rw [Hqv.out] at h; exact h, JA.out.blk.drew.c 0 rfl⟩
    refine wp_region_held_drew (S := fun wx => wx.cell? ⟨d, 5, none⟩ = some (.slice qa g.queue.length qc) ∧ wx.cell? ⟨d, 0, none⟩ = some (.int .i64 g.room)) (by kernel_rfl) (hS0.out) (fun hHeld => ?_)
    refine wpAnyH_take (i := 0) (oi := ⟨some 5, Op.move (Operand.tmp 0), 27, _, _, none⟩) (v := .pointer (some ⟨d, 0, none⟩)) rfl (by kernel_rfl) (by kernel_rfl) (by kernel_rfl) (fun _ _ _ h => h) (Or.inl ⟨by rfl, fun w hS => by obtain ⟨hS1, hS2⟩ := hS; go_simp⟩) hHeld ?_
    simp only [Act.put, List.setIfInBounds_toArray, List.set_cons_zero, List.set_cons_succ]
    refine wpAnyH_take (i := 1) (oi := ⟨some 6, Op.nilCheck (Operand.tmp 5), 0, _, _, none⟩) (v := .pointer (some ⟨d, 0, none⟩)) rfl (by kernel_rfl) (by kernel_rfl) (by kernel_rfl) (fun _ _ _ h => h) (Or.inl ⟨by rfl, fun w hS => by obtain ⟨hS1, hS2⟩ := hS; go_simp⟩) hHeld ?_
    simp only [Act.put, List.setIfInBounds_toArray, List.set_cons_zero, List.set_cons_succ]
    refine wpAnyH_take (i := 2) (oi := ⟨some 7, Op.fieldAddr 77 (Operand.tmp 6) 5, 0, _, _, none⟩) (v := .pointer (some ⟨d, 5, none⟩)) rfl (by kernel_rfl) (by kernel_rfl) (by kernel_rfl) (fun _ _ _ h => h) (Or.inl ⟨by rfl, fun w hS => by obtain ⟨hS1, hS2⟩ := hS; go_simp⟩) hHeld ?_
    simp only [Act.put, List.setIfInBounds_toArray, List.set_cons_zero, List.set_cons_succ]
    refine wpAnyH_take (i := 3) (oi := ⟨some 8, Op.load 37 (Operand.tmp 7), 37, _, _, none⟩) (v := .slice qa g.queue.length qc) rfl (by kernel_rfl) (by kernel_rfl) (by kernel_rfl) (fun _ _ _ h => h) (Or.inl ⟨by rfl, fun w hS => by obtain ⟨hS1, hS2⟩ := hS; go_simp⟩) hHeld ?_
    simp only [Act.put, List.setIfInBounds_toArray, List.set_cons_zero, List.set_cons_succ]
    refine wpAnyH_take (i := 4) (oi := ⟨some 9, Op.call { callee := Callee.builtin Builtin.len, args := #[Operand.tmp 8], argTypes := #[37] }, 3, _, _, none⟩) (v := .int .i64 (g.queue.length : Int)) rfl (by kernel_rfl) (by kernel_rfl) (by kernel_rfl) (fun _ _ _ h => h) (Or.inl ⟨by rfl, fun w hS => by obtain ⟨hS1, hS2⟩ := hS; go_simp⟩) hHeld ?_
    simp only [Act.put, List.setIfInBounds_toArray, List.set_cons_zero, List.set_cons_succ]
    refine wpAnyH_take (i := 5) (oi := ⟨some 10, Op.move (Operand.tmp 0), 27, _, _, none⟩) (v := .pointer (some ⟨d, 0, none⟩)) rfl (by kernel_rfl) (by kernel_rfl) (by kernel_rfl) (fun _ _ _ h => h) (Or.inl ⟨by rfl, fun w hS => by obtain ⟨hS1, hS2⟩ := hS; go_simp⟩) hHeld ?_
    simp only [Act.put, List.setIfInBounds_toArray, List.set_cons_zero, List.set_cons_succ]
    refine wpAnyH_take (i := 6) (oi := ⟨some 11, Op.nilCheck (Operand.tmp 10), 0, _, _, none⟩) (v := .pointer (some ⟨d, 0, none⟩)) rfl (by kernel_rfl) (by kernel_rfl) (by kernel_rfl) (fun _ _ _ h => h) (Or.inl ⟨by rfl, fun w hS => by obtain ⟨hS1, hS2⟩ := hS; go_simp⟩) hHeld ?_
    simp only [Act.put, List.setIfInBounds_toArray, List.set_cons_zero, List.set_cons_succ]
    refine wpAnyH_take (i := 7) (oi := ⟨some 12, Op.fieldAddr 77 (Operand.tmp 11) 0, 0, _, _, none⟩) (v := .pointer (some ⟨d, 0, none⟩)) rfl (by kernel_rfl) (by kernel_rfl) (by kernel_rfl) (fun _ _ _ h => h) (Or.inl ⟨by rfl, fun w hS => by obtain ⟨hS1, hS2⟩ := hS; go_simp⟩) hHeld ?_
    simp only [Act.put, List.setIfInBounds_toArray, List.set_cons_zero, List.set_cons_succ]
    refine wpAnyH_take (i := 8) (oi := ⟨some 13, Op.load 3 (Operand.tmp 12), 3, _, _, none⟩) (v := .int .i64 g.room) rfl (by kernel_rfl) (by kernel_rfl) (by kernel_rfl) (fun _ _ _ h => h) (Or.inl ⟨by rfl, fun w hS => by obtain ⟨hS1, hS2⟩ := hS; go_simp⟩) hHeld ?_
    simp only [Act.put, List.setIfInBounds_toArray, List.set_cons_zero, List.set_cons_succ]
    refine wpAnyH_take (i := 9) (oi := ⟨some 14, Op.binOp BinOp.gtr 3 (Operand.tmp 9) (Operand.tmp 13) 3, 4, _, _, none⟩) (v := .bool true) rfl (by kernel_rfl) (by kernel_rfl) (by kernel_rfl) (fun _ _ _ h => h) (Or.inl ⟨by rfl, fun w hS => by obtain ⟨hS1, hS2⟩ := hS; go_simp⟩) hHeld ?_
    simp only [Act.put, List.setIfInBounds_toArray, List.set_cons_zero, List.set_cons_succ]
    refine wpAnyH_done (by kernel_rfl) ?_ _
    refine hK5 _ _ ?_
    refine wp_cond_true rfl ?_
    refine wp_skip ?_
    refine hK4 _ _ ?_
    refine wp_block ?_
    refine wp_seq_k fun K6 hK6 => ?_
    have B1 : Keep (Below w.heap.size w w.drew) := ⟨(Below.refl _ _).drew⟩
    have JB := Keep.mk (JA.out.below B1.out)
    clear hS0 hle
    generalize w.drew = ws at *
    obtain ⟨gp, op, hpa, _, _, hrg⟩ := (Hqv.out ▸ JB.out.oq.row : HRow ws (.slice qa g.queue.length qc) g.queue).at hql0
    have hel := rangeAt_elem hrg 0 hql0
    rw [Nat.zero_mul, Nat.add_zero, show g.queue[0] = v0.id by simp [HQ.out, HW.out]] at hel
    have Hel := Keep.mk hel
    subst hpa
    have hql' : (0 : Int) < (g.queue.length : Int) := by omega
    have c5 : ws.cell? ⟨d, 5, none⟩ = some (.slice (some ⟨gp, op, none⟩) g.queue.length qc) := by have h := JB.out.blk.c 5 (by rfl : (dgA g)[5]? = some g.qv); rw [Hqv.out] at h; exact h
    clear hrg hel
    refine wp_region_list (WL.out ?_)
    refine WL.val (by kernel_rfl) (.pointer (some ⟨d, 0, none⟩)) (by go_simp) ?_
    simp only [Act.put, List.setIfInBounds_toArray, List.set_cons_zero, List.set_cons_succ]
    refine WL.val (by kernel_rfl) (.pointer (some ⟨d, 0, none⟩)) (by go_simp) ?_
    simp only [Act.put, List.setIfInBounds_toArray, List.set_cons_zero, List.set_cons_succ]
    refine WL.val (by kernel_rfl) (.pointer (some ⟨d, 5, none⟩)) (by go_simp) ?_
    simp only [Act.put, List.setIfInBounds_toArray, List.set_cons_zero, List.set_cons_succ]
    refine WL.val (by kernel_rfl) (.slice (some ⟨gp, op, none⟩) g.queue.length qc) (by go_simp) ?_
    simp only [Act.put, List.setIfInBounds_toArray, List.set_cons_zero, List.set_cons_succ]
    refine WL.val (by kernel_rfl) (.pointer (some ⟨gp, op, none⟩)) (by go_simp) ?_
    simp only [Act.put, List.setIfInBounds_toArray, List.set_cons_zero, List.set_cons_succ]
    refine WL.mid (by kernel_rfl) 36 (.tmp 19) rfl gp op rfl (encH v0.id) _ Hel.out Try.underlying36 rfl (Try.size36L v0.id) ?_
    rw [enc_load]
    simp only [Act.put, List.setIfInBounds_toArray, List.set_cons_zero, List.set_cons_succ]
    refine WL.new (by kernel_rfl) 36 rfl _ Try.new36 ?_
    simp only [Act.put, List.setIfInBounds_toArray, List.set_cons_zero, List.set_cons_succ]
    refine WL.storeR (by kernel_rfl) 36 (.tmp 4) (.tmp 20) rfl ws.heap.size (bytesA 32 v0.id.f) rfl rfl 36 (bytesA 32 fun _ => 0) (Blk.new ws 36 _) (Try.size36B _) (bytesA_sizes _ _ _) (bytesA_one _ _) ?_
    have HY := Keep.mk ((Blk.new ws 36 (bytesA 32 fun _ => 0)).setRow (bytesA 32 v0.id.f))
    have BY : Keep (Below ws.heap.size ws ((ws.alloc (.cells (bytesA 32 fun _ => 0) 36)).setRow ws.heap.size (bytesA 32 v0.id.f))) := ⟨below_setRow (below_new ws _) (Nat.le_refl _) _⟩
    generalize (ws.alloc (.cells (bytesA 32 fun _ => 0) 36)).setRow ws.heap.size (bytesA 32 v0.id.f) = wy at *
    have JC := Keep.mk (JB.out.below BY.out)
    have B2 : Keep (Below w.heap.size w wy) := ⟨belowT B1.out BY.out⟩
    have NY : Keep (∀ k, DgS d g k → k ≠ ws.heap.size) := ⟨fun k hk e => by have := JB.out.lt k (JB.out.av k hk); omega⟩
    generalize hbb : ws.heap.size = bb at *
    clear Hel c5
    simp only [Act.put]
    refine WL.nil ?_
    refine hK6 _ _ ?_
    refine wp_seq_k fun K7 hK7 => ?_
    refine wp_region_list (WL.out ?_)
    refine WL.val (by kernel_rfl) (.pointer (some ⟨d, 0, none⟩)) (by go_simp) ?_
    simp only [Act.put, List.setIfInBounds_toArray, List.set_cons_zero, List.set_cons_succ]
    refine WL.row (by kernel_rfl) 36 (.tmp 4) rfl bb rfl 36 (bytesA 32 v0.id.f) _ HY.out Try.underlying36 rfl (Try.size36B _) ?_
    simp only [Act.put, List.setIfInBounds_toArray, List.set_cons_zero, List.set_cons_succ]
    have Hqm : Keep (g.queue = v0.id :: r.map (·.id)) := ⟨by rw [HQ.out, HW.out]; rfl⟩
    have hfg := forget_any d v0.id Av g wy JC.out (fun _ => ⟨0, by rw [Hqm.out]; simp, by rw [Hqm.out]; exact ix_head _ _⟩) HQl.out
    refine WL.callF (by kernel_rfl) 43 _ _ rfl Try.in43 #[ptr d, .agg (bytesA 32 v0.id.f)] (by simp [Act.eval]) ?_
    refine (hfg.mono (R' := fun e w' => e = .returned (.bool true) ∧ ∃ g', Ste wy w' Av d g g' ∧ g'.room = g.room ∧ g'.held = g.held ∧ g'.wait = r ∧ g'.queue = r.map (·.id) ∧ g'.order = g.order ∧ g'.heads = g.heads) (fun e w' h => h.elim (fun h => by have h1 := h.1; rw [HW.out, hasB_head] at h1; cases h1) fun ⟨_, h2, i, h3, h4, g', h5, h6, h7, h8, h9, h10, h11⟩ => ⟨h2, g', h5, h6, h7, by rw [h8, HW.out, erase_head], by rw [Hqm.out, ix_head] at h4; have h4 := Int.ofNat_inj.1 h4; subst h4; rw [h9, Hqm.out]; rfl, h10, h11⟩)).mono ?_
    rintro e wz ⟨rfl, g2, hs2, hg2⟩
    refine ⟨_, rfl, ?_⟩
    clear hfg
    have HS3 : Keep (Ste w wz Av d g g2) := ⟨⟨hs2.at', (Grown.below (S := DgS d g) B2.out).trans hs2.grown, fun k hk => (hs2.sub k hk).imp id fun h => Nat.le_trans B2.out.size h⟩⟩
    have HY3 := Keep.mk (hs2.grown.blk HY.out fun e => NY.out _ e rfl)
    have JG3 := Keep.mk hg2
    clear hs2 hg2
    simp only [Act.put, List.setIfInBounds_toArray, List.set_cons_zero, List.set_cons_succ]
    refine WL.nil ?_
    refine hK7 _ _ ?_
    refine wp_region_list (WL.out ?_)
    refine WL.val (by kernel_rfl) (.slice none 0 0) (by go_simp) ?_
    simp only [Act.put, List.setIfInBounds_toArray, List.set_cons_zero, List.set_cons_succ]
    refine WL.row (by kernel_rfl) 36 (.tmp 4) rfl bb rfl 36 (bytesA 32 v0.id.f) _ HY3.out Try.underlying36 rfl (Try.size36B _) ?_
    simp only [Act.put, List.setIfInBounds_toArray, List.set_cons_zero, List.set_cons_succ]
    refine WL.bs (by kernel_rfl) 37 1 _ rfl #[(0, .agg (bytesA 32 v0.id.f))] (by simp [Act.eval]) _ _ (bsH v0.id wz) ?_
    have HGy := Keep.mk (Blk.new wz 36 (bytesA 32 v0.id.f))
    have B5 := Keep.mk (below_new wz (.cells (bytesA 32 v0.id.f) 36))
    generalize wz.alloc (.cells (bytesA 32 v0.id.f) 36) = w5 at *
    have HS5 := Keep.mk (HS3.out.more B5.out)
    generalize hgy : wz.heap.size = gy at *
    simp only [Act.put, List.setIfInBounds_toArray, List.set_cons_zero, List.set_cons_succ]
    refine WL.appH (by kernel_rfl) (.tmp 24) (.tmp 26) rfl _ [] gy v0.id rfl rfl (ownH_nil _) HGy.out (by simp) fun v6 w6 h1 h2 h3 => ?_
    have B6 : Keep (Below w5.heap.size w5 w6) := ⟨h2.to_below (fun k _ e => by cases e) (Nat.le_refl _)⟩
    have HS6 := Keep.mk (HS5.out.more B6.out)
    have JN5 : Keep (∀ k, v6.ownBlock = some k → w.heap.size ≤ k ∧ ¬ DgS d g2 k) := ⟨fun k hk => h3.elim (fun e => by rw [hk] at e; cases e) fun ⟨q, e, hq⟩ => by rw [hk] at e; have := Option.some.inj e; subst this; exact ⟨Nat.le_trans HS5.out.grown.size hq, fun e => by have := HS5.out.at'.lt k (.inr e); omega⟩⟩
    have JO6 : Keep (OwnH w6 v6 [v0.id]) := ⟨h1⟩
    clear h1 h2 h3
    simp only [Act.put, List.setIfInBounds_toArray, List.set_cons_zero, List.set_cons_succ]
    refine WL.val (by kernel_rfl) (v6) (by go_simp) ?_
    simp only [Act.put, List.setIfInBounds_toArray, List.set_cons_zero, List.set_cons_succ]
    refine WL.nil ?_
    obtain ⟨a6, c6, e6⟩ := JO6.out.sl
    refine ⟨⟨1, v6, .pointer (some ⟨bb, 0, none⟩), .pointer (some ⟨d, 0, none⟩), .pointer (some ⟨d, 0, none⟩), .pointer (some ⟨d, 5, none⟩), .slice (some ⟨gp, op, none⟩) g.queue.length qc, .int .i64 (g.queue.length : Int), .pointer (some ⟨d, 0, none⟩), .pointer (some ⟨d, 0, none⟩), .pointer (some ⟨d, 0, none⟩), .int .i64 g.room, .bool true, .pointer (some ⟨d, 0, none⟩), .pointer (some ⟨d, 0, none⟩), .pointer (some ⟨d, 5, none⟩), .slice (some ⟨gp, op, none⟩) g.queue.length qc, .pointer (some ⟨gp, op, none⟩), .agg (bytesA 32 v0.id.f), .pointer (some ⟨d, 0, none⟩), .agg (bytesA 32 v0.id.f), .bool true, .slice none 0 0, .agg (bytesA 32 v0.id.f), .slice (some ⟨gy, 0, none⟩) 1 1, v6, g2, rfl, .inr ⟨rfl, HS6.out, JG3.out, JO6.out, JN5.out⟩⟩, ?_⟩
    subst e6
    exact Nat.zero_lt_one
  · have JS := Keep.mk hS
    have JG := Keep.mk hG
    have JO := Keep.mk hO
    have JN := Keep.mk hN
    clear hS hG hO hN
    obtain ⟨qa, qc, hqv⟩ := JS.out.at'.oq.sl
    have Hqv := Keep.mk hqv
    clear hqv
    have hle : ¬ gr.room < (gr.queue.length : Int) := by rw [JG.out.1, HR.out, JG.out.2.2.2.1, List.length_map]; omega
    refine wp_seq_k fun K8 hK8 => ?_
    refine wp_seq_k fun K9 hK9 => ?_
    have hS0 : Keep (wr.drew.cell? ⟨d, 5, none⟩ = some (.slice qa gr.queue.length qc) ∧ wr.drew.cell? ⟨d, 0, none⟩ = some (.int .i64 gr.room)) := ⟨by have h := JS.out.at'.blk.drew.c 5 (by rfl : (dgA gr)[5]? = some gr.qv); rw [Hqv.out] at h; exact h, JS.out.at'.blk.drew.c 0 rfl⟩
    refine wp_region_held_drew (S := fun wx => wx.cell? ⟨d, 5, none⟩ = some (.slice qa gr.queue.length qc) ∧ wx.cell? ⟨d, 0, none⟩ = some (.int .i64 gr.room)) (by kernel_rfl) (hS0.out) (fun hHeld => ?_)
    refine wpAnyH_take (i := 0) (oi := ⟨some 5, Op.move (Operand.tmp 0), 27, _, _, none⟩) (v := .pointer (some ⟨d, 0, none⟩)) rfl (by kernel_rfl) (by kernel_rfl) (by kernel_rfl) (fun _ _ _ h => h) (Or.inl ⟨by rfl, fun w hS => by obtain ⟨hS1, hS2⟩ := hS; go_simp⟩) hHeld ?_
    simp only [Act.put, List.setIfInBounds_toArray, List.set_cons_zero, List.set_cons_succ]
    refine wpAnyH_take (i := 1) (oi := ⟨some 6, Op.nilCheck (Operand.tmp 5), 0, _, _, none⟩) (v := .pointer (some ⟨d, 0, none⟩)) rfl (by kernel_rfl) (by kernel_rfl) (by kernel_rfl) (fun _ _ _ h => h) (Or.inl ⟨by rfl, fun w hS => by obtain ⟨hS1, hS2⟩ := hS; go_simp⟩) hHeld ?_
    simp only [Act.put, List.setIfInBounds_toArray, List.set_cons_zero, List.set_cons_succ]
    refine wpAnyH_take (i := 2) (oi := ⟨some 7, Op.fieldAddr 77 (Operand.tmp 6) 5, 0, _, _, none⟩) (v := .pointer (some ⟨d, 5, none⟩)) rfl (by kernel_rfl) (by kernel_rfl) (by kernel_rfl) (fun _ _ _ h => h) (Or.inl ⟨by rfl, fun w hS => by obtain ⟨hS1, hS2⟩ := hS; go_simp⟩) hHeld ?_
    simp only [Act.put, List.setIfInBounds_toArray, List.set_cons_zero, List.set_cons_succ]
    refine wpAnyH_take (i := 3) (oi := ⟨some 8, Op.load 37 (Operand.tmp 7), 37, _, _, none⟩) (v := .slice qa gr.queue.length qc) rfl (by kernel_rfl) (by kernel_rfl) (by kernel_rfl) (fun _ _ _ h => h) (Or.inl ⟨by rfl, fun w hS => by obtain ⟨hS1, hS2⟩ := hS; go_simp⟩) hHeld ?_
    simp only [Act.put, List.setIfInBounds_toArray, List.set_cons_zero, List.set_cons_succ]
    refine wpAnyH_take (i := 4) (oi := ⟨some 9, Op.call { callee := Callee.builtin Builtin.len, args := #[Operand.tmp 8], argTypes := #[37] }, 3, _, _, none⟩) (v := .int .i64 (gr.queue.length : Int)) rfl (by kernel_rfl) (by kernel_rfl) (by kernel_rfl) (fun _ _ _ h => h) (Or.inl ⟨by rfl, fun w hS => by obtain ⟨hS1, hS2⟩ := hS; go_simp⟩) hHeld ?_
    simp only [Act.put, List.setIfInBounds_toArray, List.set_cons_zero, List.set_cons_succ]
    refine wpAnyH_take (i := 5) (oi := ⟨some 10, Op.move (Operand.tmp 0), 27, _, _, none⟩) (v := .pointer (some ⟨d, 0, none⟩)) rfl (by kernel_rfl) (by kernel_rfl) (by kernel_rfl) (fun _ _ _ h => h) (Or.inl ⟨by rfl, fun w hS => by obtain ⟨hS1, hS2⟩ := hS; go_simp⟩) hHeld ?_
    simp only [Act.put, List.setIfInBounds_toArray, List.set_cons_zero, List.set_cons_succ]
    refine wpAnyH_take (i := 6) (oi := ⟨some 11, Op.nilCheck (Operand.tmp 10), 0, _, _, none⟩) (v := .pointer (some ⟨d, 0, none⟩)) rfl (by kernel_rfl) (by kernel_rfl) (by kernel_rfl) (fun _ _ _ h => h) (Or.inl ⟨by rfl, fun w hS => by obtain ⟨hS1, hS2⟩ := hS; go_simp⟩) hHeld ?_
    simp only [Act.put, List.setIfInBounds_toArray, List.set_cons_zero, List.set_cons_succ]
    refine wpAnyH_take (i := 7) (oi := ⟨some 12, Op.fieldAddr 77 (Operand.tmp 11) 0, 0, _, _, none⟩) (v := .pointer (some ⟨d, 0, none⟩)) rfl (by kernel_rfl) (by kernel_rfl) (by kernel_rfl) (fun _ _ _ h => h) (Or.inl ⟨by rfl, fun w hS => by obtain ⟨hS1, hS2⟩ := hS; go_simp⟩) hHeld ?_
    simp only [Act.put, List.setIfInBounds_toArray, List.set_cons_zero, List.set_cons_succ]
    refine wpAnyH_take (i := 8) (oi := ⟨some 13, Op.load 3 (Operand.tmp 12), 3, _, _, none⟩) (v := .int .i64 gr.room) rfl (by kernel_rfl) (by kernel_rfl) (by kernel_rfl) (fun _ _ _ h => h) (Or.inl ⟨by rfl, fun w hS => by obtain ⟨hS1, hS2⟩ := hS; go_simp⟩) hHeld ?_
    simp only [Act.put, List.setIfInBounds_toArray, List.set_cons_zero, List.set_cons_succ]
    refine wpAnyH_take (i := 9) (oi := ⟨some 14, Op.binOp BinOp.gtr 3 (Operand.tmp 9) (Operand.tmp 13) 3, 4, _, _, none⟩) (v := .bool false) rfl (by kernel_rfl) (by kernel_rfl) (by kernel_rfl) (fun _ _ _ h => h) (Or.inl ⟨by rfl, fun w hS => by obtain ⟨hS1, hS2⟩ := hS; go_simp⟩) hHeld ?_
    simp only [Act.put, List.setIfInBounds_toArray, List.set_cons_zero, List.set_cons_succ]
    refine wpAnyH_done (by kernel_rfl) ?_ _
    refine hK9 _ _ ?_
    refine wp_cond_false rfl ?_
    refine wp_exit ?_
    refine hK3 _ _ ?_
    refine wp_seq_k fun K10 hK10 => ?_
    refine wp_region_list (WL.out ?_)
    refine WL.val (by kernel_rfl) (u3) (by go_simp) ?_
    simp only [Act.put, List.setIfInBounds_toArray, List.set_cons_zero, List.set_cons_succ]
    refine WL.val (by kernel_rfl) (u3) (by go_simp) ?_
    simp only [Act.put, List.setIfInBounds_toArray, List.set_cons_zero, List.set_cons_succ]
    refine WL.nil ?_
    refine hK10 _ _ ?_
    refine wp_ret ?_
    go_ret
    exact ⟨_, gr, rfl, JS.out.more (Below.refl _ _).drew, JG.out, JO.out.below (Below.refl _ _).drew, JN.out⟩
set_option maxRecDepth 8000 in
set_option maxHeartbeats 1000000 in
theorem add_waitsG (d : Nat) (v : VX) (p : Value) (Av : Nat → Prop) (g : DG) (w : World) (X : DG → Prop) (ol : List Hs) (hD : DagAt w Av d g) (hr : HRow w p v.ps) (hM : ∀ v ∈ g.held, 0 ≤ v.ck ∧ v.ck ≤ 4096) (hL : (v.ps.length : Int) ≤ 9223372036854775806) (hL2 : v.ps.length ≤ 4398046511104) (hFt : fitV g.held g.wait v = (3, 0)) (hW : g.wait.find? (isV v.id) = none) (hQl : g.queue.length ≤ 1000000000)
    (hSh : ∀ (w1 : World) (Av1 : Nat → Prop) (g1 : DG), DagAt w1 Av1 d g1 → (g1.room = g.room ∧ g1.held = g.held ∧ g1.wait = g.wait ++ [v] ∧ g1.queue = g.queue ++ [v.id] ∧ g1.order = g.order ∧ g1.heads = g.heads) → Calls Try.prog 60 #[ptr d] w1 fun e w' => ∃ u g', e = .returned u ∧ Ste w1 w' Av1 d g1 g' ∧ X g' ∧ OwnH w' u ol ∧ (∀ k, u.ownBlock = some k → w1.heap.size ≤ k ∧ ¬ DgS d g' k)) :
    Calls Try.prog 17 #[ptr d, .agg (vtx v.id.f v.ck p)] w fun e w' => ∃ u g', e = .returned (.tuple #[.int .i64 3, u, .int .i64 0]) ∧ Ste w w' Av d g g' ∧ X g' ∧ OwnH w' u ol ∧ (∀ k, u.ownBlock = some k → w.heap.size ≤ k ∧ ¬ DgS d g' k) := by
  obtain ⟨pa, pc, rfl⟩ := hr.form
  obtain ⟨vv, hvv⟩ : ∃ a : Array Value, Keep (a = vtx v.id.f v.ck (.slice pa v.ps.length pc)) := ⟨_, ⟨rfl⟩⟩
  rw [← hvv.out]
  have HD := Keep.mk hD
  have HR := Keep.mk hr
  have HM := Keep.mk hM
  have HL := Keep.mk hL
  have HL2 := Keep.mk hL2
  have HFt := Keep.mk hFt
  have HW := Keep.mk hW
  have HQl := Keep.mk hQl
  have HSh := Keep.mk hSh
  obtain ⟨qa, qc, hqv⟩ := hD.oq.sl
  have Hqv := Keep.mk hqv
  clear hD hr hM hL hL2 hFt hW hQl hqv hSh
  go_enter Try.func17, Try.ntmps17
  refine wp_seq_k fun K1 hK1 => ?_
  refine wp_region_list (WL.out ?_)
  refine WL.box (by kernel_rfl) 39 (.tmp 1) rfl (vv) rfl ?_
  obtain ⟨w1, hwn⟩ : ∃ wx, Keep (wx = w.alloc (.cells (vv) 39)) := ⟨_, ⟨rfl⟩⟩
  rw [← hwn.out]
  have HX1 : Keep (Blk w1 w.heap.size 39 (vv)) := ⟨by rw [hwn.out]; exact Blk.new _ _ _⟩
  have LB1 : Keep (Below w.heap.size w w1) := ⟨by rw [hwn.out]; exact below_new _ _⟩
  clear hwn
  have HD1 := Keep.mk (HD.out.below LB1.out)
  have HR1 := Keep.mk (HR.out.below LB1.out)
  simp only [Act.put, List.setIfInBounds_toArray, List.set_cons_zero, List.set_cons_succ]
  refine WL.val (by kernel_rfl) (.int .i64 0) (by go_simp) ?_
  simp only [Act.put, List.setIfInBounds_toArray, List.set_cons_zero, List.set_cons_succ]
  refine WL.val (by kernel_rfl) (.slice none 0 0) (by go_simp) ?_
  simp only [Act.put, List.setIfInBounds_toArray, List.set_cons_zero, List.set_cons_succ]
  refine WL.val (by kernel_rfl) (.int .i64 0) (by go_simp) ?_
  simp only [Act.put, List.setIfInBounds_toArray, List.set_cons_zero, List.set_cons_succ]
  refine WL.nil ?_
  refine hK1 _ _ ?_
  refine wp_seq_k fun K2 hK2 => ?_
  refine wp_region_list (WL.out ?_)
  refine WL.val (by kernel_rfl) (.pointer (some ⟨d, 0, none⟩)) (by go_simp) ?_
  simp only [Act.put, List.setIfInBounds_toArray, List.set_cons_zero, List.set_cons_succ]
  refine WL.row (by kernel_rfl) 39 (.tmp 3) rfl w.heap.size rfl 39 vv _ HX1.out Try.underlying39 rfl (by rw [hvv.out]; exact Try.info39s _ _ _) ?_
  simp only [Act.put, List.setIfInBounds_toArray, List.set_cons_zero, List.set_cons_succ]
  have hft := fit_any d v _ Av g w1 HD1.out HR1.out HM.out HL.out
  rw [← hvv.out, HFt.out] at hft
  refine WL.callF (by kernel_rfl) 28 _ _ rfl Try.in28 #[ptr d, .agg vv] (by simp [Act.eval]) ?_
  refine (hft).mono ?_
  rintro e w2 ⟨rfl, hz⟩
  refine ⟨_, rfl, ?_⟩
  clear hft
  have HX2 := Keep.mk (HX1.out.below hz HX1.out.lt)
  have LB2 := Keep.mk (belowT LB1.out hz)
  have HD2 := Keep.mk (HD1.out.below hz)
  have HR2 := Keep.mk (HR1.out.below hz)
  clear hz HX1 HD1 HR1
  simp only [Act.put, List.setIfInBounds_toArray, List.set_cons_zero, List.set_cons_succ]
  refine WL.val (by kernel_rfl) (.tuple #[.int .i64 3, .int .i64 0]) (by go_simp) ?_
  simp only [Act.put, List.setIfInBounds_toArray, List.set_cons_zero, List.set_cons_succ]
  refine WL.val (by kernel_rfl) (.int .i64 3) (by go_simp) ?_
  simp only [Act.put, List.setIfInBounds_toArray, List.set_cons_zero, List.set_cons_succ]
  refine WL.val (by kernel_rfl) (.int .i64 0) (by go_simp) ?_
  simp only [Act.put, List.setIfInBounds_toArray, List.set_cons_zero, List.set_cons_succ]
  refine WL.val (by kernel_rfl) (.int .i64 3) (by go_simp) ?_
  simp only [Act.put, List.setIfInBounds_toArray, List.set_cons_zero, List.set_cons_succ]
  refine WL.val (by kernel_rfl) (.int .i64 0) (by go_simp) ?_
  simp only [Act.put, List.setIfInBounds_toArray, List.set_cons_zero, List.set_cons_succ]
  refine WL.nil ?_
  refine hK2 _ _ ?_
  refine wp_seq_k fun K3 hK3 => ?_
  refine wp_seq_k fun K4 hK4 => ?_
  refine wp_region_list (WL.out ?_)
  refine WL.val (by kernel_rfl) (.int .i64 3) (by go_simp) ?_
  simp only [Act.put, List.setIfInBounds_toArray, List.set_cons_zero, List.set_cons_succ]
  refine WL.nil ?_
  refine hK4 _ _ ?_
  refine wp_block ?_
  refine wp_seq_k fun K5 hK5 => ?_
  refine wp_region_list (WL.out ?_)
  refine WL.val (by kernel_rfl) (.bool false) (by go_simp) ?_
  simp only [Act.put, List.setIfInBounds_toArray, List.set_cons_zero, List.set_cons_succ]
  refine WL.val (by kernel_rfl) (.bool false) (by go_simp) ?_
  simp only [Act.put, List.setIfInBounds_toArray, List.set_cons_zero, List.set_cons_succ]
  refine WL.nil ?_
  refine hK5 _ _ ?_
  refine wp_cond_false rfl ?_
  refine wp_seq_k fun K6 hK6 => ?_
  refine wp_region_list (WL.out ?_)
  refine WL.val (by kernel_rfl) (.bool true) (by go_simp) ?_
  simp only [Act.put, List.setIfInBounds_toArray, List.set_cons_zero, List.set_cons_succ]
  refine WL.val (by kernel_rfl) (.bool true) (by go_simp) ?_
  simp only [Act.put, List.setIfInBounds_toArray, List.set_cons_zero, List.set_cons_succ]
  refine WL.nil ?_
  refine hK6 _ _ ?_
  refine wp_cond_true rfl ?_
  refine wp_seq_k fun K7 hK7 => ?_
  have hS0 : Keep ((fun wx => wx.cell? ⟨d, 4, none⟩ = some (.map (some g.wb)) ∧ wx.rangeAt w.heap.size 0 (bytesA 32 v.id.f).toList ∧ wx.rangeAt w.heap.size 0 vv.toList) w2.drew) := ⟨⟨HD2.out.blk.drew.c 4 rfl, vtx_rng (hvv.out ▸ HX2.out.drew), blk_rng HX2.out.drew⟩⟩
  refine wp_region_held_drew (S := fun wx => wx.cell? ⟨d, 4, none⟩ = some (.map (some g.wb)) ∧ wx.rangeAt w.heap.size 0 (bytesA 32 v.id.f).toList ∧ wx.rangeAt w.heap.size 0 vv.toList) (by kernel_rfl) (hS0.out) (fun hHeld => ?_)
  refine wpAnyH_take (i := 0) (oi := ⟨some 22, Op.move (Operand.tmp 0), 27, _, _, none⟩) (v := .pointer (some ⟨d, 0, none⟩)) rfl (by kernel_rfl) (by kernel_rfl) (by kernel_rfl) (fun _ _ _ h => h) (Or.inl ⟨by rfl, fun w hS => by obtain ⟨hS1, hS2, hS3⟩ := hS; go_simp⟩) hHeld ?_
  simp only [Act.put, List.setIfInBounds_toArray, List.set_cons_zero, List.set_cons_succ]
  refine wpAnyH_take (i := 1) (oi := ⟨some 23, Op.nilCheck (Operand.tmp 22), 0, _, _, none⟩) (v := .pointer (some ⟨d, 0, none⟩)) rfl (by kernel_rfl) (by kernel_rfl) (by kernel_rfl) (fun _ _ _ h => h) (Or.inl ⟨by rfl, fun w hS => by obtain ⟨hS1, hS2, hS3⟩ := hS; go_simp⟩) hHeld ?_
  simp only [Act.put, List.setIfInBounds_toArray, List.set_cons_zero, List.set_cons_succ]
  refine wpAnyH_take (i := 2) (oi := ⟨some 24, Op.fieldAddr 77 (Operand.tmp 23) 4, 0, _, _, none⟩) (v := .pointer (some ⟨d, 4, none⟩)) rfl (by kernel_rfl) (by kernel_rfl) (by kernel_rfl) (fun _ _ _ h => h) (Or.inl ⟨by rfl, fun w hS => by obtain ⟨hS1, hS2, hS3⟩ := hS; go_simp⟩) hHeld ?_
  simp only [Act.put, List.setIfInBounds_toArray, List.set_cons_zero, List.set_cons_succ]
  refine wpAnyH_take (i := 3) (oi := ⟨some 25, Op.load 75 (Operand.tmp 24), 75, _, _, none⟩) (v := .map (some g.wb)) rfl (by kernel_rfl) (by kernel_rfl) (by kernel_rfl) (fun _ _ _ h => h) (Or.inl ⟨by rfl, fun w hS => by obtain ⟨hS1, hS2, hS3⟩ := hS; go_simp⟩) hHeld ?_
  simp only [Act.put, List.setIfInBounds_toArray, List.set_cons_zero, List.set_cons_succ]
  refine wpAnyH_take (i := 4) (oi := ⟨some 26, Op.fieldAddr 39 (Operand.tmp 3) 0, 0, _, _, none⟩) (v := .pointer (some ⟨w.heap.size, 0, none⟩)) rfl (by kernel_rfl) (by kernel_rfl) (by kernel_rfl) (fun _ _ _ h => h) (Or.inl ⟨by rfl, fun w hS => by obtain ⟨hS1, hS2, hS3⟩ := hS; go_simp⟩) hHeld ?_
  simp only [Act.put, List.setIfInBounds_toArray, List.set_cons_zero, List.set_cons_succ]
  refine wpAnyH_take (i := 5) (oi := ⟨some 27, Op.load 36 (Operand.tmp 26), 36, _, _, none⟩) (v := .agg (bytesA 32 v.id.f)) rfl (by kernel_rfl) (by kernel_rfl) (by kernel_rfl) (fun _ _ _ h => h) (yieldsIf_ld (by rfl) (Operand.tmp 26) 36 rfl w.heap.size 0 rfl (bytesA 32 v.id.f) _ Try.underlying36 rfl (size36A _) fun w hS => hS.2.1) hHeld ?_
  simp only [Act.put, List.setIfInBounds_toArray, List.set_cons_zero, List.set_cons_succ]
  refine wpAnyH_take (i := 6) (oi := ⟨some 28, Op.load 39 (Operand.tmp 3), 39, _, _, none⟩) (v := .agg vv) rfl (by kernel_rfl) (by kernel_rfl) (by kernel_rfl) (fun _ _ _ h => h) (yieldsIf_ld (by rfl) (Operand.tmp 3) 39 rfl w.heap.size 0 rfl vv _ Try.underlying39 rfl (by rw [hvv.out]; exact Try.info39s _ _ _) fun w hS => hS.2.2) hHeld ?_
  simp only [Act.put, List.setIfInBounds_toArray, List.set_cons_zero, List.set_cons_succ]
  refine wpAnyH_ready (rs := [7]) (by kernel_rfl) (by simp) ?_
  refine AllReadyH.cons (o := ⟨some 29, Op.call { callee := Callee.value (Operand.func 59), args := #[Operand.tmp 28], argTypes := #[39] }, 39, _, _, none⟩) rfl (fun K hK => ?_) AllReadyH.nil
  rw [if_pos (by rfl)]
  have how := own_any v _ w2.drew (HR2.out.below (Below.refl _ _).drew) (by have := HL2.out; omega)
  rw [← hvv.out] at how
  refine wp_callF 59 _ _ rfl Try.in59 #[.agg vv] (by simp [Act.eval]) (fun u wx => ∃ p3, u = .agg (vtx v.id.f v.ck p3) ∧ Fresh w2.drew wx p3 v.ps) (how.mono fun e w' ⟨p3, h1, h2⟩ => ⟨_, h1, p3, rfl, h2⟩) ?_
  clear how
  rintro _ w3 ⟨p3, rfl, hf⟩
  have HF3 := Keep.mk hf
  have B3 : Keep (Below w2.heap.size w2 w3) := ⟨belowT (Below.refl _ w2).drew hf.bel⟩
  have HX3 := Keep.mk (HX2.out.below B3.out HX2.out.lt)
  have HD3 := Keep.mk (HD2.out.below B3.out)
  have LB3 := Keep.mk (belowT LB2.out B3.out)
  obtain ⟨vq, hvq⟩ : ∃ a : Array Value, Keep (a = vtx v.id.f v.ck p3) := ⟨_, ⟨rfl⟩⟩
  rw [← hvq.out]
  refine hK _ _ ⟨HD3.out.blk.c 4 rfl, vtx_rng (hvv.out ▸ HX3.out), blk_rng HX3.out⟩ fun hH1 => ?_
  clear hK hf
  simp only [Act.put, List.setIfInBounds_toArray, List.set_cons_zero, List.set_cons_succ]
  refine wpAnyH_ready (rs := [8]) (by kernel_rfl) (by simp) ?_
  refine AllReadyH.cons (o := ⟨none, Op.mapUpdate 75 (Operand.tmp 25) (Operand.tmp 27) (Operand.tmp 29), 0, _, _, none⟩) rfl (fun K hK => ?_) AllReadyH.nil
  rw [if_pos (by rfl)]
  obtain ⟨w4, hr4, hm4, hg4⟩ := upd_new HD3.out.wait (HD3.out.av _ (.inr (.inr (.inl rfl)))) v HW.out p3 HF3.out.own.row fun k hk => ⟨HF3.out.own.lt k hk, fun ha => by have h1 : w2.heap.size ≤ k := HF3.out.new k hk; have := HD2.out.lt k ha; omega⟩
  rw [← hvq.out] at hr4
  refine wp_upd (Operand.tmp 25) (Operand.tmp 27) (Operand.tmp 29) rfl _ _ _ rfl rfl rfl w4 hr4 ?_
  have HX4 := Keep.mk (hg4.blk HX3.out fun e => HD3.out.wait.ne HX3.out e)
  have HD4 := Keep.mk (HD3.out.addWait hm4 hg4)
  have G4 : Keep (Grown w w4 (DgS d g)) := ⟨(Grown.below (S := DgS d g) LB3.out).next (T := fun k => k = g.wb) hg4 fun i _ e => e ▸ .inr (.inr (.inl rfl))⟩
  refine hK _ _ ⟨HD4.out.blk.c 4 rfl, vtx_rng (hvv.out ▸ HX4.out), blk_rng HX4.out⟩ fun hH2 => ?_
  clear hK hr4 hm4 hg4 hS0 HX3 HX2 HD3 HD2 HR2
  simp only [Act.put, List.setIfInBounds_toArray, List.set_cons_zero, List.set_cons_succ]
  refine wpAnyH_done (by kernel_rfl) ?_ _
  refine hK7 _ _ ?_
  refine wp_seq_k fun K8 hK8 => ?_
  have c5k : Keep (∀ wx, Below w4.heap.size w4 wx → (fun wx => True ∧ wx.rangeAt w.heap.size 0 (bytesA 32 v.id.f).toList ∧ wx.rangeAt w.heap.size 0 vv.toList) wx) := ⟨fun wx hb => ⟨trivial, vtx_rng (hvv.out ▸ HX4.out.below hb HX4.out.lt), blk_rng (HX4.out.below hb HX4.out.lt)⟩⟩
  have B2 : Keep (Below w4.heap.size w4 w4.drew) := ⟨(Below.refl _ _).drew⟩
  refine wp_region_held_drew (S := fun wx => True ∧ wx.rangeAt w.heap.size 0 (bytesA 32 v.id.f).toList ∧ wx.rangeAt w.heap.size 0 vv.toList) (by kernel_rfl) (c5k.out _ B2.out) (fun hHeld => ?_)
  refine wpAnyH_take (i := 0) (oi := ⟨some 30, Op.move (Operand.tmp 0), 27, _, _, none⟩) (v := .pointer (some ⟨d, 0, none⟩)) rfl (by kernel_rfl) (by kernel_rfl) (by kernel_rfl) (fun _ _ _ h => h) (Or.inl ⟨by rfl, fun w hS => by obtain ⟨hS1, hS2, hS3⟩ := hS; go_simp⟩) hHeld ?_
  simp only [Act.put, List.setIfInBounds_toArray, List.set_cons_zero, List.set_cons_succ]
  refine wpAnyH_take (i := 1) (oi := ⟨some 31, Op.move (Operand.tmp 0), 27, _, _, none⟩) (v := .pointer (some ⟨d, 0, none⟩)) rfl (by kernel_rfl) (by kernel_rfl) (by kernel_rfl) (fun _ _ _ h => h) (Or.inl ⟨by rfl, fun w hS => by obtain ⟨hS1, hS2, hS3⟩ := hS; go_simp⟩) hHeld ?_
  simp only [Act.put, List.setIfInBounds_toArray, List.set_cons_zero, List.set_cons_succ]
  refine wpAnyH_take (i := 2) (oi := ⟨some 32, Op.nilCheck (Operand.tmp 31), 0, _, _, none⟩) (v := .pointer (some ⟨d, 0, none⟩)) rfl (by kernel_rfl) (by kernel_rfl) (by kernel_rfl) (fun _ _ _ h => h) (Or.inl ⟨by rfl, fun w hS => by obtain ⟨hS1, hS2, hS3⟩ := hS; go_simp⟩) hHeld ?_
  simp only [Act.put, List.setIfInBounds_toArray, List.set_cons_zero, List.set_cons_succ]
  refine wpAnyH_take (i := 3) (oi := ⟨some 33, Op.fieldAddr 77 (Operand.tmp 32) 5, 0, _, _, none⟩) (v := .pointer (some ⟨d, 5, none⟩)) rfl (by kernel_rfl) (by kernel_rfl) (by kernel_rfl) (fun _ _ _ h => h) (Or.inl ⟨by rfl, fun w hS => by obtain ⟨hS1, hS2, hS3⟩ := hS; go_simp⟩) hHeld ?_
  simp only [Act.put, List.setIfInBounds_toArray, List.set_cons_zero, List.set_cons_succ]
  refine wpAnyH_take (i := 5) (oi := ⟨some 35, Op.fieldAddr 39 (Operand.tmp 3) 0, 0, _, _, none⟩) (v := .pointer (some ⟨w.heap.size, 0, none⟩)) rfl (by kernel_rfl) (by kernel_rfl) (by kernel_rfl) (fun _ _ _ h => h) (Or.inl ⟨by rfl, fun w hS => by obtain ⟨hS1, hS2, hS3⟩ := hS; go_simp⟩) hHeld ?_
  simp only [Act.put, List.setIfInBounds_toArray, List.set_cons_zero, List.set_cons_succ]
  refine wpAnyH_take (i := 6) (oi := ⟨some 36, Op.load 36 (Operand.tmp 35), 36, _, _, none⟩) (v := .agg (bytesA 32 v.id.f)) rfl (by kernel_rfl) (by kernel_rfl) (by kernel_rfl) (fun _ _ _ h => h) (yieldsIf_ld (by rfl) (Operand.tmp 35) 36 rfl w.heap.size 0 rfl (bytesA 32 v.id.f) _ Try.underlying36 rfl (size36A _) fun w hS => hS.2.1) hHeld ?_
  simp only [Act.put, List.setIfInBounds_toArray, List.set_cons_zero, List.set_cons_succ]
  refine wpAnyH_ready (rs := [4, 7]) (by kernel_rfl) (by simp) ?_
  refine AllReadyH.cons (o := ⟨some 34, Op.load 37 (Operand.tmp 33), 37, _, _, none⟩) rfl (fun K hK => ?_) (AllReadyH.cons (o := ⟨some 37, Op.buildSlice 37 1 #[(0, Operand.tmp 36)], 37, _, _, none⟩) rfl (fun K hK => ?_) AllReadyH.nil)
  all_goals rw [if_pos (by rfl)]
  · have c_o : w4.drew.cell? ⟨d, 5, none⟩ = some (.slice qa g.queue.length qc) := by have h := (HD4.out.blk.below B2.out HD4.out.blk.lt).c 5 (by rfl : (dgA { g with wait := g.wait ++ [v] })[5]? = some g.qv); rw [Hqv.out] at h; exact h
    refine wp_val (.slice qa g.queue.length qc) (by go_simp) ?_
    clear c_o
    refine hK _ _ (c5k.out _ B2.out) fun hR1 => ?_
    clear hK
    simp only [Act.put, List.setIfInBounds_toArray, List.set_cons_zero, List.set_cons_succ]
    refine wpAnyH_ready (rs := [7]) (by kernel_rfl) (by simp) ?_
    refine AllReadyH.cons (o := ⟨some 37, Op.buildSlice 37 1 #[(0, Operand.tmp 36)], 37, _, _, none⟩) rfl (fun K hK => ?_) AllReadyH.nil
    rw [if_pos (by rfl)]
    refine wp_bs 37 1 _ rfl #[(0, .agg (bytesA 32 v.id.f))] (by simp [Act.eval]) _ _ (bsH v.id _) ?_
    have HGy := Keep.mk (Blk.new w4.drew 36 (bytesA 32 v.id.f))
    have BB2 := Keep.mk (belowT B2.out (below_new w4.drew (.cells (bytesA 32 v.id.f) 36)))
    generalize w4.drew.alloc (.cells (bytesA 32 v.id.f) 36) = wb2 at *
    generalize w4.drew.heap.size = gy at *
    refine hK _ _ (c5k.out _ BB2.out) fun hR2 => ?_
    clear hK
    simp only [Act.put, List.setIfInBounds_toArray, List.set_cons_zero, List.set_cons_succ]
    refine wpAnyH_ready (rs := [8]) (by kernel_rfl) (by simp) ?_
    refine AllReadyH.cons (o := ⟨some 38, Op.call { callee := Callee.builtin Builtin.append, args := #[Operand.tmp 34, Operand.tmp 37], argTypes := #[37, 37] }, 37, _, _, none⟩) rfl (fun K hK => ?_) AllReadyH.nil
    rw [if_pos (by rfl)]
    refine wp_apH (Operand.tmp 34) (Operand.tmp 37) rfl _ g.queue gy v.id rfl rfl (Hqv.out ▸ (HD4.out.below BB2.out).oq) HGy.out (by have := HQl.out; omega) fun v5 w5 h5 => ?_
    have HN5 := Keep.mk h5
    have HX5 := Keep.mk (h5.2.1.blk (HX4.out.below BB2.out HX4.out.lt) fun e => by have := (((HD4.out.below BB2.out).oq).typ (by show g.qv.ownBlock = _; rw [Hqv.out]; exact e)).one (HX4.out.below BB2.out HX4.out.lt).typ; revert this; decide)
    have HB5 := Keep.mk (h5.2.1.blk (HD4.out.below BB2.out).blk fun e => by have := (((HD4.out.below BB2.out).oq).typ (by show g.qv.ownBlock = _; rw [Hqv.out]; exact e)).one (HD4.out.below BB2.out).blk.typ; revert this; decide)
    refine hK _ _ ⟨trivial, vtx_rng (hvv.out ▸ HX5.out), blk_rng HX5.out⟩ fun hH5 => ?_
    obtain ⟨a5, c5, e5⟩ := h5.1.sl
    subst e5
    clear hK h5
    simp only [Act.put, List.setIfInBounds_toArray, List.set_cons_zero, List.set_cons_succ]
    refine wpAnyH_take (i := 9) (oi := ⟨some 39, Op.nilCheck (Operand.tmp 30), 0, _, _, none⟩) (v := .pointer (some ⟨d, 0, none⟩)) rfl (by kernel_rfl) (by kernel_rfl) (by kernel_rfl) (fun _ _ _ h => h) (Or.inl ⟨by rfl, fun w hS => by obtain ⟨hS1, hS2, hS3⟩ := hS; go_simp⟩) hH5 ?_
    simp only [Act.put, List.setIfInBounds_toArray, List.set_cons_zero, List.set_cons_succ]
    refine wpAnyH_take (i := 10) (oi := ⟨some 40, Op.fieldAddr 77 (Operand.tmp 39) 5, 0, _, _, none⟩) (v := .pointer (some ⟨d, 5, none⟩)) rfl (by kernel_rfl) (by kernel_rfl) (by kernel_rfl) (fun _ _ _ h => h) (Or.inl ⟨by rfl, fun w hS => by obtain ⟨hS1, hS2, hS3⟩ := hS; go_simp⟩) hH5 ?_
    simp only [Act.put, List.setIfInBounds_toArray, List.set_cons_zero, List.set_cons_succ]
    refine wpAnyH_ready (rs := [11]) (by kernel_rfl) (by simp) ?_
    refine AllReadyH.cons (o := ⟨none, Op.store 37 (Operand.tmp 40) (Operand.tmp 38), 0, _, _, none⟩) rfl (fun K hK => ?_) AllReadyH.nil
    rw [if_pos (by rfl)]
    have f_o := HB5.out.frozen 5
    have c_o : w5.cell? ⟨d, 5, none⟩ = some (.slice qa g.queue.length qc) := by have h := HB5.out.c 5 (by rfl : (dgA { g with wait := g.wait ++ [v] })[5]? = some g.qv); rw [Hqv.out] at h; exact h
    obtain ⟨n5, hn5⟩ : ∃ n, n = (g.queue ++ [v.id]).length := ⟨_, rfl⟩
    rw [← hn5] at HN5 ⊢
    refine wp_cellS (w5.setCell ⟨d, 5, none⟩ (.slice a5 n5 c5)) (by go_simp) ?_
    clear f_o c_o
    have HD6 := Keep.mk ((HD4.out.below BB2.out).setQ HN5.out.1 (by show Grown _ _ fun k => g.qv.ownBlock = some k; rw [Hqv.out]; exact HN5.out.2.1) (by show Moved _ g.qv _; rw [Hqv.out]; exact HN5.out.2.2))
    have HX6 := Keep.mk (HX5.out.set_ne (b' := d) (j := 5) (fun e => by subst e; have := HX5.out.typ.one HB5.out.typ; revert this; decide) (.slice a5 n5 c5))
    have G6 : Keep (Grown w (w5.setCell ⟨d, 5, none⟩ (.slice a5 n5 c5)) (DgS d g)) := ⟨((G4.out.trans (Grown.below BB2.out)).next HN5.out.2.1 fun i _ e => .inr (.inr (.inr (.inr (.inr (by rw [Hqv.out]; exact e)))))).next (Grown.setCell w5 d 5 _ (S := fun k => k = d) fun _ => rfl) fun i _ e => .inl e⟩
    have M6 : Keep (Moved w g.qv (.slice a5 n5 c5)) := ⟨by rw [Hqv.out]; exact HN5.out.2.2.imp id fun ⟨q, e, h⟩ => ⟨q, e, Nat.le_trans G4.out.size (Nat.le_trans BB2.out.size h)⟩⟩
    generalize w5.setCell ⟨d, 5, none⟩ (.slice a5 n5 c5) = w6 at *
    obtain ⟨v6, hv6⟩ : ∃ u : Value, u = .slice a5 n5 c5 := ⟨_, rfl⟩
    rw [← hv6] at HD6 M6
    refine hK _ _ ⟨trivial, vtx_rng (hvv.out ▸ HX6.out), blk_rng HX6.out⟩ fun hH6 => ?_
    rw [hn5]
    clear hK hH5 hH6 HB5 HX5 HN5 c5k hv6 hn5
    simp only [Act.put, List.setIfInBounds_toArray, List.set_cons_zero, List.set_cons_succ]
    refine wpAnyH_done (by kernel_rfl) ?_ _
    refine hK8 _ _ ?_
    refine wp_region_list (WL.out ?_)
    refine WL.val (by kernel_rfl) (.pointer (some ⟨d, 0, none⟩)) (by go_simp) ?_
    simp only [Act.put, List.setIfInBounds_toArray, List.set_cons_zero, List.set_cons_succ]
    have hsh := HSh.out w6 _ { { g with wait := g.wait ++ [v] } with qv := v6, queue := g.queue ++ [v.id] } HD6.out ⟨rfl, rfl, rfl, rfl, rfl, rfl⟩
    refine WL.callF (by kernel_rfl) 60 _ _ rfl Try.in60 #[ptr d] (by simp [Act.eval]) ?_
    refine (hsh).mono ?_
    rintro e w7 ⟨u7, g7, rfl, hs, hx, ho, hn⟩
    refine ⟨_, rfl, ?_⟩
    clear hsh
    have HS7 := Keep.mk hs
    have HX7 := Keep.mk hx
    have HO7 := Keep.mk ho
    have HN7 := Keep.mk hn
    clear hs hx ho hn
    simp only [Act.put, List.setIfInBounds_toArray, List.set_cons_zero, List.set_cons_succ]
    refine WL.val (by kernel_rfl) (u7) (by go_simp) ?_
    simp only [Act.put, List.setIfInBounds_toArray, List.set_cons_zero, List.set_cons_succ]
    refine WL.nil ?_
    refine hK3 _ _ ?_
    refine wp_seq_k fun K9 hK9 => ?_
    refine wp_region_list (WL.out ?_)
    refine WL.val (by kernel_rfl) (.int .i64 3) (by go_simp) ?_
    simp only [Act.put, List.setIfInBounds_toArray, List.set_cons_zero, List.set_cons_succ]
    refine WL.val (by kernel_rfl) (u7) (by go_simp) ?_
    simp only [Act.put, List.setIfInBounds_toArray, List.set_cons_zero, List.set_cons_succ]
    refine WL.val (by kernel_rfl) (.int .i64 0) (by go_simp) ?_
    simp only [Act.put, List.setIfInBounds_toArray, List.set_cons_zero, List.set_cons_succ]
    refine WL.val (by kernel_rfl) (.int .i64 3) (by go_simp) ?_
    simp only [Act.put, List.setIfInBounds_toArray, List.set_cons_zero, List.set_cons_succ]
    refine WL.val (by kernel_rfl) (u7) (by go_simp) ?_
    simp only [Act.put, List.setIfInBounds_toArray, List.set_cons_zero, List.set_cons_succ]
    refine WL.val (by kernel_rfl) (.int .i64 0) (by go_simp) ?_
    simp only [Act.put, List.setIfInBounds_toArray, List.set_cons_zero, List.set_cons_succ]
    refine WL.nil ?_
    refine hK9 _ _ ?_
    refine wp_ret ?_
    go_ret3
    refine ⟨u7, g7, rfl, ⟨HS7.out.at'.avInto (fun k hk => hk.elim (fun e => .inl (.inl e)) .inr) (fun k hk => .inr hk), G6.out.next HS7.out.grown (fun i hi e => (DagAt.setQS (g := { g with wait := g.wait ++ [v] }) M6.out e).elim id fun h => by omega), fun k hk => (HS7.out.sub k hk).elim (fun h => DagAt.setQS (g := { g with wait := g.wait ++ [v] }) M6.out h) fun h => .inr (Nat.le_trans G6.out.size h)⟩, HX7.out, HO7.out, fun k hk => ⟨Nat.le_trans G6.out.size (HN7.out k hk).1, (HN7.out k hk).2⟩⟩
  · refine wp_bs 37 1 _ rfl #[(0, .agg (bytesA 32 v.id.f))] (by simp [Act.eval]) _ _ (bsH v.id _) ?_
    have HGy := Keep.mk (Blk.new w4.drew 36 (bytesA 32 v.id.f))
    have BB1 := Keep.mk (belowT B2.out (below_new w4.drew (.cells (bytesA 32 v.id.f) 36)))
    generalize w4.drew.alloc (.cells (bytesA 32 v.id.f) 36) = wb1 at *
    generalize w4.drew.heap.size = gy at *
    refine hK _ _ (c5k.out _ BB1.out) fun hR1 => ?_
    clear hK
    simp only [Act.put, List.setIfInBounds_toArray, List.set_cons_zero, List.set_cons_succ]
    refine wpAnyH_ready (rs := [4]) (by kernel_rfl) (by simp) ?_
    refine AllReadyH.cons (o := ⟨some 34, Op.load 37 (Operand.tmp 33), 37, _, _, none⟩) rfl (fun K hK => ?_) AllReadyH.nil
    rw [if_pos (by rfl)]
    have c_o : wb1.cell? ⟨d, 5, none⟩ = some (.slice qa g.queue.length qc) := by have h := (HD4.out.blk.below BB1.out HD4.out.blk.lt).c 5 (by rfl : (dgA { g with wait := g.wait ++ [v] })[5]? = some g.qv); rw [Hqv.out] at h; exact h
    refine wp_val (.slice qa g.queue.length qc) (by go_simp) ?_
    clear c_o
    refine hK _ _ (c5k.out _ BB1.out) fun hR2 => ?_
    clear hK
    simp only [Act.put, List.setIfInBounds_toArray, List.set_cons_zero, List.set_cons_succ]
    refine wpAnyH_ready (rs := [8]) (by kernel_rfl) (by simp) ?_
    refine AllReadyH.cons (o := ⟨some 38, Op.call { callee := Callee.builtin Builtin.append, args := #[Operand.tmp 34, Operand.tmp 37], argTypes := #[37, 37] }, 37, _, _, none⟩) rfl (fun K hK => ?_) AllReadyH.nil
    rw [if_pos (by rfl)]
    refine wp_apH (Operand.tmp 34) (Operand.tmp 37) rfl _ g.queue gy v.id rfl rfl (Hqv.out ▸ (HD4.out.below BB1.out).oq) HGy.out (by have := HQl.out; omega) fun v5 w5 h5 => ?_
    have HN5 := Keep.mk h5
    have HX5 := Keep.mk (h5.2.1.blk (HX4.out.below BB1.out HX4.out.lt) fun e => by have := (((HD4.out.below BB1.out).oq).typ (by show g.qv.ownBlock = _; rw [Hqv.out]; exact e)).one (HX4.out.below BB1.out HX4.out.lt).typ; revert this; decide)
    have HB5 := Keep.mk (h5.2.1.blk (HD4.out.below BB1.out).blk fun e => by have := (((HD4.out.below BB1.out).oq).typ (by show g.qv.ownBlock = _; rw [Hqv.out]; exact e)).one (HD4.out.below BB1.out).blk.typ; revert this; decide)
    refine hK _ _ ⟨trivial, vtx_rng (hvv.out ▸ HX5.out), blk_rng HX5.out⟩ fun hH5 => ?_
    obtain ⟨a5, c5, e5⟩ := h5.1.sl
    subst e5
    clear hK h5
    simp only [Act.put, List.setIfInBounds_toArray, List.set_cons_zero, List.set_cons_succ]
    refine wpAnyH_take (i := 9) (oi := ⟨some 39, Op.nilCheck (Operand.tmp 30), 0, _, _, none⟩) (v := .pointer (some ⟨d, 0, none⟩)) rfl (by kernel_rfl) (by kernel_rfl) (by kernel_rfl) (fun _ _ _ h => h) (Or.inl ⟨by rfl, fun w hS => by obtain ⟨hS1, hS2, hS3⟩ := hS; go_simp⟩) hH5 ?_
    simp only [Act.put, List.setIfInBounds_toArray, List.set_cons_zero, List.set_cons_succ]
    refine wpAnyH_take (i := 10) (oi := ⟨some 40, Op.fieldAddr 77 (Operand.tmp 39) 5, 0, _, _, none⟩) (v := .pointer (some ⟨d, 5, none⟩)) rfl (by kernel_rfl) (by kernel_rfl) (by kernel_rfl) (fun _ _ _ h => h) (Or.inl ⟨by rfl, fun w hS => by obtain ⟨hS1, hS2, hS3⟩ := hS; go_simp⟩) hH5 ?_
    simp only [Act.put, List.setIfInBounds_toArray, List.set_cons_zero, List.set_cons_succ]
    refine wpAnyH_ready (rs := [11]) (by kernel_rfl) (by simp) ?_
    refine AllReadyH.cons (o := ⟨none, Op.store 37 (Operand.tmp 40) (Operand.tmp 38), 0, _, _, none⟩) rfl (fun K hK => ?_) AllReadyH.nil
    rw [if_pos (by rfl)]
    have f_o := HB5.out.frozen 5
    have c_o : w5.cell? ⟨d, 5, none⟩ = some (.slice qa g.queue.length qc) := by have h := HB5.out.c 5 (by rfl : (dgA { g with wait := g.wait ++ [v] })[5]? = some g.qv); rw [Hqv.out] at h; exact h
    obtain ⟨n5, hn5⟩ : ∃ n, n = (g.queue ++ [v.id]).length := ⟨_, rfl⟩
    rw [← hn5] at HN5 ⊢
    refine wp_cellS (w5.setCell ⟨d, 5, none⟩ (.slice a5 n5 c5)) (by go_simp) ?_
    clear f_o c_o
    have HD6 := Keep.mk ((HD4.out.below BB1.out).setQ HN5.out.1 (by show Grown _ _ fun k => g.qv.ownBlock = some k; rw [Hqv.out]; exact HN5.out.2.1) (by show Moved _ g.qv _; rw [Hqv.out]; exact HN5.out.2.2))
    have HX6 := Keep.mk (HX5.out.set_ne (b' := d) (j := 5) (fun e => by subst e; have := HX5.out.typ.one HB5.out.typ; revert this; decide) (.slice a5 n5 c5))
    have G6 : Keep (Grown w (w5.setCell ⟨d, 5, none⟩ (.slice a5 n5 c5)) (DgS d g)) := ⟨((G4.out.trans (Grown.below BB1.out)).next HN5.out.2.1 fun i _ e => .inr (.inr (.inr (.inr (.inr (by rw [Hqv.out]; exact e)))))).next (Grown.setCell w5 d 5 _ (S := fun k => k = d) fun _ => rfl) fun i _ e => .inl e⟩
    have M6 : Keep (Moved w g.qv (.slice a5 n5 c5)) := ⟨by rw [Hqv.out]; exact HN5.out.2.2.imp id fun ⟨q, e, h⟩ => ⟨q, e, Nat.le_trans G4.out.size (Nat.le_trans BB1.out.size h)⟩⟩
    generalize w5.setCell ⟨d, 5, none⟩ (.slice a5 n5 c5) = w6 at *
    obtain ⟨v6, hv6⟩ : ∃ u : Value, u = .slice a5 n5 c5 := ⟨_, rfl⟩
    rw [← hv6] at HD6 M6
    refine hK _ _ ⟨trivial, vtx_rng (hvv.out ▸ HX6.out), blk_rng HX6.out⟩ fun hH6 => ?_
    rw [hn5]
    clear hK hH5 hH6 HB5 HX5 HN5 c5k hv6 hn5
    simp only [Act.put, List.setIfInBounds_toArray, List.set_cons_zero, List.set_cons_succ]
    refine wpAnyH_done (by kernel_rfl) ?_ _
    refine hK8 _ _ ?_
    refine wp_region_list (WL.out ?_)
    refine WL.val (by kernel_rfl) (.pointer (some ⟨d, 0, none⟩)) (by go_simp) ?_
    simp only [Act.put, List.setIfInBounds_toArray, List.set_cons_zero, List.set_cons_succ]
    have hsh := HSh.out w6 _ { { g with wait := g.wait ++ [v] } with qv := v6, queue := g.queue ++ [v.id] } HD6.out ⟨rfl, rfl, rfl, rfl, rfl, rfl⟩
    refine WL.callF (by kernel_rfl) 60 _ _ rfl Try.in60 #[ptr d] (by simp [Act.eval]) ?_
    refine (hsh).mono ?_
    rintro e w7 ⟨u7, g7, rfl, hs, hx, ho, hn⟩
    refine ⟨_, rfl, ?_⟩
    clear hsh
    have HS7 := Keep.mk hs
    have HX7 := Keep.mk hx
    have HO7 := Keep.mk ho
    have HN7 := Keep.mk hn
    clear hs hx ho hn
    simp only [Act.put, List.setIfInBounds_toArray, List.set_cons_zero, List.set_cons_succ]
    refine WL.val (by kernel_rfl) (u7) (by go_simp) ?_
    simp only [Act.put, List.setIfInBounds_toArray, List.set_cons_zero, List.set_cons_succ]
    refine WL.nil ?_
    refine hK3 _ _ ?_
    refine wp_seq_k fun K10 hK10 => ?_
    refine wp_region_list (WL.out ?_)
    refine WL.val (by kernel_rfl) (.int .i64 3) (by go_simp) ?_
    simp only [Act.put, List.setIfInBounds_toArray, List.set_cons_zero, List.set_cons_succ]
    refine WL.val (by kernel_rfl) (u7) (by go_simp) ?_
    simp only [Act.put, List.setIfInBounds_toArray, List.set_cons_zero, List.set_cons_succ]
    refine WL.val (by kernel_rfl) (.int .i64 0) (by go_simp) ?_
    simp only [Act.put, List.setIfInBounds_toArray, List.set_cons_zero, List.set_cons_succ]
    refine WL.val (by kernel_rfl) (.int .i64 3) (by go_simp) ?_
    simp only [Act.put, List.setIfInBounds_toArray, List.set_cons_zero, List.set_cons_succ]
    refine WL.val (by kernel_rfl) (u7) (by go_simp) ?_
    simp only [Act.put, List.setIfInBounds_toArray, List.set_cons_zero, List.set_cons_succ]
    refine WL.val (by kernel_rfl) (.int .i64 0) (by go_simp) ?_
    simp only [Act.put, List.setIfInBounds_toArray, List.set_cons_zero, List.set_cons_succ]
    refine WL.nil ?_
    refine hK10 _ _ ?_
    refine wp_ret ?_
    go_ret3
    refine ⟨u7, g7, rfl, ⟨HS7.out.at'.avInto (fun k hk => hk.elim (fun e => .inl (.inl e)) .inr) (fun k hk => .inr hk), G6.out.next HS7.out.grown (fun i hi e => (DagAt.setQS (g := { g with wait := g.wait ++ [v] }) M6.out e).elim id fun h => by omega), fun k hk => (HS7.out.sub k hk).elim (fun h => DagAt.setQS (g := { g with wait := g.wait ++ [v] }) M6.out h) fun h => .inr (Nat.le_trans G6.out.size h)⟩, HX7.out, HO7.out, fun k hk => ⟨Nat.le_trans G6.out.size (HN7.out k hk).1, (HN7.out k hk).2⟩⟩
end Go.Proofs.Ytogmdfhicbmplaa
