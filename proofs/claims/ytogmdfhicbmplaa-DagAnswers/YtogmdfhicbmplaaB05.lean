import Derived.Test.YtogmdfhicbmplaaB03
import Derived.Test.YtogmdfhicbmplaaB04
import Derived.Test.YtogmdfhicbmplaaB01
import Derived.Lib.AppendZerosOnto
import Derived.Lib.Overlaps
namespace Go.Proofs.Ytogmdfhicbmplaa
open Go.RowKit
set_option linter.unusedSimpArgs false
set_option linter.unusedVariables false

theorem Try.in25 (w : World) (vs : Array Value) : (callFunc 25 vs).run Try.prog w = .ok (.enter 25 vs) w := by kernel_rfl
theorem Try.in21 (w : World) (vs : Array Value) : (callFunc 21 vs).run Try.prog w = .ok (.enter 21 vs) w := by kernel_rfl
theorem Try.in52 (w : World) (vs : Array Value) : (callFunc 52 vs).run Try.prog w = .ok (.enter 52 vs) w := by kernel_rfl
theorem Try.in26 (w : World) (vs : Array Value) : (callFunc 26 vs).run Try.prog w = .ok (.enter 26 vs) w := by kernel_rfl
theorem Try.in40 (w : World) (vs : Array Value) : (callFunc 40 vs).run Try.prog w = .ok (.enter 40 vs) w := by kernel_rfl
theorem Try.in84 (w : World) (vs : Array Value) : (callFunc 84 vs).run Try.prog w = .ok (.enter 84 vs) w := by kernel_rfl
theorem heads_any (d : Nat) (Av : Nat → Prop) (g : DG) (w : World) (hD : DagAt w Av d g) (hL : g.heads.length ≤ 4398046511104) : Calls Try.prog 25 #[ptr d] w fun e w' => ∃ v', e = .returned v' ∧ Fresh w w' v' g.heads := by
 obtain ⟨xa, xc, hx⟩ := hD.oh.sl
 have Hx := Keep.mk hx
 have HD := Keep.mk hD
 have HL := Keep.mk hL
 clear hD hL hx
 go_enter Try.func25, Try.ntmps25
 have cl : w.cell? ⟨d, 2, none⟩ = some (.slice xa g.heads.length xc) := by have h := HD.out.blk.c 2 (by rfl : (dgA g)[2]? = some g.hv); rw [Hx.out] at h; exact h
 refine wp_seq_k fun K1 hK1 => rgn ?_
 refine VlS (.slice none 0 0) ?_
 refine WL.nil (hK1 _ _ ?_)
 refine wp_seq_k fun K2 hK2 => rgn ?_
 refine VlS (.pointer (some ⟨d, 0, none⟩)) ?_
 refine VlS (.pointer (some ⟨d, 0, none⟩)) ?_
 refine VlS (.pointer (some ⟨d, 2, none⟩)) ?_
 refine VlS (.slice xa g.heads.length xc) ?_
 clear cl
 refine WL.callF (by kernel_rfl) 64 _ _ rfl Try.in64 #[.slice xa g.heads.length xc] (by simp [Act.eval]) ?_
 refine (clone_any _ g.heads w (Hx.out ▸ HD.out.oh.row) HL.out).mono ?_
 rintro e w1 ⟨v1, rfl, hf⟩
 refine ⟨_, rfl, ?_⟩
 have HF := Keep.mk hf
 clear hf
 simp only [Act.put, pqA, pqB, pqC]
 refine VlS (v1) ?_
 refine WL.nil (hK2 _ _ ?_)
 refine wp_ret ?_
 go_ret
 exact ⟨_, rfl, HF.out⟩
theorem order_any (d : Nat) (Av : Nat → Prop) (g : DG) (w : World) (hD : DagAt w Av d g) (hL : g.order.length ≤ 4398046511104) : Calls Try.prog 21 #[ptr d] w fun e w' => ∃ v', e = .returned v' ∧ Fresh w w' v' g.order := by
 obtain ⟨xa, xc, hx⟩ := hD.oo.sl
 have Hx := Keep.mk hx
 have HD := Keep.mk hD
 have HL := Keep.mk hL
 clear hD hL hx
 go_enter Try.func21, Try.ntmps21
 have cl : w.cell? ⟨d, 3, none⟩ = some (.slice xa g.order.length xc) := by have h := HD.out.blk.c 3 (by rfl : (dgA g)[3]? = some g.ov); rw [Hx.out] at h; exact h
 refine wp_seq_k fun K1 hK1 => rgn ?_
 refine VlS (.slice none 0 0) ?_
 refine WL.nil (hK1 _ _ ?_)
 refine wp_seq_k fun K2 hK2 => rgn ?_
 refine VlS (.pointer (some ⟨d, 0, none⟩)) ?_
 refine VlS (.pointer (some ⟨d, 0, none⟩)) ?_
 refine VlS (.pointer (some ⟨d, 3, none⟩)) ?_
 refine VlS (.slice xa g.order.length xc) ?_
 clear cl
 refine WL.callF (by kernel_rfl) 64 _ _ rfl Try.in64 #[.slice xa g.order.length xc] (by simp [Act.eval]) ?_
 refine (clone_any _ g.order w (Hx.out ▸ HD.out.oo.row) HL.out).mono ?_
 rintro e w1 ⟨v1, rfl, hf⟩
 refine ⟨_, rfl, ?_⟩
 have HF := Keep.mk hf
 clear hf
 simp only [Act.put, pqA, pqB, pqC]
 refine VlS (v1) ?_
 refine WL.nil (hK2 _ _ ?_)
 refine wp_ret ?_
 go_ret
 exact ⟨_, rfl, HF.out⟩
theorem waiting_any (d : Nat) (Av : Nat → Prop) (g : DG) (w : World) (hD : DagAt w Av d g) (hL : g.queue.length ≤ 4398046511104) : Calls Try.prog 52 #[ptr d] w fun e w' => ∃ v', e = .returned v' ∧ Fresh w w' v' g.queue := by
 obtain ⟨xa, xc, hx⟩ := hD.oq.sl
 have Hx := Keep.mk hx
 have HD := Keep.mk hD
 have HL := Keep.mk hL
 clear hD hL hx
 go_enter Try.func52, Try.ntmps52
 have cl : w.cell? ⟨d, 5, none⟩ = some (.slice xa g.queue.length xc) := by have h := HD.out.blk.c 5 (by rfl : (dgA g)[5]? = some g.qv); rw [Hx.out] at h; exact h
 refine wp_seq_k fun K1 hK1 => rgn ?_
 refine VlS (.slice none 0 0) ?_
 refine WL.nil (hK1 _ _ ?_)
 refine wp_seq_k fun K2 hK2 => rgn ?_
 refine VlS (.pointer (some ⟨d, 0, none⟩)) ?_
 refine VlS (.pointer (some ⟨d, 0, none⟩)) ?_
 refine VlS (.pointer (some ⟨d, 5, none⟩)) ?_
 refine VlS (.slice xa g.queue.length xc) ?_
 clear cl
 refine WL.callF (by kernel_rfl) 64 _ _ rfl Try.in64 #[.slice xa g.queue.length xc] (by simp [Act.eval]) ?_
 refine (clone_any _ g.queue w (Hx.out ▸ HD.out.oq.row) HL.out).mono ?_
 rintro e w1 ⟨v1, rfl, hf⟩
 refine ⟨_, rfl, ?_⟩
 have HF := Keep.mk hf
 clear hf
 simp only [Act.put, pqA, pqB, pqC]
 refine VlS (v1) ?_
 refine WL.nil (hK2 _ _ ?_)
 refine wp_ret ?_
 go_ret
 exact ⟨_, rfl, HF.out⟩
set_option maxRecDepth 8000 in
set_option maxHeartbeats 400000 in
theorem parents_any (d : Nat) (x : Hs) (Av : Nat → Prop) (g : DG) (w : World) (hD : DagAt w Av d g) (hL : ∀ v, g.held.find? (isV x) = some v → v.ps.length ≤ 4398046511104) : Calls Try.prog 26 #[ptr d, .agg (bytesA 32 x.f)] w fun e w' =>
  (g.held.find? (isV x) = none ∧ e = .returned (.tuple #[.slice none 0 0, .int .i64 6]) ∧ Below w.heap.size w w') ∨ ∃ v, g.held.find? (isV x) = some v ∧ ∃ v', e = .returned (.tuple #[v', .int .i64 0]) ∧ Fresh w w' v' v.ps := by
 have HD := Keep.mk hD
 have HL := Keep.mk hL
 clear hD hL
 go_enter Try.func26, Try.ntmps26
 refine wp_seq_k fun K1 hK1 => rgn ?_
 refine WL.box (by kernel_rfl) 36 (.tmp 1) rfl (bytesA 32 x.f) rfl ?_
 obtain ⟨w1, hwn⟩ : ∃ wx, Keep (wx = w.alloc (.cells (bytesA 32 x.f) 36)) := ⟨_, ⟨rfl⟩⟩
 rw [← hwn.out]
 have HX1 : Keep (Blk w1 w.heap.size 36 (bytesA 32 x.f)) := ⟨by rw [hwn.out]; exact Blk.new _ _ _⟩
 have LB1 : Keep (Below w.heap.size w w1) := ⟨by rw [hwn.out]; exact below_new _ _⟩
 clear hwn
 simp only [Act.put, pqA, pqB, pqC]
 refine VlS (.slice none 0 0) ?_
 refine VlS (.int .i64 0) ?_
 refine WL.nil (hK1 _ _ ?_)
 refine wp_seq_k fun K2 hK2 => ?_
 have HD1 := Keep.mk (HD.out.below LB1.out)
 obtain ⟨es, ck, c0, k0, pa, pn, pm, hes, hl1, hl2, hcs⟩ := look1 HD1.out.held x
 obtain ⟨vv, hvv⟩ : ∃ a : Array Value, Keep (a = vtx c0 k0 (.slice pa pn pm)) := ⟨_, ⟨rfl⟩⟩
 obtain ⟨vz, hvz⟩ : ∃ a : Array Value, Keep (a = vtx (fun _ => 0) 0 (.slice none 0 0)) := ⟨_, ⟨rfl⟩⟩
 obtain ⟨fd, hfd⟩ : ∃ b, Keep ((g.held.find? (isV x)).isSome = b) := ⟨_, ⟨rfl⟩⟩
 rw [← hvv.out, hfd.out] at hl1
 have H1 := Keep.mk hl1
 have HC := Keep.mk hcs
 have hSB : Keep (∀ wx, Below w1.heap.size w1 wx → (fun wx => wx.cell? ⟨d, 1, none⟩ = some (.map (some g.hb)) ∧ wx.rangeAt w.heap.size 0 (bytesA 32 x.f).toList ∧ wx.heap[g.hb]? = some (.map es ck)) wx) := ⟨fun wx hb => ⟨(HD1.out.blk.below hb HD1.out.blk.lt).c 1 rfl, blk_rng (HX1.out.below hb HX1.out.lt), by rw [hb.block _ (Array.getElem?_eq_some_iff.1 hes).1]; exact hes⟩⟩
 have B1 : Keep (Below w1.heap.size w1 w1.drew) := ⟨(Below.refl _ _).drew⟩
 clear hl1 hl2 hcs hes
 refine wp_region_held_drew (S := fun wx => wx.cell? ⟨d, 1, none⟩ = some (.map (some g.hb)) ∧ wx.rangeAt w.heap.size 0 (bytesA 32 x.f).toList ∧ wx.heap[g.hb]? = some (.map es ck)) (by kernel_rfl) (hSB.out _ B1.out) (fun hHeld => ?_)
 refine tkS (i := 0) (oi := ⟨some 9, Op.move (Operand.tmp 0), 27, _, _, none⟩) (v := .pointer (some ⟨d, 0, none⟩)) rfl (Or.inl ⟨by rfl, fun w hS => by obtain ⟨hS1, hS2, hS3⟩ := hS; go_simp⟩) hHeld ?_
 refine tkS (i := 1) (oi := ⟨some 10, Op.nilCheck (Operand.tmp 9), 0, _, _, none⟩) (v := .pointer (some ⟨d, 0, none⟩)) rfl (Or.inl ⟨by rfl, fun w hS => by obtain ⟨hS1, hS2, hS3⟩ := hS; go_simp⟩) hHeld ?_
 refine tkS (i := 2) (oi := ⟨some 11, Op.fieldAddr 77 (Operand.tmp 10) 1, 0, _, _, none⟩) (v := .pointer (some ⟨d, 1, none⟩)) rfl (Or.inl ⟨by rfl, fun w hS => by obtain ⟨hS1, hS2, hS3⟩ := hS; go_simp⟩) hHeld ?_
 refine tkS (i := 3) (oi := ⟨some 12, Op.load 75 (Operand.tmp 11), 75, _, _, none⟩) (v := .map (some g.hb)) rfl (Or.inl ⟨by rfl, fun w hS => by obtain ⟨hS1, hS2, hS3⟩ := hS; go_simp⟩) hHeld ?_
 refine tkS (i := 4) (oi := ⟨some 13, Op.load 36 (Operand.tmp 3), 36, _, _, none⟩) (v := .agg (bytesA 32 x.f)) rfl (yieldsIf_ld (by rfl) (Operand.tmp 3) 36 rfl w.heap.size 0 rfl (bytesA 32 x.f) _ Try.underlying36 rfl (size36A _) fun w hS => hS.2.1) hHeld ?_
 refine tkS (i := 5) (oi := ⟨some 14, Op.lookup 75 (Operand.tmp 12) (Operand.tmp 13) true, 72, _, _, none⟩) (v := .tuple #[.agg vv, .bool fd]) rfl (yieldsIf_look (by rfl) (Operand.tmp 12) (Operand.tmp 13) true rfl g.hb x.f rfl rfl _ fun wx hS => H1.out wx hS.2.2) hHeld ?_
 refine tkS (i := 6) (oi := ⟨some 8, Op.move (Operand.tmp 14), 72, _, _, none⟩) (v := .tuple #[.agg vv, .bool fd]) rfl (Or.inl ⟨by rfl, fun w hS => by obtain ⟨hS1, hS2, hS3⟩ := hS; go_simp⟩) hHeld ?_
 refine tkS (i := 7) (oi := ⟨some 15, Op.extract (Operand.tmp 8) 0, 39, _, _, none⟩) (v := .agg vv) rfl (Or.inl ⟨by rfl, fun w hS => by obtain ⟨hS1, hS2, hS3⟩ := hS; go_simp⟩) hHeld ?_
 refine tkS (i := 8) (oi := ⟨some 16, Op.extract (Operand.tmp 8) 1, 4, _, _, none⟩) (v := .bool fd) rfl (Or.inl ⟨by rfl, fun w hS => by obtain ⟨hS1, hS2, hS3⟩ := hS; go_simp⟩) hHeld ?_
 refine wpAnyH_ready (rs := [9]) (by kernel_rfl) (by simp) ?_
 refine AllReadyH.cons (o := ⟨some 6, Op.alloc 39, 0, _, _, none⟩) rfl (fun K hK => ?_) AllReadyH.nil
 rw [if_pos (by rfl)]
 refine wp_newA 39 rfl vz (by rw [hvz.out]; exact Try.new39) ?_
 have B2 := Keep.mk (B1.out.alloc (Nat.le_refl _) (.cells vz 39))
 obtain ⟨w2, hw2⟩ : ∃ wx, Keep (wx = w1.drew.alloc (.cells vz 39)) := ⟨_, ⟨rfl⟩⟩
 rw [← hw2.out]
 have HB2 : Keep (Blk w2 w1.drew.heap.size 39 vz) := ⟨by rw [hw2.out]; exact Blk.new _ _ _⟩
 have B2 : Keep (Below w1.heap.size w1 w2) := ⟨by rw [hw2.out]; exact B2.out⟩
 have hL1 : Keep (w1.heap.size ≤ w1.drew.heap.size) := ⟨Nat.le_refl _⟩
 clear hw2
 generalize w1.drew.heap.size = n1 at *
 refine hK _ _ (hSB.out _ B2.out) fun hH1 => ?_
 clear hK
 simp only [Act.put, pqA, pqB, pqC]
 refine wpAnyH_ready (rs := [10]) (by kernel_rfl) (by simp) ?_
 refine AllReadyH.cons (o := ⟨none, Op.store 39 (Operand.tmp 6) (Operand.tmp 15), 0, _, _, none⟩) rfl (fun K hK => ?_) AllReadyH.nil
 rw [if_pos (by rfl)]
 refine wp_store_row 39 (Operand.tmp 6) (Operand.tmp 15) rfl n1 vv rfl rfl 39 vz HB2.out (by rw [hvv.out]; exact Try.info39s _ _ _) (by rw [hvv.out, hvz.out, vtx_size, vtx_size]) (by rw [hvv.out]; exact vtx_one _ _ _ (slice_one _ _ _)) ?_
 have B3 := Keep.mk (below_setRow B2.out hL1.out vv)
 have HX3 := Keep.mk (HB2.out.setRow vv)
 refine hK _ _ (hSB.out _ B3.out) fun hH2 => ?_
 generalize w2.setRow n1 vv = w3 at *
 have LB3 := Keep.mk (belowT LB1.out B3.out)
 have HD3 := Keep.mk (HD1.out.below B3.out)
 clear hK hH1 HB2 B2 hSB
 simp only [Act.put, pqA, pqB, pqC]
 refine tkS (i := 11) (oi := ⟨some 7, Op.assign (Operand.tmp 16), 4, _, _, none⟩) (v := .bool fd) rfl (Or.inl ⟨by rfl, fun w hS => by obtain ⟨hS1, hS2, hS3⟩ := hS; go_simp⟩) hH2 ?_
 refine wpAnyH_done (by kernel_rfl) ?_ _
 refine hK2 _ _ ?_
 refine wp_seq_k fun K3 hK3 => ?_
 refine wp_seq_k fun K4 hK4 => rgn ?_
 refine VlS (.bool fd) ?_
 by_cases h2_1 : fd = true
 ·skip
  refine VlS (.bool false) ?_
  refine WL.nil (hK4 _ _ ?_)
  refine wp_cond_false rfl ?_
  refine wp_skip ?_
  refine hK3 _ _ ?_
  refine wp_seq_k fun K5 hK5 => ?_
  have hfd' := hfd.out
  rw [h2_1] at hfd'
  clear hfd
  have hfd := Keep.mk hfd'
  obtain ⟨v, Hv⟩ : ∃ v, Keep (g.held.find? (isV x) = some v ∧ c0 = v.id.f ∧ k0 = v.ck ∧ HRow w1 (.slice pa pn pm) v.ps) := HC.out.elim (fun h => by have := hfd.out; rw [h.1] at this; cases this) fun ⟨v, h1, h2, h3, h4, _⟩ => ⟨v, ⟨h1, h2, h3, h4⟩⟩
  have HR3 := Keep.mk (Hv.out.2.2.2.below B3.out)
  obtain ⟨_, pm', hpf⟩ := HR3.out.form
  injection hpf with _ hpn _
  subst hpn
  have c33 : w3.cell? ⟨n1, 33, none⟩ = some (.slice pa v.ps.length pm) := HX3.out.c 33 (by rw [hvv.out]; exact vtx_ps _ _ _)
  refine rgn ?_
  refine VlS (.pointer (some ⟨n1, 33, none⟩)) ?_
  refine VlS (.slice pa v.ps.length pm) ?_
  clear c33
  refine WL.callF (by kernel_rfl) 64 _ _ rfl Try.in64 #[.slice pa v.ps.length pm] (by simp [Act.eval]) ?_
  refine (clone_any _ v.ps w3 HR3.out (HL.out v Hv.out.1)).mono ?_
  rintro e w4 ⟨v4, rfl, hf⟩
  refine ⟨_, rfl, ?_⟩
  have HF := Keep.mk hf
  clear hf
  simp only [Act.put, pqA, pqB, pqC]
  refine VlS (v4) ?_
  refine VlS (.int .i64 0) ?_
  refine WL.nil (hK5 _ _ ?_)
  refine wp_ret ?_
  go_ret2
  exact .inr ⟨v, Hv.out.1, v4, rfl, ⟨HF.out.own, fun k hk => Nat.le_trans LB3.out.size (HF.out.new k hk), belowT LB3.out HF.out.bel⟩⟩
 ·skip
  refine VlS (.bool true) ?_
  refine WL.nil (hK4 _ _ ?_)
  refine wp_cond_true rfl ?_
  refine wp_seq_k fun K6 hK6 => rgn ?_
  refine VlS (.slice none 0 0) ?_
  refine VlS (.int .i64 6) ?_
  refine WL.nil (hK6 _ _ ?_)
  refine wp_ret ?_
  go_ret2
  refine .inl ⟨?_, rfl, LB3.out⟩
  have := hfd.out
  rw [Bool.eq_false_iff.2 h2_1] at this
  exact Option.isNone_iff_eq_none.1 (by simpa using this)
/-- What Settle would answer. -/
def rdyE (l m : List VX) (x : Hs) : Int := match m.find? (isV x) with
 | none => 6
 | some v => if v.ps.all (hasB l) = true then nextE l v else 9
set_option maxRecDepth 8000 in
set_option maxHeartbeats 400000 in
theorem ready_any (d : Nat) (x : Hs) (Av : Nat → Prop) (g : DG) (w : World) (hD : DagAt w Av d g) (hM : ∀ v ∈ g.held, 0 ≤ v.ck ∧ v.ck ≤ 4096) (hL : ∀ v, g.wait.find? (isV x) = some v → v.ps.length ≤ 4398046511104) : Calls Try.prog 40 #[ptr d, .agg (bytesA 32 x.f)] w fun e w' => e = .returned (.int .i64 (rdyE g.held g.wait x)) ∧ Below w.heap.size w w' := by
 have HD := Keep.mk hD
 have HM := Keep.mk hM
 have HL := Keep.mk hL
 clear hD hM hL
 go_enter Try.func40, Try.ntmps40
 refine wp_seq_k fun K1 hK1 => rgn ?_
 refine WL.box (by kernel_rfl) 36 (.tmp 1) rfl (bytesA 32 x.f) rfl ?_
 obtain ⟨w1, hwn⟩ : ∃ wx, Keep (wx = w.alloc (.cells (bytesA 32 x.f) 36)) := ⟨_, ⟨rfl⟩⟩
 rw [← hwn.out]
 have HX1 : Keep (Blk w1 w.heap.size 36 (bytesA 32 x.f)) := ⟨by rw [hwn.out]; exact Blk.new _ _ _⟩
 have LB1 : Keep (Below w.heap.size w w1) := ⟨by rw [hwn.out]; exact below_new _ _⟩
 clear hwn
 simp only [Act.put, pqA, pqB, pqC]
 refine VlS (.int .i64 0) ?_
 refine WL.nil (hK1 _ _ ?_)
 refine wp_seq_k fun K2 hK2 => ?_
 have HD1 := Keep.mk (HD.out.below LB1.out)
 obtain ⟨es, ck, c0, k0, pa, pn, pm, hes, hl1, hl2, hcs⟩ := look1 HD1.out.wait x
 obtain ⟨vv, hvv⟩ : ∃ a : Array Value, Keep (a = vtx c0 k0 (.slice pa pn pm)) := ⟨_, ⟨rfl⟩⟩
 obtain ⟨vz, hvz⟩ : ∃ a : Array Value, Keep (a = vtx (fun _ => 0) 0 (.slice none 0 0)) := ⟨_, ⟨rfl⟩⟩
 obtain ⟨fd, hfd⟩ : ∃ b, Keep ((g.wait.find? (isV x)).isSome = b) := ⟨_, ⟨rfl⟩⟩
 rw [← hvv.out, hfd.out] at hl1
 have H1 := Keep.mk hl1
 have HC := Keep.mk hcs
 have hSB : Keep (∀ wx, Below w1.heap.size w1 wx → (fun wx => wx.cell? ⟨d, 4, none⟩ = some (.map (some g.wb)) ∧ wx.rangeAt w.heap.size 0 (bytesA 32 x.f).toList ∧ wx.heap[g.wb]? = some (.map es ck)) wx) := ⟨fun wx hb => ⟨(HD1.out.blk.below hb HD1.out.blk.lt).c 4 rfl, blk_rng (HX1.out.below hb HX1.out.lt), by rw [hb.block _ (Array.getElem?_eq_some_iff.1 hes).1]; exact hes⟩⟩
 have B1 : Keep (Below w1.heap.size w1 w1.drew) := ⟨(Below.refl _ _).drew⟩
 clear hl1 hl2 hcs hes
 refine wp_region_held_drew (S := fun wx => wx.cell? ⟨d, 4, none⟩ = some (.map (some g.wb)) ∧ wx.rangeAt w.heap.size 0 (bytesA 32 x.f).toList ∧ wx.heap[g.wb]? = some (.map es ck)) (by kernel_rfl) (hSB.out _ B1.out) (fun hHeld => ?_)
 refine tkS (i := 0) (oi := ⟨some 8, Op.move (Operand.tmp 0), 27, _, _, none⟩) (v := .pointer (some ⟨d, 0, none⟩)) rfl (Or.inl ⟨by rfl, fun w hS => by obtain ⟨hS1, hS2, hS3⟩ := hS; go_simp⟩) hHeld ?_
 refine tkS (i := 1) (oi := ⟨some 9, Op.nilCheck (Operand.tmp 8), 0, _, _, none⟩) (v := .pointer (some ⟨d, 0, none⟩)) rfl (Or.inl ⟨by rfl, fun w hS => by obtain ⟨hS1, hS2, hS3⟩ := hS; go_simp⟩) hHeld ?_
 refine tkS (i := 2) (oi := ⟨some 10, Op.fieldAddr 77 (Operand.tmp 9) 4, 0, _, _, none⟩) (v := .pointer (some ⟨d, 4, none⟩)) rfl (Or.inl ⟨by rfl, fun w hS => by obtain ⟨hS1, hS2, hS3⟩ := hS; go_simp⟩) hHeld ?_
 refine tkS (i := 3) (oi := ⟨some 11, Op.load 75 (Operand.tmp 10), 75, _, _, none⟩) (v := .map (some g.wb)) rfl (Or.inl ⟨by rfl, fun w hS => by obtain ⟨hS1, hS2, hS3⟩ := hS; go_simp⟩) hHeld ?_
 refine tkS (i := 4) (oi := ⟨some 12, Op.load 36 (Operand.tmp 3), 36, _, _, none⟩) (v := .agg (bytesA 32 x.f)) rfl (yieldsIf_ld (by rfl) (Operand.tmp 3) 36 rfl w.heap.size 0 rfl (bytesA 32 x.f) _ Try.underlying36 rfl (size36A _) fun w hS => hS.2.1) hHeld ?_
 refine tkS (i := 5) (oi := ⟨some 13, Op.lookup 75 (Operand.tmp 11) (Operand.tmp 12) true, 72, _, _, none⟩) (v := .tuple #[.agg vv, .bool fd]) rfl (yieldsIf_look (by rfl) (Operand.tmp 11) (Operand.tmp 12) true rfl g.wb x.f rfl rfl _ fun wx hS => H1.out wx hS.2.2) hHeld ?_
 refine tkS (i := 6) (oi := ⟨some 7, Op.move (Operand.tmp 13), 72, _, _, none⟩) (v := .tuple #[.agg vv, .bool fd]) rfl (Or.inl ⟨by rfl, fun w hS => by obtain ⟨hS1, hS2, hS3⟩ := hS; go_simp⟩) hHeld ?_
 refine tkS (i := 7) (oi := ⟨some 14, Op.extract (Operand.tmp 7) 0, 39, _, _, none⟩) (v := .agg vv) rfl (Or.inl ⟨by rfl, fun w hS => by obtain ⟨hS1, hS2, hS3⟩ := hS; go_simp⟩) hHeld ?_
 refine tkS (i := 8) (oi := ⟨some 15, Op.extract (Operand.tmp 7) 1, 4, _, _, none⟩) (v := .bool fd) rfl (Or.inl ⟨by rfl, fun w hS => by obtain ⟨hS1, hS2, hS3⟩ := hS; go_simp⟩) hHeld ?_
 refine wpAnyH_ready (rs := [9]) (by kernel_rfl) (by simp) ?_
 refine AllReadyH.cons (o := ⟨some 5, Op.alloc 39, 0, _, _, none⟩) rfl (fun K hK => ?_) AllReadyH.nil
 rw [if_pos (by rfl)]
 refine wp_newA 39 rfl vz (by rw [hvz.out]; exact Try.new39) ?_
 have B2 := Keep.mk (B1.out.alloc (Nat.le_refl _) (.cells vz 39))
 obtain ⟨w2, hw2⟩ : ∃ wx, Keep (wx = w1.drew.alloc (.cells vz 39)) := ⟨_, ⟨rfl⟩⟩
 rw [← hw2.out]
 have HB2 : Keep (Blk w2 w1.drew.heap.size 39 vz) := ⟨by rw [hw2.out]; exact Blk.new _ _ _⟩
 have B2 : Keep (Below w1.heap.size w1 w2) := ⟨by rw [hw2.out]; exact B2.out⟩
 have hL1 : Keep (w1.heap.size ≤ w1.drew.heap.size) := ⟨Nat.le_refl _⟩
 clear hw2
 generalize w1.drew.heap.size = n1 at *
 refine hK _ _ (hSB.out _ B2.out) fun hH1 => ?_
 clear hK
 simp only [Act.put, pqA, pqB, pqC]
 refine wpAnyH_ready (rs := [10]) (by kernel_rfl) (by simp) ?_
 refine AllReadyH.cons (o := ⟨none, Op.store 39 (Operand.tmp 5) (Operand.tmp 14), 0, _, _, none⟩) rfl (fun K hK => ?_) AllReadyH.nil
 rw [if_pos (by rfl)]
 refine wp_store_row 39 (Operand.tmp 5) (Operand.tmp 14) rfl n1 vv rfl rfl 39 vz HB2.out (by rw [hvv.out]; exact Try.info39s _ _ _) (by rw [hvv.out, hvz.out, vtx_size, vtx_size]) (by rw [hvv.out]; exact vtx_one _ _ _ (slice_one _ _ _)) ?_
 have B3 := Keep.mk (below_setRow B2.out hL1.out vv)
 have HX3 := Keep.mk (HB2.out.setRow vv)
 refine hK _ _ (hSB.out _ B3.out) fun hH2 => ?_
 generalize w2.setRow n1 vv = w3 at *
 have LB3 := Keep.mk (belowT LB1.out B3.out)
 have HD3 := Keep.mk (HD1.out.below B3.out)
 clear hK hH1 HB2 B2 hSB
 simp only [Act.put, pqA, pqB, pqC]
 refine tkS (i := 11) (oi := ⟨some 6, Op.assign (Operand.tmp 15), 4, _, _, none⟩) (v := .bool fd) rfl (Or.inl ⟨by rfl, fun w hS => by obtain ⟨hS1, hS2, hS3⟩ := hS; go_simp⟩) hH2 ?_
 refine wpAnyH_done (by kernel_rfl) ?_ _
 refine hK2 _ _ ?_
 refine wp_seq_k fun K3 hK3 => ?_
 refine wp_block ?_
 refine wp_seq_k fun K4 hK4 => rgn ?_
 refine VlS (.bool fd) ?_
 by_cases h2_1 : fd = true
 ·skip
  refine VlS (.bool false) ?_
  refine VlS (.bool false) ?_
  refine WL.nil (hK4 _ _ ?_)
  refine wp_cond_false rfl ?_
  refine wp_seq_k fun K5 hK5 => ?_
  have hfd' := hfd.out
  rw [h2_1] at hfd'
  clear hfd
  have hfd := Keep.mk hfd'
  obtain ⟨v, Hv⟩ : ∃ v, Keep (g.wait.find? (isV x) = some v ∧ c0 = v.id.f ∧ k0 = v.ck ∧ HRow w1 (.slice pa pn pm) v.ps) := HC.out.elim (fun h => by have := hfd.out; rw [h.1] at this; cases this) fun ⟨v, h1, h2, h3, h4, _⟩ => ⟨v, ⟨h1, h2, h3, h4⟩⟩
  have HR3 := Keep.mk (Hv.out.2.2.2.below B3.out)
  obtain ⟨_, pm', hpf⟩ := HR3.out.form
  injection hpf with _ hpn _
  subst hpn
  have c33 : w3.cell? ⟨n1, 33, none⟩ = some (.slice pa v.ps.length pm) := HX3.out.c 33 (by rw [hvv.out]; exact vtx_ps _ _ _)
  refine rgn ?_
  refine VlS (.pointer (some ⟨d, 0, none⟩)) ?_
  refine VlS (.pointer (some ⟨n1, 33, none⟩)) ?_
  refine VlS (.slice pa v.ps.length pm) ?_
  clear c33
  have hal := hasAll_any d _ v.ps Av g w3 HD3.out HR3.out (by have := HL.out v Hv.out.1; omega)
  refine WL.callF (by kernel_rfl) 68 _ _ rfl Try.in68 #[ptr d, .slice pa v.ps.length pm] (by simp [Act.eval]) ?_
  refine (hal).mono ?_
  rintro e w4 ⟨rfl, hz⟩
  refine ⟨_, rfl, ?_⟩
  clear hal
  have HX4 := Keep.mk (HX3.out.below hz HX3.out.lt)
  have LB4 := Keep.mk (belowT LB3.out hz)
  have HD4 := Keep.mk (HD3.out.below hz)
  have HR4 := Keep.mk (HR3.out.below hz)
  obtain ⟨ba, Hba⟩ : ∃ b, Keep (v.ps.all (hasB g.held) = b) := ⟨_, ⟨rfl⟩⟩
  rw [Hba.out]
  clear hz
  simp only [Act.put, pqA, pqB, pqC]
  by_cases h4_4 : ba = true
  ·skip
   refine VlS (.bool false) ?_
   refine VlS (.bool false) ?_
   refine WL.nil (hK5 _ _ ?_)
   refine wp_cond_false rfl ?_
   refine wp_skip ?_
   refine hK3 _ _ ?_
   refine wp_seq_k fun K6 hK6 => rgn ?_
   refine VlS (.pointer (some ⟨d, 0, none⟩)) ?_
   refine WL.row (by kernel_rfl) 39 (.tmp 5) rfl n1 rfl 39 vv _ HX4.out Try.underlying39 rfl (by rw [hvv.out]; exact Try.info39s _ _ _) ?_
   simp only [Act.put, pqA, pqB, pqC]
   have hnx := next_any d v _ Av g w4 HD4.out HR4.out HM.out (by have := HL.out v Hv.out.1; omega)
   rw [← Hv.out.2.1, ← Hv.out.2.2.1, ← hvv.out] at hnx
   refine WL.callF (by kernel_rfl) 69 _ _ rfl Try.in69 #[ptr d, .agg vv] (by simp [Act.eval]) ?_
   refine (hnx).mono ?_
   rintro e w5 ⟨rfl, hz⟩
   refine ⟨_, rfl, ?_⟩
   clear hnx
   have LB5 := Keep.mk (belowT LB4.out hz)
   clear hz
   simp only [Act.put, pqA, pqB, pqC]
   refine VlS (.int .i64 (nextE g.held v)) ?_
   refine WL.nil (hK6 _ _ ?_)
   refine wp_ret ?_
   go_ret
   refine ⟨?_, LB5.out⟩
   rw [rdyE, Hv.out.1]
   simp only [Hba.out, h4_4]; rfl
  ·skip
   refine VlS (.bool true) ?_
   refine VlS (.bool true) ?_
   refine WL.nil (hK5 _ _ ?_)
   refine wp_cond_true rfl ?_
   refine wp_seq_k fun K7 hK7 => rgn ?_
   refine VlS (.int .i64 9) ?_
   refine WL.nil (hK7 _ _ ?_)
   refine wp_ret ?_
   go_ret
   refine ⟨?_, LB4.out⟩
   rw [rdyE, Hv.out.1]
   simp only [Hba.out, h4_4]; rfl
 ·skip
  refine VlS (.bool true) ?_
  refine VlS (.bool true) ?_
  refine WL.nil (hK4 _ _ ?_)
  refine wp_cond_true rfl ?_
  refine wp_seq_k fun K8 hK8 => rgn ?_
  refine VlS (.int .i64 6) ?_
  refine WL.nil (hK8 _ _ ?_)
  refine wp_ret ?_
  go_ret
  refine ⟨?_, LB3.out⟩
  have := hfd.out
  rw [Bool.eq_false_iff.2 h2_1] at this
  have hno : g.wait.find? (isV x) = none := Option.isNone_iff_eq_none.1 (by simpa using this)
  rw [rdyE, hno]; rfl
theorem bs_mem {l : List Hs} {x : Hs} {i : Nat} {fd : Bool} (hI : Inc l) (h2 : ∀ k, k < i → Lt (l.getD k default) x) (h3 : ∀ k, i ≤ k → k < l.length → ¬ Lt (l.getD k default) x) (h4 : fd = true ↔ i < l.length ∧ l.getD i default = x) : fd = decide (x ∈ l) := by
 rw [Bool.eq_iff_iff, h4, decide_eq_true_iff]
 constructor
 ·rintro ⟨h, rfl⟩
  rw [List.getD_eq_getElem?_getD, List.getElem?_eq_getElem h, Option.getD_some]
  exact List.getElem_mem h
 ·intro hx
  obtain ⟨k, hk, e⟩ := List.getElem_of_mem hx
  have ek : l.getD k default = x := by rw [List.getD_eq_getElem?_getD, List.getElem?_eq_getElem hk, Option.getD_some, e]
  by_cases h : k < i
  ·have := h2 k h; rw [ek] at this; exact absurd this (Lt.irrefl x)
  ·by_cases h5 : k = i
   ·subst h5; exact ⟨hk, ek⟩
   ·have h6 := hI i k (by omega) hk
    rw [ek] at h6
    exact absurd h6 (h3 i (Nat.le_refl _) (by omega))
set_option maxRecDepth 8000 in
theorem names_any (v : VX) (x : Hs) (p : Value) (w : World) (hr : HRow w p v.ps) (hI : Inc v.ps) (hL : v.ps.length ≤ 4398046511104) : Calls Try.prog 84 #[.agg (vtx v.id.f v.ck p), .agg (bytesA 32 x.f)] w fun e w' => e = .returned (.bool (decide (x ∈ v.ps))) ∧ Below w.heap.size w w' := by
 obtain ⟨pa, pc, rfl⟩ := hr.form
 obtain ⟨vv, hvv⟩ : ∃ a : Array Value, Keep (a = vtx v.id.f v.ck (.slice pa v.ps.length pc)) := ⟨_, ⟨rfl⟩⟩
 rw [← hvv.out]
 have HR := Keep.mk hr
 have HI := Keep.mk hI
 have HL := Keep.mk hL
 clear hr hI hL
 go_enter Try.func84, Try.ntmps84
 refine wp_seq_k fun K1 hK1 => rgn ?_
 refine WL.box (by kernel_rfl) 39 (.tmp 0) rfl (vv) rfl ?_
 obtain ⟨w1, hwn⟩ : ∃ wx, Keep (wx = w.alloc (.cells (vv) 39)) := ⟨_, ⟨rfl⟩⟩
 rw [← hwn.out]
 have HV1 : Keep (Blk w1 w.heap.size 39 (vv)) := ⟨by rw [hwn.out]; exact Blk.new _ _ _⟩
 have LB1 : Keep (Below w.heap.size w w1) := ⟨by rw [hwn.out]; exact below_new _ _⟩
 clear hwn
 simp only [Act.put, pqA, pqB, pqC]
 refine WL.box (by kernel_rfl) 36 (.tmp 1) rfl (bytesA 32 x.f) rfl ?_
 obtain ⟨w2, hwn⟩ : ∃ wx, Keep (wx = w1.alloc (.cells (bytesA 32 x.f) 36)) := ⟨_, ⟨rfl⟩⟩
 rw [← hwn.out]
 have HX2 : Keep (Blk w2 w1.heap.size 36 (bytesA 32 x.f)) := ⟨by rw [hwn.out]; exact Blk.new _ _ _⟩
 have LB2 : Keep (Below w1.heap.size w1 w2) := ⟨by rw [hwn.out]; exact below_new _ _⟩
 clear hwn
 have HV2 := Keep.mk (HV1.out.below LB2.out HV1.out.lt)
 have LB := Keep.mk (belowT LB1.out LB2.out)
 have HR2 := Keep.mk (HR.out.below LB.out)
 have c33 : w2.cell? ⟨w.heap.size, 33, none⟩ = some (.slice pa v.ps.length pc) := HV2.out.c 33 (by rw [hvv.out]; exact vtx_ps _ _ _)
 simp only [Act.put, pqA, pqB, pqC]
 refine VlS (.bool false) ?_
 refine WL.nil (hK1 _ _ ?_)
 refine wp_seq_k fun K2 hK2 => rgn ?_
 refine VlS (.pointer (some ⟨w.heap.size, 33, none⟩)) ?_
 refine VlS (.slice pa v.ps.length pc) ?_
 refine WL.row (by kernel_rfl) 36 (.tmp 3) rfl w1.heap.size rfl 36 (bytesA 32 x.f) _ HX2.out Try.underlying36 rfl (Try.size36B _) ?_
 simp only [Act.put, pqA, pqB, pqC]
 clear c33
 refine WL.callF (by kernel_rfl) 85 _ _ rfl Try.in85 #[.slice pa v.ps.length pc, .agg (bytesA 32 x.f), .func (.func 86) #[] #[]] (by simp [Act.eval]) ?_
 refine (bsearch_any _ v.ps x w2 HR2.out HI.out HL.out).mono ?_
 rintro e w3 ⟨i, fd, rfl, h1, h2, h3, h4, hb⟩
 refine ⟨_, rfl, ?_⟩
 have HB := Keep.mk (belowT LB.out hb)
 have HF : Keep (fd = decide (x ∈ v.ps)) := ⟨bs_mem HI.out h2 h3 h4⟩
 clear h1 h2 h3 h4 hb
 simp only [Act.put, pqA, pqB, pqC]
 refine VlS (.tuple #[.int .i64 (i : Int), .bool fd]) ?_
 refine VlS (.int .i64 (i : Int)) ?_
 refine VlS (.bool fd) ?_
 refine VlS (.int .i64 (i : Int)) ?_
 refine VlS (.bool fd) ?_
 refine WL.nil (hK2 _ _ ?_)
 refine wp_seq_k fun K3 hK3 => rgn ?_
 refine VlS (.bool fd) ?_
 refine VlS (.bool fd) ?_
 refine WL.nil (hK3 _ _ ?_)
 refine wp_ret ?_
 go_ret
 exact ⟨by rw [← HF.out]; rfl, HB.out⟩
end Go.Proofs.Ytogmdfhicbmplaa
namespace Go.Proofs.Ytogmdfhicbmplaa
open Go.RowKit
set_option linter.unusedSimpArgs false
set_option linter.unusedVariables false

theorem Try.in83 (w : World) (vs : Array Value) : (callFunc 83 vs).run Try.prog w = .ok (.enter 83 vs) w := by kernel_rfl
theorem run_callC {P : Program} (a : Act) (o : Oper) (f : FuncId) (x : Operand) (args : Array Operand) (ts : Array TypeId) (c : Value) (ho : o.op = .call { callee := .value x, args := args, argTypes := ts }) (hx : a.eval x = .func (.func f) #[] #[c])
  (hf : ∀ (w : World) (vs : Array Value), (callFunc f vs).run P w = .ok (.enter f vs) w) (w : World) :
  (execOp a.eval o).run P w = .ok (.enter f (args.map a.eval ++ #[c])) w := by
 unfold execOp
 simp only [ho, resolve, hx]
 generalize Array.map a.eval args = vs
 simp [go_sem]
 exact hf w _
theorem WL.callC {P : Program} {ops : Array Oper} {rest : List Oper} {o : Oper} {a : Act} {w : World} {Q : Exit → Act → World → Prop} (hw : Region.wanted o (yielded ops a.tmps) = true) (f : FuncId) (x : Operand) (args : Array Operand) (ts : Array TypeId) (c : Value) (ho : o.op = .call { callee := .value x, args := args, argTypes := ts }) (hx : a.eval x = .func (.func f) #[] #[c])
  (hf : ∀ (w : World) (vs : Array Value), (callFunc f vs).run P w = .ok (.enter f vs) w) (vs : Array Value) (hvs : args.map a.eval ++ #[c] = vs)
  (hc : Calls P f vs w fun e w' => ∃ v, e = .returned v ∧ WL P ops Q rest (a.put o.dst v) w') : WL P ops Q (o :: rest) a w :=
 ⟨wpList_wanted hw fun K hK => by
  unfold Oper.wp
  rw [run_callC a o f x args ts c ho hx hf w, Oper.upon_enter, hvs]
  refine hc.mono ?_
  rintro e w' ⟨v, rfl, hr⟩
  exact hK _ _ hr.out⟩
set_option maxRecDepth 8000 in
theorem clo_any (b : Nat) (v : VX) (x : Hs) (p : Value) (w : World) (hV : Blk w b 39 (vtx v.id.f v.ck p)) (hr : HRow w p v.ps) (hI : Inc v.ps) (hL : v.ps.length ≤ 4398046511104) : Calls Try.prog 83 #[.agg (bytesA 32 x.f), ptr b] w fun e w' => e = .returned (.bool (decide (x ∈ v.ps))) ∧ Below w.heap.size w w' := by
 obtain ⟨vv, hvv⟩ : ∃ a : Array Value, Keep (a = vtx v.id.f v.ck p) := ⟨_, ⟨rfl⟩⟩
 rw [← hvv.out] at hV
 have HV := Keep.mk hV
 have HR := Keep.mk hr
 have HI := Keep.mk hI
 have HL := Keep.mk hL
 clear hV hr hI hL
 go_enter Try.func83, Try.ntmps83
 refine wp_seq_k fun K1 hK1 => rgn ?_
 refine WL.box (by kernel_rfl) 36 (.tmp 0) rfl (bytesA 32 x.f) rfl ?_
 obtain ⟨w1, hwn⟩ : ∃ wx, Keep (wx = w.alloc (.cells (bytesA 32 x.f) 36)) := ⟨_, ⟨rfl⟩⟩
 rw [← hwn.out]
 have HX1 : Keep (Blk w1 w.heap.size 36 (bytesA 32 x.f)) := ⟨by rw [hwn.out]; exact Blk.new _ _ _⟩
 have LB1 : Keep (Below w.heap.size w w1) := ⟨by rw [hwn.out]; exact below_new _ _⟩
 clear hwn
 have HV1 := Keep.mk (HV.out.below LB1.out HV.out.lt)
 have HR1 := Keep.mk (HR.out.below LB1.out)
 simp only [Act.put, pqA, pqB, pqC]
 refine VlS (.bool false) ?_
 refine WL.nil (hK1 _ _ ?_)
 refine wp_seq_k fun K2 hK2 => rgn ?_
 refine WL.row (by kernel_rfl) 39 (.tmp 1) rfl b rfl 39 vv _ HV1.out Try.underlying39 rfl (by rw [hvv.out]; exact Try.info39s _ _ _) ?_
 simp only [Act.put, pqA, pqB, pqC]
 refine WL.row (by kernel_rfl) 36 (.tmp 2) rfl w.heap.size rfl 36 (bytesA 32 x.f) _ HX1.out Try.underlying36 rfl (Try.size36B _) ?_
 simp only [Act.put, pqA, pqB, pqC]
 have hnm := names_any v x _ w1 HR1.out HI.out HL.out
 rw [← hvv.out] at hnm
 refine WL.callF (by kernel_rfl) 84 _ _ rfl Try.in84 #[.agg vv, .agg (bytesA 32 x.f)] (by simp [Act.eval]) ?_
 refine (hnm).mono ?_
 rintro e w2 ⟨rfl, hz⟩
 refine ⟨_, rfl, ?_⟩
 clear hnm
 have LB2 := Keep.mk (belowT LB1.out hz)
 clear hz
 simp only [Act.put, pqA, pqB, pqC]
 refine VlS (.bool (decide (x ∈ v.ps))) ?_
 refine WL.nil (hK2 _ _ ?_)
 refine wp_ret ?_
 go_ret
 exact ⟨rfl, LB2.out⟩
/-- The place of the first one that is among those, from place t on. -/
def pxF (ps : List Hs) : List Hs → Nat → Int
 | [], _ => -1
 | y :: r, t => if y ∈ ps then (t : Int) else pxF ps r (t + 1)
set_option maxRecDepth 8000 in
set_option maxHeartbeats 400000 in
theorem idxf_any (b : Nat) (v : VX) (p s : Value) (l : List Hs) (w : World) (hr : HRow w s l) (hV : Blk w b 39 (vtx v.id.f v.ck p)) (hP : HRow w p v.ps) (hI : Inc v.ps) (hPl : v.ps.length ≤ 4398046511104) (hL : l.length ≤ 4398046511104) : Calls Try.prog 93 #[s, .func (.func 83) #[] #[.pointer (some ⟨b, 0, none⟩)]] w fun e w' => e = .returned (.int .i64 (pxF v.ps l 0)) ∧ Below w.heap.size w w' := by
 obtain ⟨pa, pc, rfl⟩ := hr.form
 have HR := Keep.mk hr
 have HV := Keep.mk hV
 have HP := Keep.mk hP
 have HI := Keep.mk hI
 have HPl := Keep.mk hPl
 have HL := Keep.mk hL
 clear hr hV hP hI hPl hL
 go_enter Try.func93, Try.ntmps93
 refine wp_seq_k fun K1 hK1 => rgn ?_
 refine VlS (.int .i64 0) ?_
 refine WL.nil (hK1 _ _ ?_)
 refine wp_seq_k fun K2 hK2 => ?_
 refine wp_seq_k fun K3 hK3 => rgn ?_
 refine VlS (.slice pa l.length pc) ?_
 refine VlS (.int .i64 (l.length : Int)) ?_
 refine VlS (.int .i64 0) ?_
 refine WL.nil (hK3 _ _ ?_)
 refine wp_block ?_
 refine wp_loop (fun ac wr => ∃ (t : Nat) (u4 u5 u9 u10 u11 u12 u13 u14 u15 u16 u17 u18 : Value), ac = { tmps := #[.slice pa l.length pc, .func (.func 83) #[] #[.pointer (some ⟨b, 0, none⟩)], undef, undef, u4, u5, .slice pa l.length pc, .int .i64 (l.length : Int), .int .i64 (t : Int), u9, u10, u11, u12, u13, u14, u15, u16, u17, u18], defers := [] } ∧ t ≤ l.length ∧ pxF v.ps l 0 = pxF v.ps (l.drop t) t ∧ Below w.heap.size w wr) (fun a _ => l.length - (intOf (a.tmps.getD 8 undef)).toNat) ⟨0, .int .i64 0, undef, undef, undef, undef, undef, undef, undef, undef, undef, undef, undef, rfl, by omega, rfl, Below.refl _ _⟩ ?_
 rintro ac wr ⟨t, u4, u5, u9, u10, u11, u12, u13, u14, u15, u16, u17, u18, rfl, ht, hP, hB⟩
 have JB := Keep.mk hB
 have JP := Keep.mk hP
 clear hB hP
 have HRr := Keep.mk (HR.out.below JB.out)
 have HPr := Keep.mk (HP.out.below JB.out)
 have HVr := Keep.mk (HV.out.below JB.out HV.out.lt)
 by_cases htl : t < l.length
 ·have htl' : (t : Int) < (l.length : Int) := by omega
  have hwr1 : IntKind.i64.wrap ((t : Int) + 1) = (t : Int) + 1 := by rw [IntKind.wrap_i64]; have := HL.out; omega
  obtain ⟨gp, op, hpa, hlen, hcap, hrg⟩ := (HRr.out).at (by omega)
  have hel := rangeAt_elem hrg t htl
  obtain ⟨hh, hhh⟩ : ∃ hh, hh = l[t] := ⟨_, rfl⟩
  rw [← hhh] at hel
  have Jhh := Keep.mk hhh
  have Hel := Keep.mk hel
  subst hpa
  clear hlen hcap hrg hhh hel
  obtain ⟨nb, Hnb⟩ : ∃ b, Keep (decide (hh ∈ v.ps) = b) := ⟨_, ⟨rfl⟩⟩
  refine wp_seq_k fun K4 hK4 => rgn ?_
  refine VlS (.bool true) ?_
  refine WL.nil (hK4 _ _ ?_)
  refine wp_seq_k fun K5 hK5 => ?_
  refine wp_cond_true rfl ?_
  refine wp_skip ?_
  refine hK5 _ _ ?_
  refine wp_seq_k fun K6 hK6 => ?_
  refine wp_block ?_
  refine wp_seq_k fun K7 hK7 => rgn ?_
  refine VlS (.int .i64 (t : Int)) ?_
  refine VlS (.int .i64 (t : Int)) ?_
  refine WL.nil (hK7 _ _ ?_)
  refine wp_seq_k fun K8 hK8 => rgn ?_
  refine VlS (.func (.func 83) #[] #[.pointer (some ⟨b, 0, none⟩)]) ?_
  refine VlS (.slice (some ⟨gp, op, none⟩) l.length pc) ?_
  refine VlS (.int .i64 (t : Int)) ?_
  refine VlS (.pointer (some ⟨gp, op + t * 32, none⟩)) ?_
  refine WL.mid (by kernel_rfl) 36 (.tmp 14) rfl gp (op + t * 32) rfl (encH hh) _ Hel.out Try.underlying36 rfl (Try.size36L hh) ?_
  rw [enc_load]
  simp only [Act.put, pqA, pqB, pqC]
  have hcl := clo_any b v hh _ wr HVr.out HPr.out HI.out HPl.out
  rw [Hnb.out] at hcl
  refine WL.callC (by kernel_rfl) 83 (.tmp 11) _ _ (ptr b) rfl rfl Try.in83 #[.agg (bytesA 32 hh.f), ptr b] (by simp [Act.eval]) ?_
  refine hcl.mono ?_
  clear hcl
  rintro e w2 ⟨rfl, hz⟩
  refine ⟨_, rfl, ?_⟩
  have B2 := Keep.mk (belowT JB.out hz)
  clear hz
  simp only [Act.put, pqA, pqB, pqC]
  refine WL.nil (hK8 _ _ ?_)
  rcases Bool.eq_false_or_eq_true nb with hnq | hnq
  ·subst hnq
   refine wp_cond_true rfl ?_
   refine wp_seq_k fun K9 hK9 => rgn ?_
   refine VlS (.int .i64 (t : Int)) ?_
   refine VlS (.int .i64 (t : Int)) ?_
   refine WL.nil (hK9 _ _ ?_)
   refine wp_ret ?_
   go_ret
   have heq : hh ∈ v.ps := of_decide_eq_true Hnb.out
   refine ⟨?_, B2.out⟩
   rw [JP.out, List.drop_eq_getElem_cons htl, pxF, ← Jhh.out, if_pos heq]; rfl
  ·subst hnq
   refine wp_cond_false rfl ?_
   refine wp_skip ?_
   refine hK6 _ _ ?_
   refine rgn ?_
   refine VlS (.int .i64 ((t : Int) + 1)) ?_
   refine VlS (.int .i64 ((t : Int) + 1)) ?_
   refine WL.nil ?_
   have hne : ¬ hh ∈ v.ps := of_decide_eq_false Hnb.out
   refine ⟨⟨t + 1, u4, .int .i64 (t : Int), .bool true, .int .i64 (t : Int), .func (.func 83) #[] #[.pointer (some ⟨b, 0, none⟩)], .slice (some ⟨gp, op, none⟩) l.length pc, .int .i64 (t : Int), .pointer (some ⟨gp, op + t * 32, none⟩), .agg (bytesA 32 hh.f), .bool false, u17, .int .i64 ((t : Int) + 1), rfl, by omega, ?_, B2.out⟩, ?_⟩
   ·rw [JP.out, List.drop_eq_getElem_cons htl, pxF, ← Jhh.out, if_neg hne]
   ·simp only [intOf]; show l.length - ((t : Int) + 1).toNat < l.length - ((t : Int)).toNat; omega
 ·have hte : Keep (t = l.length) := ⟨by omega⟩
  have htl' : ¬ (t : Int) < (l.length : Int) := by omega
  refine wp_seq_k fun K10 hK10 => rgn ?_
  refine VlS (.bool false) ?_
  refine WL.nil (hK10 _ _ ?_)
  refine wp_seq_k fun K11 hK11 => ?_
  refine wp_cond_false rfl ?_
  refine wp_exit ?_
  refine hK2 _ _ ?_
  refine wp_seq_k fun K12 hK12 => rgn ?_
  refine VlS (.int .i64 (-1)) ?_
  refine WL.nil (hK12 _ _ ?_)
  refine wp_ret ?_
  go_ret
  refine ⟨?_, JB.out⟩
  rw [JP.out, hte.out, List.drop_length]; rfl
end Go.Proofs.Ytogmdfhicbmplaa
namespace Go.Proofs.Ytogmdfhicbmplaa
open Go.RowKit
set_option linter.unusedSimpArgs false
set_option linter.unusedVariables false

theorem run_clrN (w : World) (g k m c : Nat) (cur : Array Value) (ty : TypeId) (hg : Blk w g 36 cur) (hm : 0 < m) (hk : k * 32 + m * 32 ≤ cur.size) : ∃ cur' : Array Value,
  (Builtin.clear_ #[37] ty #[.slice (some ⟨g, k * 32, none⟩) m c]).run Try.prog w = .ok (.tuple #[]) (w.setRow g cur') ∧ cur'.size = cur.size ∧ cur'.toList.take (k * 32) = cur.toList.take (k * 32) := by
 have hfl : (flatH (List.replicate m default)).length = m * 32 := by rw [flatH_len, List.length_replicate]
 have hst := run_storeCells_at Try.prog g (k * 32) 36 (flatH (List.replicate m default)) 0 cur w hg (by rw [hfl]; omega) (flatH_one _)
 obtain ⟨i, hi, hzz⟩ := Option.map_eq_some_iff.1 Try.info36
 simp only [Prod.mk.injEq] at hzz
 obtain ⟨n, rfl⟩ : ∃ n, m = n + 1 := ⟨m - 1, by omega⟩
 refine ⟨(cur.toList.take (k * 32 + 0) ++ flatH (List.replicate (n + 1) default) ++ cur.toList.drop (k * 32 + 0 + (flatH (List.replicate (n + 1) default)).length)).toArray, ?_, ?_, ?_⟩
 ·simp [Builtin.clear_, zeroValue, typeInfo, hi, hzz.1, Value.cells, zeroCellsH, hst]
 ·simp only [List.size_toArray, List.length_append, List.length_take, List.length_drop, Array.length_toList, hfl]; omega
 ·simp only [Nat.add_zero]
  rw [List.append_assoc, List.take_append_of_le_length (by simp; omega), List.take_take, Nat.min_self]
theorem WL.clrN {ops : Array Oper} {rest : List Oper} {o : Oper} {a : Act} {w : World} {Q : Exit → Act → World → Prop} (hw : Region.wanted o (yielded ops a.tmps) = true) (x : Operand)
  (ho : o.op = .call { callee := .builtin .clear, args := #[x], argTypes := #[37] }) (g k m c : Nat) (cur : Array Value) (hx : a.eval x = .slice (some ⟨g, k * 32, none⟩) m c) (hg : Blk w g 36 cur) (hm : 0 < m) (hk : k * 32 + m * 32 ≤ cur.size)
  (h : ∀ cur' : Array Value, cur'.size = cur.size → cur'.toList.take (k * 32) = cur.toList.take (k * 32) → WL Try.prog ops Q rest (a.put o.dst (.tuple #[])) (w.setRow g cur')) : WL Try.prog ops Q (o :: rest) a w :=
 ⟨wpList_wanted hw fun K hK => by
  obtain ⟨cur', hr, h1, h2⟩ := run_clrN w g k m c cur o.type hg hm hk
  unfold Oper.wp execOp
  simp only [ho, resolve, invoke, builtin, Sem.run_bind, Sem.run_pure, Result.andThen_ok, List.map_toArray, List.map_cons, List.map_nil, hx, hr]
  exact hK _ _ (h cur' h1 h2).out⟩
/-- An owned list's block. -/
theorem ownH_blk {w : World} {g n cap : Nat} {l : List Hs} (h : OwnH w (.slice (some ⟨g, 0, none⟩) n cap) l) : ∃ cur : Array Value, Blk w g 36 cur ∧ n = l.length ∧ l.length ≤ cap ∧ cap ≤ maxLen ∧ cur.size = cap * 32 ∧ cur.toList.take (l.length * 32) = flatH l := by
 rcases h.2 with ⟨h0, _⟩ | ⟨g', cap', cur, hv, h2, h3, h4, h5, h6, h7⟩
 ·cases h0
 ·injection hv with e1 e2 e3
  injection e1 with e1
  injection e1 with e1
  subst e1 e3
  exact ⟨cur, h3, e2, h4, h5, h6, h7⟩
theorem ownH_mk {w : World} {g n cap : Nat} {l : List Hs} {cur : Array Value} (hb : Blk w g 36 cur) (hn : n = l.length) (hc : l.length ≤ cap) (hm : cap ≤ maxLen) (hs : cur.size = cap * 32) (ht : cur.toList.take (l.length * 32) = flatH l) : OwnH w (.slice (some ⟨g, 0, none⟩) n cap) l := by
 subst hn
 exact ⟨by rw [flatH_len], .inr ⟨g, cap, cur, rfl, Nat.zero_le _, hb, hc, hm, hs, ht⟩⟩
theorem take_mid (C e : List Value) (k m n : Nat) (he : e.length = m) (h : k + m ≤ n) (hn : n ≤ C.length) : (C.take k ++ e ++ C.drop (k + m)).take n = (C.take n).take k ++ e ++ (C.take n).drop (k + m) := by
 have hk : (C.take k).length = k := by rw [List.length_take]; omega
 rw [List.append_assoc, List.take_append, hk, List.take_of_length_le (l := C.take k) (by omega), List.take_append, he, List.take_of_length_le (l := e) (by omega), List.take_take, Nat.min_eq_left (by omega), List.drop_take, List.append_assoc, Nat.sub_sub]
theorem own_set {w : World} {g n cap i : Nat} {E : List Hs} {h : Hs} {cur : Array Value} (hO : OwnH w (.slice (some ⟨g, 0, none⟩) n cap) E) (hb : Blk w g 36 cur) (hi : i < E.length) :
  OwnH (w.setRow g (cur.toList.take (i * 32) ++ (bytesA 32 h.f).toList ++ cur.toList.drop (i * 32 + (bytesA 32 h.f).size)).toArray) (.slice (some ⟨g, 0, none⟩) n cap) (E.set i h) := by
 obtain ⟨cur2, hb2, hn, hc, hm, hs, ht⟩ := ownH_blk hO
 obtain rfl : cur = cur2 := by unfold Blk at hb hb2; rw [hb] at hb2; simpa using hb2
 refine ownH_mk (hb.setRow _) (by rw [List.length_set]; exact hn) (by rw [List.length_set]; exact hc) hm ?_ ?_
 ·simp only [List.size_toArray, List.length_append, List.length_take, List.length_drop, Array.length_toList, bytesA_size]
  have : i * 32 + 32 ≤ cap * 32 := by omega
  omega
 ·have h1 := setH_flat E i h hi
  have h2 : (flatH E).toArray.toList = flatH E := rfl
  rw [h2] at h1
  have h3 : (flatH E).take (i * 32) ++ encH h ++ (flatH E).drop (i * 32 + 32) = flatH (E.set i h) := by have := congrArg Array.toList h1; simpa using this
  rw [← h3, List.length_set, ← ht, bytesA_size]
  have h4 := take_mid cur.toList (bytesA 32 h.f).toList (i * 32) 32 (E.length * 32) (by rw [Array.length_toList, bytesA_size]) (by omega) (by have h5 : cur.toList.length = cur.size := Array.length_toList; omega)
  exact h4
/-- Those that are not among some. -/
def outB (ps : List Hs) (h : Hs) : Bool := decide (¬ h ∈ ps)
theorem pxF_spec (ps : List Hs) : ∀ (l : List Hs) (t i0 : Nat), pxF ps l t = (i0 : Int) → t ≤ i0 ∧ i0 - t < l.length ∧ (l.take (i0 - t + 1)).filter (outB ps) = l.take (i0 - t)
 | [], t, i0, h => by simp [pxF] at h
 | y :: r, t, i0, h => by
  rw [pxF] at h
  by_cases hy : y ∈ ps
  ·rw [if_pos hy] at h
   have : t = i0 := by omega
   subst this
   refine ⟨Nat.le_refl _, by simp, ?_⟩
   simp [outB, hy]
  ·rw [if_neg hy] at h
   obtain ⟨h1, h2, h3⟩ := pxF_spec ps r (t + 1) i0 h
   refine ⟨by omega, by simp; omega, ?_⟩
   rw [show i0 - t = (i0 - (t + 1)) + 1 by omega, List.take_succ_cons, List.take_succ_cons, List.filter_cons, if_pos (by simp [outB, hy]), h3]
theorem take_set_at {E : List Hs} {i : Nat} {h : Hs} (hi : i < E.length) : (E.set i h).take (i + 1) = E.take i ++ [h] := by
 rw [List.take_succ_eq_append_getElem (by rw [List.length_set]; exact hi), List.getElem_set_self, List.take_set_of_le (Nat.le_refl _)]
def NewLx (w w' : World) (v v' : Value) (l' : List Hs) : Prop := OwnH w' v' l' ∧ (Grown w w' fun k => v.ownBlock = some k) ∧ Moved w v v'
theorem drop_head {E l : List Hs} {j : Nat} (h1 : j < E.length) (h2 : j < l.length) (h : E.drop j = l.drop j) : E[j] = l[j] := by
 have h3 : (E.drop j)[0]? = (l.drop j)[0]? := by rw [h]
 rw [List.getElem?_drop, List.getElem?_drop, Nat.add_zero, List.getElem?_eq_getElem h1, List.getElem?_eq_getElem h2] at h3
 exact Option.some.inj h3
set_option maxRecDepth 8000 in
set_option maxHeartbeats 1000000 in
theorem df_some (b g cap i0 : Nat) (v : VX) (p : Value) (l : List Hs) (w : World) (hO : OwnH w (.slice (some ⟨g, 0, none⟩) l.length cap) l) (hV : Blk w b 39 (vtx v.id.f v.ck p)) (hP : HRow w p v.ps) (hPg : p.ownBlock ≠ some g) (hI : Inc v.ps) (hPl : v.ps.length ≤ 4398046511104) (hL : l.length ≤ 4398046511104) (hi : pxF v.ps l 0 = (i0 : Int)) : Calls Try.prog 82 #[.slice (some ⟨g, 0, none⟩) l.length cap, .func (.func 83) #[] #[.pointer (some ⟨b, 0, none⟩)]] w fun e w' => ∃ v', e = .returned v' ∧ NewLx w w' (.slice (some ⟨g, 0, none⟩) l.length cap) v' (l.filter (outB v.ps)) := by
 have hbg : Keep (¬ b = g) := ⟨fun e => by obtain ⟨cur, hb, _⟩ := ownH_blk hO; subst e; have := hV.typ.one hb.typ; revert this; decide⟩
 have HO := Keep.mk hO
 have HV := Keep.mk hV
 have HP := Keep.mk hP
 have HPg := Keep.mk hPg
 have HI := Keep.mk hI
 have HPl := Keep.mk hPl
 have HL := Keep.mk hL
 have Hi0 := Keep.mk hi
 clear hO hV hP hPg hI hPl hL hi
 go_enter Try.func82, Try.ntmps82
 refine wp_seq_k fun K1 hK1 => rgn ?_
 refine VlS (.slice none 0 0) ?_
 refine WL.nil (hK1 _ _ ?_)
 refine wp_seq_k fun K2 hK2 => rgn ?_
 refine VlS (.slice (some ⟨g, 0, none⟩) l.length cap) ?_
 refine VlS (.func (.func 83) #[] #[.pointer (some ⟨b, 0, none⟩)]) ?_
 have hix := idxf_any b v p _ l w HO.out.row HV.out HP.out HI.out HPl.out HL.out
 rw [Hi0.out] at hix
 refine WL.callF (by kernel_rfl) 93 _ _ rfl Try.in93 #[.slice (some ⟨g, 0, none⟩) l.length cap, .func (.func 83) #[] #[.pointer (some ⟨b, 0, none⟩)]] (by simp [Act.eval]) ?_
 refine (hix).mono ?_
 rintro e w1 ⟨rfl, hz⟩
 refine ⟨_, rfl, ?_⟩
 clear hix
 have B1 := Keep.mk hz
 clear hz
 have hi0 := pxF_spec v.ps l 0 i0 Hi0.out
 rw [Nat.sub_zero] at hi0
 have HS0 := Keep.mk hi0
 clear hi0
 have hw0 : IntKind.i64.wrap ((i0 : Int) + 1) = ((i0 + 1 : Nat) : Int) := by rw [IntKind.wrap_i64]; have := HS0.out.2.1; have := HL.out; omega
 have hn1 : ¬ (i0 : Int) = -1 := by omega
 simp only [Act.put, pqA, pqB, pqC]
 refine VlS (.int .i64 (i0 : Int)) ?_
 refine WL.nil (hK2 _ _ ?_)
 refine wp_seq_k fun K3 hK3 => ?_
 refine wp_seq_k fun K4 hK4 => rgn ?_
 refine VlS (.int .i64 (i0 : Int)) ?_
 refine VlS (.bool false) ?_
 refine WL.nil (hK4 _ _ ?_)
 refine wp_cond_false rfl ?_
 refine wp_skip ?_
 refine hK3 _ _ ?_
 refine wp_seq_k fun K5 hK5 => ?_
 refine wp_seq_k fun K6 hK6 => rgn ?_
 refine VlS (.int .i64 (i0 : Int)) ?_
 refine VlS (.int .i64 ((i0 + 1 : Nat) : Int)) ?_
 refine VlS (.int .i64 ((i0 + 1 : Nat) : Int)) ?_
 refine WL.nil (hK6 _ _ ?_)
 refine wp_block ?_
 refine wp_loop (fun ac wr => ∃ (t : Nat) (u7 u16 u17 u18 u19 u20 u21 u22 u23 u24 u25 u26 u27 u28 u29 u30 u31 u32 u33 u34 u35 : Value) (i j : Nat) (E : List Hs), ac = { tmps := #[.slice (some ⟨g, 0, none⟩) l.length cap, .func (.func 83) #[] #[.pointer (some ⟨b, 0, none⟩)], undef, undef, .slice none 0 0, .int .i64 (i : Int), .int .i64 (j : Int), u7, .slice (some ⟨g, 0, none⟩) l.length cap, .func (.func 83) #[] #[.pointer (some ⟨b, 0, none⟩)], .int .i64 (i0 : Int), .int .i64 (i0 : Int), .bool false, undef, .int .i64 (i0 : Int), .int .i64 ((i0 + 1 : Nat) : Int), u16, u17, u18, u19, u20, u21, u22, u23, u24, u25, u26, u27, u28, u29, u30, u31, u32, u33, u34, u35, undef, undef, undef, undef, undef, undef], defers := [] } ∧ i < j ∧ j ≤ l.length ∧ E.length = l.length ∧ E.take i = (l.take j).filter (outB v.ps) ∧ E.drop j = l.drop j ∧ OwnH wr (.slice (some ⟨g, 0, none⟩) l.length cap) E ∧ Grown w wr (fun k => k = g)) (fun a _ => l.length - (intOf (a.tmps.getD 6 undef)).toNat) ⟨0, undef, undef, undef, undef, undef, undef, undef, undef, undef, undef, undef, undef, undef, undef, undef, undef, undef, undef, undef, undef, undef, i0, i0 + 1, l, rfl, by omega, by have := HS0.out.2.1; omega, rfl, HS0.out.2.2.symm, rfl, HO.out.below B1.out, Grown.below B1.out⟩ ?_
 rintro ac wr ⟨t, u7, u16, u17, u18, u19, u20, u21, u22, u23, u24, u25, u26, u27, u28, u29, u30, u31, u32, u33, u34, u35, i, j, E, rfl, hij, hjn, hE, hT, hD, hO, hG⟩
 have JE := Keep.mk hE
 have JT := Keep.mk hT
 have JD := Keep.mk hD
 have JO := Keep.mk hO
 have JG := Keep.mk hG
 clear hE hT hD hO hG
 have HVr := Keep.mk (JG.out.blk HV.out fun e => hbg.out e)
 have HPr := Keep.mk (HP.out.grown JG.out fun b' o' n' c' e1 e2 => HPg.out (by rw [e1, e2]; rfl))
 by_cases hjl : j < l.length
 ·have hjl' : (j : Int) < (l.length : Int) := by omega
  have hil' : (i : Int) < (l.length : Int) := by omega
  have hwj : IntKind.i64.wrap ((j : Int) + 1) = ((j + 1 : Nat) : Int) := by rw [IntKind.wrap_i64]; have := HL.out; omega
  have hwi : IntKind.i64.wrap ((i : Int) + 1) = ((i + 1 : Nat) : Int) := by rw [IntKind.wrap_i64]; have := HL.out; omega
  have hjE : j < E.length := by rw [JE.out]; exact hjl
  have hel := rangeAt_elem (ownH_rng JO.out) j hjE
  rw [Nat.zero_add] at hel
  obtain ⟨hh, hhh⟩ : ∃ hh, hh = E[j] := ⟨_, rfl⟩
  rw [← hhh] at hel
  have Hel := Keep.mk hel
  have Jhh : Keep (l[j] = hh) := ⟨hhh ▸ (drop_head hjE hjl JD.out).symm⟩
  clear hel hhh
  obtain ⟨nb, Hnb⟩ : ∃ b, Keep (decide (hh ∈ v.ps) = b) := ⟨_, ⟨rfl⟩⟩
  refine wp_seq_k fun K7 hK7 => ?_
  refine wp_seq_k fun K8 hK8 => rgn ?_
  refine VlS (.int .i64 (j : Int)) ?_
  refine VlS (.slice (some ⟨g, 0, none⟩) l.length cap) ?_
  refine VlS (.int .i64 (l.length : Int)) ?_
  refine VlS (.bool true) ?_
  refine WL.nil (hK8 _ _ ?_)
  refine wp_cond_true rfl ?_
  refine wp_skip ?_
  refine hK7 _ _ ?_
  refine wp_seq_k fun K9 hK9 => ?_
  refine wp_block ?_
  refine wp_seq_k fun K10 hK10 => rgn ?_
  refine VlS (.slice (some ⟨g, 0, none⟩) l.length cap) ?_
  refine VlS (.int .i64 (j : Int)) ?_
  refine VlS (.pointer (some ⟨g, j * 32, none⟩)) ?_
  refine WL.mid (by kernel_rfl) 36 (.tmp 24) rfl g (j * 32) rfl (encH hh) _ Hel.out Try.underlying36 rfl (Try.size36L hh) ?_
  rw [enc_load]
  simp only [Act.put, pqA, pqB, pqC]
  refine WL.new (by kernel_rfl) 36 rfl _ Try.new36 ?_
  simp only [Act.put, pqA, pqB, pqC]
  refine WL.storeR (by kernel_rfl) 36 (.tmp 7) (.tmp 25) rfl wr.heap.size (bytesA 32 hh.f) rfl rfl 36 (bytesA 32 fun _ => 0) (Blk.new wr 36 _) (Try.size36B _) (bytesA_sizes _ _ _) (bytesA_one _ _) ?_
  have HY := Keep.mk ((Blk.new wr 36 (bytesA 32 fun _ => 0)).setRow (bytesA 32 hh.f))
  have BY : Keep (Below wr.heap.size wr ((wr.alloc (.cells (bytesA 32 fun _ => 0) 36)).setRow wr.heap.size (bytesA 32 hh.f))) := ⟨below_setRow (below_new wr _) (Nat.le_refl _) _⟩
  generalize (wr.alloc (.cells (bytesA 32 fun _ => 0) 36)).setRow wr.heap.size (bytesA 32 hh.f) = wy at *
  have HV2 := Keep.mk (HVr.out.below BY.out HVr.out.lt)
  have HP2 := Keep.mk (HPr.out.below BY.out)
  have JO2 := Keep.mk (JO.out.below BY.out)
  have JG2 : Keep (Grown w wy fun k => k = g) := ⟨JG.out.trans (Grown.below BY.out)⟩
  have Nbb : Keep (g ≠ wr.heap.size) := ⟨fun e => by obtain ⟨cur, hb, _⟩ := ownH_blk JO.out; have := hb.lt; omega⟩
  generalize hbb : wr.heap.size = bb at *
  clear Hel
  simp only [Act.put]
  refine WL.nil (hK10 _ _ ?_)
  refine wp_seq_k fun K11 hK11 => rgn ?_
  refine VlS (.func (.func 83) #[] #[.pointer (some ⟨b, 0, none⟩)]) ?_
  refine WL.row (by kernel_rfl) 36 (.tmp 7) rfl bb rfl 36 (bytesA 32 hh.f) _ HY.out Try.underlying36 rfl (Try.size36B _) ?_
  simp only [Act.put, pqA, pqB, pqC]
  have hcl := clo_any b v hh _ wy HV2.out HP2.out HI.out HPl.out
  rw [Hnb.out] at hcl
  refine WL.callC (by kernel_rfl) 83 (.tmp 26) _ _ (ptr b) rfl rfl Try.in83 #[.agg (bytesA 32 hh.f), ptr b] (by simp [Act.eval]) ?_
  refine hcl.mono ?_
  clear hcl
  rintro e w2 ⟨rfl, hz⟩
  refine ⟨_, rfl, ?_⟩
  have HY3 := Keep.mk (HY.out.below hz HY.out.lt)
  have JO3 := Keep.mk (JO2.out.below hz)
  have JG3 : Keep (Grown w w2 fun k => k = g) := ⟨JG2.out.trans (Grown.below hz)⟩
  clear hz HY JO2 JG2
  simp only [Act.put, pqA, pqB, pqC]
  by_cases h8_3 : nb = true
  ·skip
   refine VlS (.bool false) ?_
   refine WL.nil (hK11 _ _ ?_)
   refine wp_cond_false rfl ?_
   refine wp_skip ?_
   refine hK9 _ _ ?_
   refine rgn ?_
   refine VlS (.int .i64 (j : Int)) ?_
   refine VlS (.int .i64 ((j + 1 : Nat) : Int)) ?_
   refine VlS (.int .i64 ((j + 1 : Nat) : Int)) ?_
   refine WL.nil ?_
   have hf : (l.take (j + 1)).filter (outB v.ps) = (l.take j).filter (outB v.ps) ++ (if hh ∈ v.ps then [] else [hh]) := by rw [List.take_succ_eq_append_getElem hjl, List.filter_append, Jhh.out]; congr 1; by_cases h : hh ∈ v.ps <;> simp [outB, h]
   have hne : hh ∈ v.ps := of_decide_eq_true (by rw [Hnb.out]; exact h8_3)
   refine ⟨⟨0, .pointer (some ⟨bb, 0, none⟩), .int .i64 (j : Int), .slice (some ⟨g, 0, none⟩) l.length cap, .int .i64 (l.length : Int), .bool true, .int .i64 (j : Int), .int .i64 ((j + 1 : Nat) : Int), .slice (some ⟨g, 0, none⟩) l.length cap, .int .i64 (j : Int), .pointer (some ⟨g, j * 32, none⟩), .agg (bytesA 32 hh.f), .func (.func 83) #[] #[.pointer (some ⟨b, 0, none⟩)], .agg (bytesA 32 hh.f), .bool nb, .bool false, u30, u31, u32, u33, u34, u35, i, j + 1, E, rfl, by omega, by omega, JE.out, ?_, ?_, JO3.out, JG3.out⟩, ?_⟩
   ·rw [JT.out, hf, if_pos hne, List.append_nil]
   ·rw [← List.drop_drop, JD.out, List.drop_drop]
   ·simp only [intOf]; show l.length - (((j + 1 : Nat) : Int)).toNat < l.length - ((j : Int)).toNat; omega
  ·skip
   refine VlS (.bool true) ?_
   refine WL.nil (hK11 _ _ ?_)
   refine wp_cond_true rfl ?_
   refine wp_seq_k fun K12 hK12 => rgn ?_
   refine VlS (.slice (some ⟨g, 0, none⟩) l.length cap) ?_
   refine VlS (.int .i64 (i : Int)) ?_
   refine WL.row (by kernel_rfl) 36 (.tmp 7) rfl bb rfl 36 (bytesA 32 hh.f) _ HY3.out Try.underlying36 rfl (Try.size36B _) ?_
   simp only [Act.put, pqA, pqB, pqC]
   refine VlS (.pointer (some ⟨g, i * 32, none⟩)) ?_
   obtain ⟨cur, hcb, hcn, hcc, hcm, hcs, hct⟩ := ownH_blk JO3.out
   refine WL.part (by kernel_rfl) 36 (.tmp 33) (.tmp 32) rfl g (i * 32) (bytesA 32 hh.f) rfl rfl 36 cur hcb (Try.size36B _) (by rw [bytesA_size, hcs]; have := JE.out; omega) (bytesA_one _ _) _ rfl ?_
   have JO4 := Keep.mk (own_set (h := hh) JO3.out hcb (i := i) (by have := JE.out; omega))
   have JG4 : Keep (Grown w (w2.setRow g (cur.toList.take (i * 32) ++ (bytesA 32 hh.f).toList ++ cur.toList.drop (i * 32 + (bytesA 32 hh.f).size)).toArray) fun k => k = g) := ⟨JG3.out.trans (Grown.setRow w2 g _ fun _ => rfl)⟩
   clear hcb hcn hcc hcm hcs hct
   generalize w2.setRow g (cur.toList.take (i * 32) ++ (bytesA 32 hh.f).toList ++ cur.toList.drop (i * 32 + (bytesA 32 hh.f).size)).toArray = w4 at *
   simp only [Act.put]
   refine WL.nil (hK12 _ _ ?_)
   refine rgn ?_
   refine VlS (.int .i64 (i : Int)) ?_
   refine VlS (.int .i64 ((i + 1 : Nat) : Int)) ?_
   refine VlS (.int .i64 ((i + 1 : Nat) : Int)) ?_
   refine WL.nil (hK9 _ _ ?_)
   refine rgn ?_
   refine VlS (.int .i64 (j : Int)) ?_
   refine VlS (.int .i64 ((j + 1 : Nat) : Int)) ?_
   refine VlS (.int .i64 ((j + 1 : Nat) : Int)) ?_
   refine WL.nil ?_
   have hf : (l.take (j + 1)).filter (outB v.ps) = (l.take j).filter (outB v.ps) ++ (if hh ∈ v.ps then [] else [hh]) := by rw [List.take_succ_eq_append_getElem hjl, List.filter_append, Jhh.out]; congr 1; by_cases h : hh ∈ v.ps <;> simp [outB, h]
   have hne : ¬ hh ∈ v.ps := of_decide_eq_false (by rw [Hnb.out]; exact Bool.eq_false_iff.2 h8_3)
   refine ⟨⟨0, .pointer (some ⟨bb, 0, none⟩), .int .i64 (j : Int), .slice (some ⟨g, 0, none⟩) l.length cap, .int .i64 (l.length : Int), .bool true, .int .i64 (j : Int), .int .i64 ((j + 1 : Nat) : Int), .slice (some ⟨g, 0, none⟩) l.length cap, .int .i64 (j : Int), .pointer (some ⟨g, j * 32, none⟩), .agg (bytesA 32 hh.f), .func (.func 83) #[] #[.pointer (some ⟨b, 0, none⟩)], .agg (bytesA 32 hh.f), .bool nb, .bool true, .slice (some ⟨g, 0, none⟩) l.length cap, .int .i64 (i : Int), .agg (bytesA 32 hh.f), .pointer (some ⟨g, i * 32, none⟩), .int .i64 (i : Int), .int .i64 ((i + 1 : Nat) : Int), i + 1, j + 1, E.set i hh, rfl, by omega, by omega, by rw [List.length_set]; exact JE.out, ?_, ?_, JO4.out, JG4.out⟩, ?_⟩
   ·rw [take_set_at (by have := JE.out; omega), JT.out, hf, if_neg hne]
   ·rw [List.drop_set_of_lt (by omega), ← List.drop_drop, JD.out, List.drop_drop]
   ·simp only [intOf]; show l.length - (((j + 1 : Nat) : Int)).toNat < l.length - ((j : Int)).toNat; omega
 ·have hje : Keep (j = l.length) := ⟨by omega⟩
  have hjl' : ¬ (j : Int) < (l.length : Int) := by omega
  obtain ⟨cur, hcb, hcn, hcc, hcm, hcs, hct⟩ := ownH_blk JO.out
  have Hcb := Keep.mk hcb
  have Hc : Keep (l.length ≤ cap ∧ cap ≤ maxLen ∧ cur.size = cap * 32 ∧ cur.toList.take (E.length * 32) = flatH E) := ⟨⟨by rw [JE.out] at hcc; exact hcc, hcm, hcs, hct⟩⟩
  clear hcb hcn hcc hcm hcs hct
  refine wp_seq_k fun K13 hK13 => ?_
  refine wp_seq_k fun K14 hK14 => rgn ?_
  refine VlS (.int .i64 (j : Int)) ?_
  refine VlS (.slice (some ⟨g, 0, none⟩) l.length cap) ?_
  refine VlS (.int .i64 (l.length : Int)) ?_
  refine VlS (.bool false) ?_
  refine WL.nil (hK14 _ _ ?_)
  refine wp_cond_false rfl ?_
  refine wp_exit ?_
  refine hK5 _ _ ?_
  refine wp_seq_k fun K15 hK15 => rgn ?_
  refine VlS (.slice (some ⟨g, 0, none⟩) l.length cap) ?_
  refine VlS (.int .i64 (i : Int)) ?_
  refine WL.slr (by kernel_rfl) 37 (.tmp 36) (some (.tmp 37)) none rfl _ (some (.int .i64 (i : Int))) none (.slice (some ⟨g, i * 32, none⟩) (l.length - i) (cap - i)) rfl rfl rfl ((slH_l _ _ _ i (by have := hje.out; omega) _).trans (by have := hje.out; have := Hc.out.1; unfold sliced; rw [if_neg (by omega), Option.map_some, Addr.add_mid, Nat.zero_add])) ?_
  simp only [Act.put, pqA, pqB, pqC]
  refine WL.clrN (by kernel_rfl) (.tmp 38) rfl g i (l.length - i) _ cur rfl Hcb.out (by have := hje.out; omega) (by have := Hc.out; have := hje.out; omega) fun cur' k1 k2 => ?_
  have HF : Keep (OwnH (wr.setRow g cur') (.slice (some ⟨g, 0, none⟩) i cap) (l.filter (outB v.ps))) := ⟨by
   have h1 : l.filter (outB v.ps) = E.take i := by rw [JT.out, hje.out, List.take_length]
   have h2 : (E.take i).length = i := by rw [List.length_take, JE.out]; have := hje.out; omega
   rw [h1]
   refine ownH_mk (Hcb.out.setRow cur') h2.symm (by rw [h2]; have := Hc.out.1; have := hje.out; omega) Hc.out.2.1 (by rw [k1]; exact Hc.out.2.2.1) ?_
   rw [h2, k2, ← flatH_take, ← Hc.out.2.2.2, List.take_take, Nat.min_eq_left (by rw [JE.out]; have := hje.out; omega)]⟩
  have HG : Keep (Grown w (wr.setRow g cur') fun k => k = g) := ⟨JG.out.trans (Grown.setRow wr g cur' fun _ => rfl)⟩
  clear k1 k2
  simp only [Act.put]
  refine WL.nil (hK15 _ _ ?_)
  refine wp_seq_k fun K16 hK16 => rgn ?_
  refine VlS (.slice (some ⟨g, 0, none⟩) l.length cap) ?_
  refine VlS (.int .i64 (i : Int)) ?_
  refine WL.slr (by kernel_rfl) 37 (.tmp 39) none (some (.tmp 40)) rfl _ none (some (.int .i64 (i : Int))) (.slice (some ⟨g, 0, none⟩) i cap) rfl rfl rfl (slH_h _ _ _ i (by have := hje.out; have := Hc.out.1; omega) _) ?_
  simp only [Act.put, pqA, pqB, pqC]
  refine VlS (.slice (some ⟨g, 0, none⟩) i cap) ?_
  refine WL.nil (hK16 _ _ ?_)
  refine wp_ret ?_
  go_ret
  exact ⟨_, rfl, HF.out, HG.out.mono fun k _ e => by rw [e]; rfl, .inl rfl⟩
set_option maxRecDepth 8000 in
theorem df_none (b : Nat) (v : VX) (s p : Value) (l : List Hs) (w : World) (hO : OwnH w s l) (hV : Blk w b 39 (vtx v.id.f v.ck p)) (hP : HRow w p v.ps) (hI : Inc v.ps) (hPl : v.ps.length ≤ 4398046511104) (hL : l.length ≤ 4398046511104) (hi : pxF v.ps l 0 = -1) : Calls Try.prog 82 #[s, .func (.func 83) #[] #[.pointer (some ⟨b, 0, none⟩)]] w fun e w' => ∃ v', e = .returned v' ∧ NewLx w w' s v' l := by
 obtain ⟨pa, pc, rfl⟩ := hO.sl
 have HO := Keep.mk hO
 have HV := Keep.mk hV
 have HP := Keep.mk hP
 have HI := Keep.mk hI
 have HPl := Keep.mk hPl
 have HL := Keep.mk hL
 have Hi0 := Keep.mk hi
 clear hO hV hP hI hPl hL hi
 go_enter Try.func82, Try.ntmps82
 refine wp_seq_k fun K1 hK1 => rgn ?_
 refine VlS (.slice none 0 0) ?_
 refine WL.nil (hK1 _ _ ?_)
 refine wp_seq_k fun K2 hK2 => rgn ?_
 refine VlS (.slice pa l.length pc) ?_
 refine VlS (.func (.func 83) #[] #[.pointer (some ⟨b, 0, none⟩)]) ?_
 have hix := idxf_any b v p _ l w HO.out.row HV.out HP.out HI.out HPl.out HL.out
 rw [Hi0.out] at hix
 refine WL.callF (by kernel_rfl) 93 _ _ rfl Try.in93 #[.slice pa l.length pc, .func (.func 83) #[] #[.pointer (some ⟨b, 0, none⟩)]] (by simp [Act.eval]) ?_
 refine (hix).mono ?_
 rintro e w1 ⟨rfl, hz⟩
 refine ⟨_, rfl, ?_⟩
 clear hix
 have B1 := Keep.mk hz
 clear hz
 simp only [Act.put, pqA, pqB, pqC]
 refine VlS (.int .i64 (-1)) ?_
 refine WL.nil (hK2 _ _ ?_)
 refine wp_seq_k fun K3 hK3 => ?_
 refine wp_seq_k fun K4 hK4 => rgn ?_
 refine VlS (.int .i64 (-1)) ?_
 refine VlS (.bool true) ?_
 refine WL.nil (hK4 _ _ ?_)
 refine wp_cond_true rfl ?_
 refine wp_seq_k fun K5 hK5 => rgn ?_
 refine VlS (.slice pa l.length pc) ?_
 refine VlS (.slice pa l.length pc) ?_
 refine WL.nil (hK5 _ _ ?_)
 refine wp_ret ?_
 go_ret
 exact ⟨_, rfl, HO.out.below B1.out, Grown.below B1.out, .inl rfl⟩
theorem pxF_cases (ps : List Hs) : ∀ (l : List Hs) (t : Nat), (pxF ps l t = -1 ∧ l.filter (outB ps) = l) ∨ ∃ i0 : Nat, pxF ps l t = (i0 : Int)
 | [], t => .inl ⟨rfl, rfl⟩
 | y :: r, t => by
  rw [pxF]
  by_cases hy : y ∈ ps
  ·exact .inr ⟨t, by rw [if_pos hy]⟩
  ·rw [if_neg hy]
   rcases pxF_cases ps r (t + 1) with ⟨h1, h2⟩ | h
   ·exact .inl ⟨h1, by rw [List.filter_cons, if_pos (by simp [outB, hy]), h2]⟩
   ·exact .inr h
theorem delOk_any (l : List Hs) (x : VX) (hI : Inc x.ps) (hPl : x.ps.length ≤ 4398046511104) (hL : l.length ≤ 4398046511104) : DelOk l x (l.filter (outB x.ps)) := fun v p b w hO hV hP hA => by
 rcases pxF_cases x.ps l 0 with ⟨h1, h2⟩ | ⟨i0, h1⟩
 ·rw [h2]; exact df_none b x v p l w hO hV hP hI hPl hL h1
 ·rcases hO.form with ⟨rfl, rfl⟩ | ⟨g, cap, cur, rfl, _⟩
  ·simp [pxF] at h1
  ·exact df_some b g cap i0 x p l w hO hV hP (hA g rfl) hI hPl hL h1
end Go.Proofs.Ytogmdfhicbmplaa
namespace Go.Proofs.Ytogmdfhicbmplaa
set_option linter.unusedSimpArgs false
set_option linter.unusedVariables false

/-! ### The one order, by definition. -/
structure OneO (par : Hs → List Hs) (l : List Hs) : Prop where
 nd : l.Nodup
 top : ∀ (i k : Nat) (x y : Hs), l[i]? = some x → l[k]? = some y → y ∈ par x → k < i
 all : ∀ x ∈ l, ∀ p ∈ par x, p ∈ l
 min : ∀ (i k : Nat) (x y : Hs), i < k → l[i]? = some x → l[k]? = some y → Lt y x → ∃ (j : Nat) (z : Hs), i ≤ j ∧ l[j]? = some z ∧ z ∈ par y
theorem nodup_at {l : List Hs} (h : l.Nodup) {i j : Nat} {x : Hs} (hi : l[i]? = some x) (hj : l[j]? = some x) : i = j := by
 obtain ⟨h1, e1⟩ := List.getElem?_eq_some_iff.1 hi
 obtain ⟨h2, e2⟩ := List.getElem?_eq_some_iff.1 hj
 exact (List.getElem_inj (h₀ := h1) (h₁ := h2) h).1 (e1.trans e2.symm)
theorem mem_at {l : List Hs} {x : Hs} (h : x ∈ l) : ∃ i : Nat, l[i]? = some x := List.mem_iff_getElem?.1 h
theorem at_mem {l : List Hs} {i : Nat} {x : Hs} (h : l[i]? = some x) : x ∈ l := List.mem_iff_getElem?.2 ⟨i, h⟩
/-- A list with one more at place a. -/
def insL (l : List Hs) (a : Nat) (v : Hs) : List Hs := l.take a ++ v :: l.drop a
def shI (a j : Nat) : Nat := if j < a then j else j + 1
theorem insL_at {l : List Hs} {a : Nat} {v : Hs} (ha : a ≤ l.length) : (insL l a v)[a]? = some v := by
 unfold insL
 rw [List.getElem?_append_right (by simp; omega)]
 simp [Nat.min_eq_left ha]
theorem insL_sh {l : List Hs} {a : Nat} {v : Hs} (ha : a ≤ l.length) (j : Nat) : (insL l a v)[shI a j]? = l[j]? := by
 unfold insL shI
 by_cases h : j < a
 ·rw [if_pos h, List.getElem?_append_left (by simp; omega), List.getElem?_take, if_pos h]
 ·rw [if_neg h, List.getElem?_append_right (by simp; omega)]
  have : (l.take a).length = a := by simp; omega
  rw [this, show j + 1 - a = (j - a) + 1 by omega, List.getElem?_cons_succ, List.getElem?_drop, show a + (j - a) = j by omega]
theorem shI_cases (a i : Nat) : i = a ∨ ∃ j, i = shI a j := by
 unfold shI
 rcases Nat.lt_trichotomy i a with h | h | h
 ·exact .inr ⟨i, by rw [if_pos h]⟩
 ·exact .inl h
 ·exact .inr ⟨i - 1, by rw [if_neg (by omega)]; omega⟩
theorem insL_mem {l : List Hs} {a : Nat} {v x : Hs} : x ∈ insL l a v ↔ x = v ∨ x ∈ l := by
 unfold insL
 rw [List.mem_append, List.mem_cons]
 have := List.mem_append (a := x) (s := l.take a) (t := l.drop a)
 rw [List.take_append_drop] at this
 rw [this]
 constructor
 ·rintro (h | h | h)
  ·exact .inr (.inl h)
  ·exact .inl h
  ·exact .inr (.inr h)
 ·rintro (h | h | h)
  ·exact .inr (.inl h)
  ·exact .inl h
  ·exact .inr (.inr h)
theorem insL_length {l : List Hs} {a : Nat} {v : Hs} : (insL l a v).length = l.length + 1 := by
 unfold insL
 have := congrArg List.length (List.take_append_drop a l)
 simp only [List.length_append, List.length_cons] at this ⊢
 omega
theorem insL_nodup {l : List Hs} {a : Nat} {v : Hs} (h : l.Nodup) (hv : v ∉ l) : (insL l a v).Nodup := by
 have hp : (insL l a v).Perm (v :: l) := by
  unfold insL
  refine List.perm_middle.trans ?_
  rw [List.take_append_drop]
 exact hp.nodup_iff.2 (List.nodup_cons.2 ⟨hv, h⟩)
theorem OneO.ins {par par' : Hs → List Hs} {l : List Hs} {a : Nat} {v : Hs} (h : OneO par l) (hp : ∀ x ∈ l, par' x = par x) (ha : a ≤ l.length) (hv : v ∉ l) (hn : ∀ x ∈ l, v ∉ par x) (hc : ∀ p ∈ par' v, p ∈ l)
  (h1 : ∀ (k : Nat) (z : Hs), l[k]? = some z → z ∈ par' v → k < a) (h2 : ∀ z, l[a]? = some z → Lt v z) (h3 : ∀ (i : Nat) (z : Hs), i < a → l[i]? = some z → Lt v z → ∃ (j : Nat) (y : Hs), i ≤ j ∧ l[j]? = some y ∧ y ∈ par' v) : OneO par' (insL l a v) := by
 refine ⟨insL_nodup h.nd hv, ?_, ?_, ?_⟩
 ·intro i k x y hi hk hy
  rcases shI_cases a i with rfl | ⟨i0, rfl⟩
  ·rw [insL_at ha] at hi
   cases hi
   rcases shI_cases i k with rfl | ⟨k0, rfl⟩
   ·rw [insL_at ha] at hk; cases hk; exact absurd (hc v hy) hv
   ·rw [insL_sh ha] at hk
    have := h1 k0 y hk hy
    unfold shI; rw [if_pos this]; exact this
  ·rw [insL_sh ha] at hi
   rw [hp x (at_mem hi)] at hy
   rcases shI_cases a k with rfl | ⟨k0, rfl⟩
   ·rw [insL_at ha] at hk; cases hk; exact absurd hy (hn x (at_mem hi))
   ·rw [insL_sh ha] at hk
    have := h.top i0 k0 x y hi hk hy
    unfold shI; split <;> split <;> omega
 ·intro x hx p hpx
  rw [insL_mem] at hx ⊢
  rcases hx with rfl | hx
  ·exact .inr (hc p hpx)
  ·rw [hp x hx] at hpx
   exact .inr (h.all x hx p hpx)
 ·intro i k x y hik hi hk hlt
  rcases shI_cases a k with rfl | ⟨k0, rfl⟩
  ·rw [insL_at ha] at hk
   cases hk
   rcases shI_cases k i with rfl | ⟨i0, rfl⟩
   ·omega
   ·rw [insL_sh ha] at hi
    have hi0 : i0 < k := by unfold shI at hik; split at hik <;> omega
    obtain ⟨j, z, hj, hz, hzp⟩ := h3 i0 x hi0 hi hlt
    exact ⟨shI k j, z, by unfold shI; split <;> split <;> omega, by rw [insL_sh ha]; exact hz, hzp⟩
  ·rw [insL_sh ha] at hk
   rcases shI_cases a i with rfl | ⟨i0, rfl⟩
   ·rw [insL_at ha] at hi
    cases hi
    have hk0 : i ≤ k0 := by unfold shI at hik; split at hik <;> omega
    have hkl := (List.getElem?_eq_some_iff.1 hk).1
    have hal : i < l.length := by omega
    have hz0 := List.getElem?_eq_getElem hal
    have hlz := h2 _ hz0
    rcases Nat.lt_or_eq_of_le hk0 with hlt2 | rfl
    ·obtain ⟨j, z, hj, hz, hzp⟩ := h.min i k0 _ y hlt2 hz0 hk (hlt.trans hlz)
     exact ⟨shI i j, z, by unfold shI; split <;> omega, by rw [insL_sh ha]; exact hz, by rw [hp y (at_mem hk)]; exact hzp⟩
    ·rw [hz0] at hk; cases hk
     exact absurd hlt hlz.asymm
   ·rw [insL_sh ha] at hi
    have hik0 : i0 < k0 := by unfold shI at hik; split at hik <;> split at hik <;> omega
    obtain ⟨j, z, hj, hz, hzp⟩ := h.min i0 k0 x y hik0 hi hk hlt
    exact ⟨shI a j, z, by unfold shI; split <;> split <;> omega, by rw [insL_sh ha]; exact hz, by rw [hp y (at_mem hk)]; exact hzp⟩
end Go.Proofs.Ytogmdfhicbmplaa
namespace Go.Proofs.Ytogmdfhicbmplaa
open Go.RowKit
set_option linter.unusedSimpArgs false
set_option linter.unusedVariables false

theorem run_copyR (w : World) (ty : TypeId) (g k n cap b off m c : Nat) (D : List Hs) (cur : Array Value) (hg : Blk w g 36 cur) (hfit : k * 32 + D.length * 32 ≤ cur.size) (hn : D.length = Nat.min m n) (hr : w.rangeAt b off (flatH D)) :
  (Builtin.copy_ #[37, 37] ty #[.slice (some ⟨g, k * 32, none⟩) n cap, .slice (some ⟨b, off, none⟩) m c]).run Try.prog w = .ok (goInt D.length) (w.setRow g (cur.toList.take (k * 32) ++ flatH D ++ cur.toList.drop (k * 32 + D.length * 32)).toArray) := by
 have hst := run_storeCells_at Try.prog g (k * 32) 36 (flatH D) 0 cur w hg (by rw [flatH_len]; omega) (flatH_one D)
 simp only [Nat.add_zero, flatH_len] at hst
 obtain ⟨i, hi, hsz⟩ := Option.map_eq_some_iff.1 Try.size36
 have hl := run_loadCells_list (P := Try.prog) w ⟨b, off, none⟩ (flatH D) (fun j v hv => by rw [Addr.add_mid]; exact hr j v hv)
 rw [flatH_len] at hl
 simp only [Builtin.copy_, List.getElem?_toArray, List.getElem?_cons_zero, List.getElem?_cons_succ, run_underlying Try.underlying37, Builtin.lenOf, Builtin.firstCells, sizeOf, typeInfo, hi, hsz, ← hn, hl, hst, Sem.run_bind, Sem.run_pure, Result.andThen_ok]
 simp [hi, hsz, hl, hst]
theorem WL.copyR {ops : Array Oper} {rest : List Oper} {o : Oper} {a : Act} {w : World} {Q : Exit → Act → World → Prop} (hw : Region.wanted o (yielded ops a.tmps) = true) (x y : Operand)
  (ho : o.op = .call { callee := .builtin .copy, args := #[x, y], argTypes := #[37, 37] }) (g k n cap b off m c : Nat) (D : List Hs) (cur : Array Value) (hx : a.eval x = .slice (some ⟨g, k * 32, none⟩) n cap) (hy : a.eval y = .slice (some ⟨b, off, none⟩) m c)
  (hg : Blk w g 36 cur) (hfit : k * 32 + D.length * 32 ≤ cur.size) (hn : D.length = Nat.min m n) (hr : w.rangeAt b off (flatH D)) (new : Array Value) (hnew : (cur.toList.take (k * 32) ++ flatH D ++ cur.toList.drop (k * 32 + D.length * 32)).toArray = new)
  (h : WL Try.prog ops Q rest (a.put o.dst (goInt D.length)) (w.setRow g new)) : WL Try.prog ops Q (o :: rest) a w := by
 subst hnew
 exact ⟨wpList_wanted hw fun K hK => by
  unfold Oper.wp execOp
  simp only [ho, resolve, invoke, builtin, Sem.run_bind, Sem.run_pure, Result.andThen_ok, List.map_toArray, List.map_cons, List.map_nil, hx, hy, run_copyR w o.type g k n cap b off m c D cur hg hfit hn hr]
  exact hK _ _ h.out⟩
theorem wp_copyR {o : Oper} {a : Act} {w : World} {K : Act → World → Prop} {Q : Exit → Act → World → Prop} (x y : Operand)
  (ho : o.op = .call { callee := .builtin .copy, args := #[x, y], argTypes := #[37, 37] }) (g k n cap b off m c : Nat) (D : List Hs) (cur : Array Value) (hx : a.eval x = .slice (some ⟨g, k * 32, none⟩) n cap) (hy : a.eval y = .slice (some ⟨b, off, none⟩) m c)
  (hg : Blk w g 36 cur) (hfit : k * 32 + D.length * 32 ≤ cur.size) (hn : D.length = Nat.min m n) (hr : w.rangeAt b off (flatH D)) (new : Array Value) (hnew : (cur.toList.take (k * 32) ++ flatH D ++ cur.toList.drop (k * 32 + D.length * 32)).toArray = new)
  (h : K (a.put o.dst (goInt D.length)) (w.setRow g new)) : o.wp Try.prog a w K Q := by
 subst hnew
 unfold Oper.wp execOp
 simp only [ho, resolve, invoke, builtin, Sem.run_bind, Sem.run_pure, Result.andThen_ok, List.map_toArray, List.map_cons, List.map_nil, hx, hy, run_copyR w o.type g k n cap b off m c D cur hg hfit hn hr]
 exact h
theorem two_a {α : Type} (X A B D : List α) (a b d : Nat) (hA : X.take a = A) (ha : A.length = a) (hb : B.length = b) (hd : D.length = d) (hX : a + b + d ≤ X.length) :
  (((X.take a ++ B ++ X.drop (a + b)).take (a + b) ++ D ++ (X.take a ++ B ++ X.drop (a + b)).drop (a + b + d))).take (a + b + d) = A ++ B ++ D ∧ (((X.take a ++ B ++ X.drop (a + b)).take (a + b) ++ D ++ (X.take a ++ B ++ X.drop (a + b)).drop (a + b + d))).length = X.length := by
 rw [hA]
 have hAB : (A ++ B).length = a + b := by rw [List.length_append, ha, hb]
 have h1 : (A ++ B ++ X.drop (a + b)).take (a + b) = A ++ B := by rw [List.take_append_of_le_length (by omega), List.take_of_length_le (by omega)]
 rw [h1]
 refine ⟨?_, ?_⟩
 ·rw [List.take_append_of_le_length (by rw [List.length_append]; omega), List.take_of_length_le (by rw [List.length_append]; omega)]
 ·simp only [List.length_append, List.length_drop]; omega
theorem two_b {α : Type} (X A B D : List α) (a b d : Nat) (hA : X.take a = A) (ha : A.length = a) (hb : B.length = b) (hd : D.length = d) (hX : a + b + d ≤ X.length) :
  (((X.take (a + b) ++ D ++ X.drop (a + b + d)).take a ++ B ++ (X.take (a + b) ++ D ++ X.drop (a + b + d)).drop (a + b))).take (a + b + d) = A ++ B ++ D ∧ (((X.take (a + b) ++ D ++ X.drop (a + b + d)).take a ++ B ++ (X.take (a + b) ++ D ++ X.drop (a + b + d)).drop (a + b))).length = X.length := by
 have ht : (X.take (a + b)).length = a + b := by rw [List.length_take]; omega
 have h1 : (X.take (a + b) ++ D ++ X.drop (a + b + d)).take a = A := by
  rw [List.append_assoc, List.take_append_of_le_length (by omega), List.take_take, Nat.min_eq_left (by omega), hA]
 have h2 : (X.take (a + b) ++ D ++ X.drop (a + b + d)).drop (a + b) = D ++ X.drop (a + b + d) := by
  rw [List.append_assoc, List.drop_append_of_le_length (by omega), List.drop_of_length_le (by omega), List.nil_append]
 rw [h1, h2]
 refine ⟨?_, ?_⟩
 ·rw [← List.append_assoc, List.take_append_of_le_length (by simp only [List.length_append]; omega), List.take_of_length_le (by simp only [List.length_append]; omega)]
 ·simp only [List.length_append, List.length_drop]; omega
theorem flat_ins (l : List Hs) (i : Nat) (y : Hs) : flatH (insL l i y) = flatH (l.take i) ++ flatH [y] ++ flatH (l.drop i) := by
 unfold insL
 rw [flatH_app, flatH_cons, List.append_assoc]; simp [flatH]
theorem grow_zeros (w : World) (ty : TypeId) (g cap i : Nat) (l : List Hs) (hO : OwnH w (.slice (some ⟨g, 0, none⟩) l.length cap) l) (hi : i < l.length) (hc : cap < l.length + 1) (hL : l.length ≤ 1000000000000) : ∃ (cap2 : Nat) (w1 : World) (C : Array Value),
  (Builtin.append_ #[37, 3] ty #[.slice (some ⟨g, 0, none⟩) i cap, .int .i64 ((l.length + 1 - i : Nat) : Int)]).run Try.prog w = .ok (.slice (some ⟨w.heap.size, 0, none⟩) (l.length + 1) cap2) w1 ∧ Blk w1 w.heap.size 36 C ∧ C.size = cap2 * 32 ∧ l.length + 1 ≤ cap2 ∧ cap2 ≤ maxLen ∧ C.toList.take (i * 32) = flatH (l.take i) ∧ Below w.heap.size w w1 := by
 obtain ⟨ti, hti, hzz⟩ := Option.map_eq_some_iff.1 Try.info36
 simp only [Prod.mk.injEq] at hzz
 have hzs : (Value.agg (bytesA 32 fun _ => 0)).cells.size = 32 := by show (bytesA 32 fun _ => 0).size = 32; exact bytesA_size _ _
 have hfl : (flatH (l.take i)).length = i * 32 := by rw [flatH_len, List.length_take, Nat.min_eq_left (by omega)]
 have hold : (Builtin.firstCells ti.size i (.slice (some ⟨g, 0, none⟩) i cap)).run Try.prog w.drew = .ok (flatH (l.take i)).toArray w.drew := by
  rw [hzz.2.1]
  exact run_firstCells_some w.drew 32 i ⟨g, 0, none⟩ i cap (flatH (l.take i)) hfl (fun j v hj => by
   rw [Addr.add_mid]
   exact rangeAt_take (ownH_rng hO) i j v hj)
 have hr := Lib.run_append_grow_zeros (P := Try.prog) w 37 3 ty 36 ti (.agg (bytesA 32 fun _ => 0)) .i64 .i64 Try.underlying37 (by kernel_rfl) hti hzz.1 (some ⟨g, 0, none⟩) i cap (flatH (l.take i)) hold (l.length + 1 - i) (by omega) (by rw [hzz.2.1]; omega) (by omega) (by omega) (by rw [hzz.2.2]; omega)
  (growslice_fits (by omega) (by rw [hzz.2.2]; omega))
 rw [show i + (l.length + 1 - i) = l.length + 1 by omega] at hr
 have h1 := grownCap_ge w (l.length + 1) cap 36
 have h2 := grownCap_le_maxLen w (l.length + 1) cap 36 (by unfold maxLen; omega)
 refine ⟨_, _, _, hr, Blk.new _ _ _, ?_, h1, h2, ?_, ((Below.refl _ _).drew).trans (below_new w.drew _)⟩
 ·rw [Array.size_append, Array.size_append, List.size_toArray, hfl, size_zeroCells, size_zeroCells, hzs]
  generalize grownCap w (l.length + 1) cap 36 = q at *
  omega
 ·simp only [Array.toList_append, List.append_assoc]
  rw [List.take_append_of_le_length (by omega), List.take_of_length_le (by omega)]
theorem over_no (w : World) (g gx off lb cb : Nat) (y : Hs) (cur : Array Value) (hG : Blk w gx 36 (bytesA 32 y.f)) (hg : Blk w g 36 cur) (hz : cur.size ≠ 0) (hne : gx ≠ g) :
  (callFunc 91 #[.slice (some ⟨gx, 0, none⟩) 1 1, .slice (some ⟨g, off, none⟩) lb cb]).run Try.prog w = .ok (.value (.bool false)) w := by
 rw [run_callFunc_extern Try.func91 (by kernel_rfl) (by kernel_rfl) (by kernel_rfl) (e := Extern.SlicesOverlaps.overlaps #[37, 37] #[4]) (by kernel_rfl),
  Lib.run_overlaps_apart w 37 4 36 Try.underlying37 32 (fun w => Try.sizeOf36 w) ⟨gx, 0, none⟩ ⟨g, off, none⟩ 1 1 lb cb hne 36 36 (bytesA 32 y.f).size cur.size
   (by unfold World.shape?; rw [show w.heap[gx]? = _ from hG]) (by unfold World.shape?; rw [show w.heap[g]? = _ from hg]) hz (by unfold World.frozen?; rw [show w.heap[gx]? = _ from hG]; rfl) (by unfold World.frozen?; rw [show w.heap[gx]? = _ from hG]; simp)]
 rfl
set_option maxRecDepth 8000 in
set_option maxHeartbeats 1000000 in
theorem ins_grow (g cap i gx : Nat) (l : List Hs) (y : Hs) (w : World) (hO : OwnH w (.slice (some ⟨g, 0, none⟩) l.length cap) l) (hG : Blk w gx 36 (bytesA 32 y.f)) (hne : g ≠ gx) (hi : i < l.length) (hL : l.length ≤ 1000000000000) (hc : l.length ≤ cap ∧ cap < l.length + 1) : Calls Try.prog 80 #[.slice (some ⟨g, 0, none⟩) l.length cap, .int .i64 (i : Int), .slice (some ⟨gx, 0, none⟩) 1 1] w fun e w' => ∃ v', e = .returned v' ∧ NewL w w' (.slice (some ⟨g, 0, none⟩) l.length cap) v' (insL l i y) := by
 have HO := Keep.mk hO
 have HG := Keep.mk hG
 have Hne := Keep.mk hne
 have Hi := Keep.mk hi
 have HL := Keep.mk hL
 have Hc := Keep.mk hc
 have hni : ¬ (i : Int) = (l.length : Int) := by omega
 have hni2 : ¬ i = l.length := by omega
 have hw1 : IntKind.i64.wrap ((l.length : Int) + 1) = ((l.length + 1 : Nat) : Int) := by rw [IntKind.wrap_i64]; omega
 have hwi : IntKind.i64.wrap ((i : Int) + 1) = ((i + 1 : Nat) : Int) := by rw [IntKind.wrap_i64]; omega
 have hgt : (cap : Int) < (l.length : Int) + 1 := by omega
 have hw2 : IntKind.i64.wrap ((l.length : Int) + 1 - (i : Int)) = ((l.length + 1 - i : Nat) : Int) := by rw [IntKind.wrap_i64]; omega
 clear hO hG hne hi hL hc
 go_enter Try.func80, Try.ntmps80
 refine wp_seq_k fun K1 hK1 => rgn ?_
 refine VlS (.slice none 0 0) ?_
 refine WL.nil (hK1 _ _ ?_)
 refine wp_seq_k fun K2 hK2 => rgn ?_
 refine VlS (.slice (some ⟨g, 0, none⟩) l.length cap) ?_
 refine VlS (.int .i64 (i : Int)) ?_
 refine WL.slr (by kernel_rfl) 37 (.tmp 10) (some (.tmp 11)) (none) rfl _ (some (.int .i64 (i : Int))) (none) (sliced (some ⟨g, 0, none⟩) i l.length cap 32) rfl rfl rfl (slH_l _ _ _ i (by have := Hi.out; omega) w) ?_
 simp only [Act.put, pqA, pqB, pqC]
 refine WL.nil (hK2 _ _ ?_)
 refine wp_seq_k fun K3 hK3 => rgn ?_
 refine VlS (.slice (some ⟨gx, 0, none⟩) 1 1) ?_
 refine VlS (.int .i64 1) ?_
 refine VlS (.int .i64 1) ?_
 refine WL.nil (hK3 _ _ ?_)
 refine wp_seq_k fun K4 hK4 => ?_
 refine wp_seq_k fun K5 hK5 => rgn ?_
 refine VlS (.int .i64 1) ?_
 refine VlS (.bool false) ?_
 refine WL.nil (hK5 _ _ ?_)
 refine wp_cond_false rfl ?_
 refine wp_skip ?_
 refine hK4 _ _ ?_
 refine wp_seq_k fun K6 hK6 => rgn ?_
 refine VlS (.slice (some ⟨g, 0, none⟩) l.length cap) ?_
 refine VlS (.int .i64 (l.length : Int)) ?_
 refine VlS (.int .i64 (l.length : Int)) ?_
 refine WL.nil (hK6 _ _ ?_)
 refine wp_seq_k fun K7 hK7 => ?_
 refine wp_seq_k fun K8 hK8 => rgn ?_
 refine VlS (.int .i64 (i : Int)) ?_
 refine VlS (.int .i64 (l.length : Int)) ?_
 refine VlS (.bool false) ?_
 refine WL.nil (hK8 _ _ ?_)
 refine wp_cond_false rfl ?_
 refine wp_skip ?_
 refine hK7 _ _ ?_
 refine wp_seq_k fun K9 hK9 => ?_
 refine wp_seq_k fun K10 hK10 => rgn ?_
 refine VlS (.int .i64 (l.length : Int)) ?_
 refine VlS (.int .i64 1) ?_
 refine VlS (.int .i64 ((l.length + 1 : Nat) : Int)) ?_
 refine VlS (.slice (some ⟨g, 0, none⟩) l.length cap) ?_
 refine VlS (.int .i64 (cap : Int)) ?_
 refine VlS (.bool true) ?_
 refine WL.nil (hK10 _ _ ?_)
 refine wp_cond_true rfl ?_
 refine wp_seq_k fun K11 hK11 => rgn ?_
 refine VlS (.slice (some ⟨g, 0, none⟩) l.length cap) ?_
 refine VlS (.int .i64 (i : Int)) ?_
 refine WL.slr (by kernel_rfl) 37 (.tmp 32) (none) (some (.tmp 33)) rfl _ (none) (some (.int .i64 (i : Int))) (.slice (some ⟨g, 0, none⟩) i cap) rfl rfl rfl (slH_h _ _ _ i (by have := Hi.out; have := Hc.out.1; omega) w) ?_
 simp only [Act.put, pqA, pqB, pqC]
 refine VlS (.int .i64 (l.length : Int)) ?_
 refine VlS (.int .i64 1) ?_
 refine VlS (.int .i64 ((l.length + 1 : Nat) : Int)) ?_
 refine VlS (.int .i64 (i : Int)) ?_
 refine VlS (.int .i64 ((l.length + 1 - i : Nat) : Int)) ?_
 obtain ⟨cap2, w1, C, hr1, hC, hCs, hcl, hcm, hCt, hB1⟩ := grow_zeros w 37 g cap i l HO.out Hi.out (by have := Hc.out.2; omega) HL.out
 refine WL.call (by kernel_rfl) fun K hK => ?_
 refine Lib.wp_append_run w (.tmp 34) (.tmp 39) 37 3 rfl _ _ rfl rfl _ w1 hr1 ?_
 refine hK _ _ ?_
 clear hK hr1
 have HC := Keep.mk hC
 have HCs := Keep.mk hCs
 have Hcl := Keep.mk hcl
 have Hcm := Keep.mk hcm
 have HCt := Keep.mk hCt
 have HB1 := Keep.mk hB1
 have HG1 := Keep.mk (HG.out.below hB1 HG.out.lt)
 have HR1 : Keep (w1.rangeAt g 0 (flatH l)) := ⟨rangeAt_below (ownH_rng HO.out) hB1 (by obtain ⟨c, hb, _⟩ := ownH_blk HO.out; exact hb.lt)⟩
 have Hgz : Keep (g ≠ w.heap.size ∧ gx ≠ w.heap.size) := ⟨by obtain ⟨c, hb, _⟩ := ownH_blk HO.out; have := hb.lt; have := HG.out.lt; omega⟩
 clear hC hCs hcl hcm hCt hB1
 generalize hgz : w.heap.size = gz at *
 simp only [Act.put, pqA, pqB, pqC]
 refine VlS (.slice (some ⟨gz, 0, none⟩) (l.length + 1) cap2) ?_
 refine WL.nil (hK11 _ _ ?_)
 refine wp_seq_k fun K12 hK12 => rgn ?_
 refine VlS (.slice (some ⟨gz, 0, none⟩) (l.length + 1) cap2) ?_
 refine VlS (.int .i64 (i : Int)) ?_
 refine WL.slr (by kernel_rfl) 37 (.tmp 41) (some (.tmp 42)) (none) rfl _ (some (.int .i64 (i : Int))) (none) (.slice (some ⟨gz, i * 32, none⟩) (l.length + 1 - i) (cap2 - i)) rfl rfl rfl ((slH_l _ _ _ i (by have := Hi.out; omega) _).trans (by have := Hi.out; have := Hcl.out; unfold sliced; rw [if_neg (by omega), Option.map_some, Addr.add_mid, Nat.zero_add])) ?_
 simp only [Act.put, pqA, pqB, pqC]
 refine VlS (.slice (some ⟨gx, 0, none⟩) 1 1) ?_
 refine WL.copyR (by kernel_rfl) (.tmp 43) (.tmp 44) rfl gz i _ _ gx 0 _ _ [y] C rfl rfl HC.out (by rw [HCs.out]; have := Hi.out; have := Hcl.out; simp only [List.length_singleton]; omega) (by have := Hi.out; simp only [List.length_singleton]; exact (Nat.min_eq_left (by omega)).symm) (by have := blk_rng HG1.out; rw [show flatH [y] = (bytesA 32 y.f).toList from by simp [flatH, encH]]; exact this) _ rfl ?_
 have HC1 := Keep.mk (HC.out.setRow (C.toList.take (i * 32) ++ flatH [y] ++ C.toList.drop (i * 32 + [y].length * 32)).toArray)
 have HB2 := Keep.mk (below_setRow (B := gz) HB1.out (Nat.le_refl _) (C.toList.take (i * 32) ++ flatH [y] ++ C.toList.drop (i * 32 + [y].length * 32)).toArray)
 have HR2 : Keep ((w1.setRow gz (C.toList.take (i * 32) ++ flatH [y] ++ C.toList.drop (i * 32 + [y].length * 32)).toArray).rangeAt g 0 (flatH l)) := ⟨rangeAt_grown HR1.out (Grown.setRow w1 gz _ (S := fun k => k = gz) fun _ => rfl) Hgz.out.1⟩
 have HD1 : Keep ((C.toList.take (i * 32) ++ flatH [y] ++ C.toList.drop (i * 32 + [y].length * 32)).toArray.toList = C.toList.take (i * 32) ++ flatH [y] ++ C.toList.drop (i * 32 + 32)) := ⟨by simp⟩
 generalize (C.toList.take (i * 32) ++ flatH [y] ++ C.toList.drop (i * 32 + [y].length * 32)).toArray = C1 at *
 generalize w1.setRow gz C1 = w2 at *
 clear HR1 HG1 HB1
 simp only [Act.put, pqA, pqB, pqC]
 refine WL.nil (hK12 _ _ ?_)
 refine wp_seq_k fun K13 hK13 => ?_
 refine wp_region_held_drew (S := fun _ => True) (by kernel_rfl) (trivial) (fun hHeld => ?_)
 refine tkS (i := 0) (oi := ⟨some 46, Op.move (Operand.tmp 9), 37, _, _, none⟩) (v := .slice (some ⟨gz, 0, none⟩) (l.length + 1) cap2) rfl (Or.inl ⟨by rfl, fun w hS => by go_simp⟩) hHeld ?_
 refine tkS (i := 1) (oi := ⟨some 47, Op.move (Operand.tmp 1), 3, _, _, none⟩) (v := .int .i64 (i : Int)) rfl (Or.inl ⟨by rfl, fun w hS => by go_simp⟩) hHeld ?_
 refine tkS (i := 2) (oi := ⟨some 48, Op.move (Operand.tmp 7), 3, _, _, none⟩) (v := .int .i64 1) rfl (Or.inl ⟨by rfl, fun w hS => by go_simp⟩) hHeld ?_
 refine tkS (i := 3) (oi := ⟨some 49, Op.binOp BinOp.add 3 (Operand.tmp 47) (Operand.tmp 48) 3, 3, _, _, none⟩) (v := .int .i64 ((i + 1 : Nat) : Int)) rfl (Or.inl ⟨by rfl, fun w hS => by go_simp⟩) hHeld ?_
 refine tkS (i := 4) (oi := ⟨some 50, Op.slice 37 (Operand.tmp 46) (some (Operand.tmp 49)) none none, 37, _, _, none⟩) (v := .slice (some ⟨gz, (i + 1) * 32, none⟩) (l.length + 1 - (i + 1)) (cap2 - (i + 1))) rfl (yieldsIf_slr (by rfl) 37 (Operand.tmp 46) (some (Operand.tmp 49)) none rfl _ (some (.int .i64 ((i + 1 : Nat) : Int))) none _ rfl rfl rfl fun w => (slH_l _ _ _ (i + 1) (by have := Hi.out; omega) w).trans (by have := Hi.out; have := Hcl.out; unfold sliced; rw [if_neg (by omega), Option.map_some, Addr.add_mid, Nat.zero_add])) hHeld ?_
 refine tkS (i := 5) (oi := ⟨some 51, Op.move (Operand.tmp 0), 37, _, _, none⟩) (v := .slice (some ⟨g, 0, none⟩) l.length cap) rfl (Or.inl ⟨by rfl, fun w hS => by go_simp⟩) hHeld ?_
 refine tkS (i := 6) (oi := ⟨some 52, Op.move (Operand.tmp 1), 3, _, _, none⟩) (v := .int .i64 (i : Int)) rfl (Or.inl ⟨by rfl, fun w hS => by go_simp⟩) hHeld ?_
 refine tkS (i := 7) (oi := ⟨some 53, Op.slice 37 (Operand.tmp 51) (some (Operand.tmp 52)) none none, 37, _, _, none⟩) (v := .slice (some ⟨g, i * 32, none⟩) (l.length - i) (cap - i)) rfl (yieldsIf_slr (by rfl) 37 (Operand.tmp 51) (some (Operand.tmp 52)) none rfl _ (some (.int .i64 (i : Int))) none _ rfl rfl rfl fun w => (slH_l _ _ _ i (by have := Hi.out; omega) w).trans (by have := Hi.out; have := Hc.out.1; unfold sliced; rw [if_neg (by omega), Option.map_some, Addr.add_mid, Nat.zero_add])) hHeld ?_
 refine wpAnyH_ready (rs := [8]) (by kernel_rfl) (by simp) ?_
 refine AllReadyH.cons (o := ⟨some 54, Op.call { callee := Callee.builtin Builtin.copy, args := #[Operand.tmp 50, Operand.tmp 53], argTypes := #[37, 37] }, 3, _, _, none⟩) rfl (fun K hK => ?_) AllReadyH.nil
 rw [if_pos (by rfl)]
 refine wp_copyR (w := w2.drew) (Operand.tmp 50) (Operand.tmp 53) rfl gz (i + 1) _ _ g (i * 32) _ _ (l.drop i) C1 rfl rfl HC1.out (by have h := congrArg List.length HD1.out; simp only [List.length_append, List.length_take, List.length_drop, Array.length_toList, flatH_len, List.length_singleton] at h; rw [List.length_drop]; have := HCs.out; have := Hi.out; have := Hcl.out; omega) (by rw [List.length_drop]; have := Hi.out; exact (Nat.min_eq_left (by omega)).symm) (by have h := rangeAt_drop HR2.out i (by have := Hi.out; omega); rw [Nat.zero_add] at h; exact h) _ rfl ?_
 have HC2 := Keep.mk ((show Blk w2.drew gz 36 C1 from HC1.out).setRow (C1.toList.take ((i + 1) * 32) ++ flatH (l.drop i) ++ C1.toList.drop ((i + 1) * 32 + (l.drop i).length * 32)).toArray)
 have HB3 := Keep.mk (below_setRow (B := gz) HB2.out.drew (Nat.le_refl _) (C1.toList.take ((i + 1) * 32) ++ flatH (l.drop i) ++ C1.toList.drop ((i + 1) * 32 + (l.drop i).length * 32)).toArray)
 have HT := two_a C.toList (flatH (l.take i)) (flatH [y]) (flatH (l.drop i)) (i * 32) 32 ((l.length - i) * 32) HCt.out (by rw [flatH_len, List.length_take, Nat.min_eq_left (by have := Hi.out; omega)]) (by rw [flatH_len]; rfl) (by rw [flatH_len, List.length_drop]) (by rw [show C.toList.length = C.size from Array.length_toList, HCs.out]; have := Hi.out; have := Hcl.out; omega)
 rw [← flat_ins, ← HD1.out, show i * 32 + 32 = (i + 1) * 32 by omega] at HT
 have hkT := Keep.mk HT
 have hE : Keep ((C1.toList.take ((i + 1) * 32) ++ flatH (l.drop i) ++ C1.toList.drop ((i + 1) * 32 + (l.drop i).length * 32)).toArray.toList = C1.toList.take ((i + 1) * 32) ++ flatH (l.drop i) ++ C1.toList.drop ((i + 1) * 32 + (l.length - i) * 32)) := ⟨by simp⟩
 generalize (C1.toList.take ((i + 1) * 32) ++ flatH (l.drop i) ++ C1.toList.drop ((i + 1) * 32 + (l.drop i).length * 32)).toArray = C2 at *
 refine hK _ _ trivial fun hH1 => ?_
 clear hK HT
 generalize w2.drew.setRow gz C2 = w3 at *
 simp only [Act.put, pqA, pqB, pqC]
 refine wpAnyH_done (by kernel_rfl) ?_ _
 refine hK13 _ _ ?_
 refine wp_seq_k fun K14 hK14 => rgn ?_
 refine VlS (.slice (some ⟨gz, 0, none⟩) (l.length + 1) cap2) ?_
 refine VlS (.slice (some ⟨gz, 0, none⟩) (l.length + 1) cap2) ?_
 refine WL.nil (hK14 _ _ ?_)
 refine wp_ret ?_
 go_ret
 refine ⟨_, rfl, ?_, ?_, .inr ⟨gz, rfl, Nat.le_of_eq hgz⟩⟩
 ·refine ownH_mk HC2.out (by rw [insL_length]) (by rw [insL_length]; exact Hcl.out) Hcm.out ?_ ?_
  ·rw [← Array.length_toList, hE.out, hkT.out.2, Array.length_toList, HCs.out]
  ·rw [hE.out, insL_length, show (l.length + 1) * 32 = (i + 1) * 32 + (l.length - i) * 32 by have := Hi.out; omega]
   exact hkT.out.1
 ·exact Grown.below (by rw [hgz]; exact HB3.out)
set_option maxRecDepth 8000 in
set_option maxHeartbeats 1000000 in
theorem ins_room (g cap i gx : Nat) (l : List Hs) (y : Hs) (w : World) (hO : OwnH w (.slice (some ⟨g, 0, none⟩) l.length cap) l) (hG : Blk w gx 36 (bytesA 32 y.f)) (hne : g ≠ gx) (hi : i < l.length) (hL : l.length ≤ 1000000000000) (hc : l.length + 1 ≤ cap ∧ cap ≤ maxLen) : Calls Try.prog 80 #[.slice (some ⟨g, 0, none⟩) l.length cap, .int .i64 (i : Int), .slice (some ⟨gx, 0, none⟩) 1 1] w fun e w' => ∃ v', e = .returned v' ∧ NewL w w' (.slice (some ⟨g, 0, none⟩) l.length cap) v' (insL l i y) := by
 obtain ⟨cur, hcb, -, -, hcm, hcs, hct⟩ := ownH_blk hO
 have Hcb := Keep.mk hcb
 have Hcm := Keep.mk hcm
 have Hcs := Keep.mk hcs
 have Hct := Keep.mk hct
 have HO := Keep.mk hO
 have HG := Keep.mk hG
 have Hne := Keep.mk hne
 have Hi := Keep.mk hi
 have HL := Keep.mk hL
 have Hc := Keep.mk hc
 have hni : ¬ (i : Int) = (l.length : Int) := by omega
 have hni2 : ¬ i = l.length := by omega
 have hw1 : IntKind.i64.wrap ((l.length : Int) + 1) = ((l.length + 1 : Nat) : Int) := by rw [IntKind.wrap_i64]; omega
 have hwi : IntKind.i64.wrap ((i : Int) + 1) = ((i + 1 : Nat) : Int) := by rw [IntKind.wrap_i64]; omega
 have hgt : ¬ (cap : Int) < (l.length : Int) + 1 := by omega
 clear hO hG hne hi hL hc hcb hcm hcs hct
 go_enter Try.func80, Try.ntmps80
 refine wp_seq_k fun K1 hK1 => rgn ?_
 refine VlS (.slice none 0 0) ?_
 refine WL.nil (hK1 _ _ ?_)
 refine wp_seq_k fun K2 hK2 => rgn ?_
 refine VlS (.slice (some ⟨g, 0, none⟩) l.length cap) ?_
 refine VlS (.int .i64 (i : Int)) ?_
 refine WL.slr (by kernel_rfl) 37 (.tmp 10) (some (.tmp 11)) (none) rfl _ (some (.int .i64 (i : Int))) (none) (sliced (some ⟨g, 0, none⟩) i l.length cap 32) rfl rfl rfl (slH_l _ _ _ i (by have := Hi.out; omega) w) ?_
 simp only [Act.put, pqA, pqB, pqC]
 refine WL.nil (hK2 _ _ ?_)
 refine wp_seq_k fun K3 hK3 => rgn ?_
 refine VlS (.slice (some ⟨gx, 0, none⟩) 1 1) ?_
 refine VlS (.int .i64 1) ?_
 refine VlS (.int .i64 1) ?_
 refine WL.nil (hK3 _ _ ?_)
 refine wp_seq_k fun K4 hK4 => ?_
 refine wp_seq_k fun K5 hK5 => rgn ?_
 refine VlS (.int .i64 1) ?_
 refine VlS (.bool false) ?_
 refine WL.nil (hK5 _ _ ?_)
 refine wp_cond_false rfl ?_
 refine wp_skip ?_
 refine hK4 _ _ ?_
 refine wp_seq_k fun K6 hK6 => rgn ?_
 refine VlS (.slice (some ⟨g, 0, none⟩) l.length cap) ?_
 refine VlS (.int .i64 (l.length : Int)) ?_
 refine VlS (.int .i64 (l.length : Int)) ?_
 refine WL.nil (hK6 _ _ ?_)
 refine wp_seq_k fun K7 hK7 => ?_
 refine wp_seq_k fun K8 hK8 => rgn ?_
 refine VlS (.int .i64 (i : Int)) ?_
 refine VlS (.int .i64 (l.length : Int)) ?_
 refine VlS (.bool false) ?_
 refine WL.nil (hK8 _ _ ?_)
 refine wp_cond_false rfl ?_
 refine wp_skip ?_
 refine hK7 _ _ ?_
 refine wp_seq_k fun K9 hK9 => ?_
 refine wp_seq_k fun K10 hK10 => rgn ?_
 refine VlS (.int .i64 (l.length : Int)) ?_
 refine VlS (.int .i64 1) ?_
 refine VlS (.int .i64 ((l.length + 1 : Nat) : Int)) ?_
 refine VlS (.slice (some ⟨g, 0, none⟩) l.length cap) ?_
 refine VlS (.int .i64 (cap : Int)) ?_
 refine VlS (.bool false) ?_
 refine WL.nil (hK10 _ _ ?_)
 refine wp_cond_false rfl ?_
 refine wp_skip ?_
 refine hK9 _ _ ?_
 refine wp_seq_k fun K11 hK11 => rgn ?_
 refine VlS (.slice (some ⟨g, 0, none⟩) l.length cap) ?_
 refine VlS (.int .i64 (l.length : Int)) ?_
 refine VlS (.int .i64 1) ?_
 refine VlS (.int .i64 ((l.length + 1 : Nat) : Int)) ?_
 refine WL.slr (by kernel_rfl) 37 (.tmp 56) (none) (some (.tmp 59)) rfl _ (none) (some (.int .i64 ((l.length + 1 : Nat) : Int))) (.slice (some ⟨g, 0, none⟩) (l.length + 1) cap) rfl rfl rfl (slH_h _ _ _ (l.length + 1) (by have := Hc.out.1; omega) w) ?_
 simp only [Act.put, pqA, pqB, pqC]
 refine VlS (.slice (some ⟨g, 0, none⟩) (l.length + 1) cap) ?_
 refine WL.nil (hK11 _ _ ?_)
 refine wp_seq_k fun K12 hK12 => ?_
 refine wp_seq_k fun K13 hK13 => rgn ?_
 refine VlS (.slice (some ⟨gx, 0, none⟩) 1 1) ?_
 refine VlS (.slice (some ⟨g, 0, none⟩) (l.length + 1) cap) ?_
 refine VlS (.int .i64 (i : Int)) ?_
 refine VlS (.int .i64 1) ?_
 refine VlS (.int .i64 ((i + 1 : Nat) : Int)) ?_
 refine WL.slr (by kernel_rfl) 37 (.tmp 62) (some (.tmp 65)) (none) rfl _ (some (.int .i64 ((i + 1 : Nat) : Int))) (none) (.slice (some ⟨g, (i + 1) * 32, none⟩) (l.length + 1 - (i + 1)) (cap - (i + 1))) rfl rfl rfl ((slH_l _ _ _ (i + 1) (by have := Hi.out; omega) _).trans (by have := Hi.out; have := Hc.out.1; unfold sliced; rw [if_neg (by omega), Option.map_some, Addr.add_mid, Nat.zero_add])) ?_
 simp only [Act.put, pqA, pqB, pqC]
 have hov := fun lb => over_no w g gx ((i + 1) * 32) lb (cap - (i + 1)) y cur HG.out Hcb.out (by rw [Hcs.out]; have := Hi.out; have := Hc.out.1; omega) (fun e => Hne.out e.symm)
 refine WL.val (by kernel_rfl) (.bool false) (by unfold execOp; simp [resolve, Act.eval, go_sem]; exact hov _) ?_
 clear hov
 simp only [Act.put, pqA, pqB, pqC]
 refine VlS (.bool true) ?_
 refine WL.nil (hK13 _ _ ?_)
 refine wp_cond_true rfl ?_
 refine wp_seq_k fun K14 hK14 => ?_
 refine wp_region_held_drew (S := fun _ => True) (by kernel_rfl) (trivial) (fun hHeld => ?_)
 refine tkS (i := 0) (oi := ⟨some 69, Op.move (Operand.tmp 0), 37, _, _, none⟩) (v := .slice (some ⟨g, 0, none⟩) (l.length + 1) cap) rfl (Or.inl ⟨by rfl, fun w hS => by go_simp⟩) hHeld ?_
 refine tkS (i := 1) (oi := ⟨some 70, Op.move (Operand.tmp 1), 3, _, _, none⟩) (v := .int .i64 (i : Int)) rfl (Or.inl ⟨by rfl, fun w hS => by go_simp⟩) hHeld ?_
 refine tkS (i := 2) (oi := ⟨some 71, Op.move (Operand.tmp 7), 3, _, _, none⟩) (v := .int .i64 1) rfl (Or.inl ⟨by rfl, fun w hS => by go_simp⟩) hHeld ?_
 refine tkS (i := 3) (oi := ⟨some 72, Op.binOp BinOp.add 3 (Operand.tmp 70) (Operand.tmp 71) 3, 3, _, _, none⟩) (v := .int .i64 ((i + 1 : Nat) : Int)) rfl (Or.inl ⟨by rfl, fun w hS => by go_simp⟩) hHeld ?_
 refine tkS (i := 4) (oi := ⟨some 73, Op.slice 37 (Operand.tmp 69) (some (Operand.tmp 72)) none none, 37, _, _, none⟩) (v := .slice (some ⟨g, (i + 1) * 32, none⟩) (l.length + 1 - (i + 1)) (cap - (i + 1))) rfl (yieldsIf_slr (by rfl) 37 (Operand.tmp 69) (some (Operand.tmp 72)) none rfl _ (some (.int .i64 ((i + 1 : Nat) : Int))) none _ rfl rfl rfl fun w => (slH_l _ _ _ (i + 1) (by have := Hi.out; omega) w).trans (by have := Hi.out; have := Hc.out.1; unfold sliced; rw [if_neg (by omega), Option.map_some, Addr.add_mid, Nat.zero_add])) hHeld ?_
 refine tkS (i := 5) (oi := ⟨some 74, Op.move (Operand.tmp 0), 37, _, _, none⟩) (v := .slice (some ⟨g, 0, none⟩) (l.length + 1) cap) rfl (Or.inl ⟨by rfl, fun w hS => by go_simp⟩) hHeld ?_
 refine tkS (i := 6) (oi := ⟨some 75, Op.move (Operand.tmp 1), 3, _, _, none⟩) (v := .int .i64 (i : Int)) rfl (Or.inl ⟨by rfl, fun w hS => by go_simp⟩) hHeld ?_
 refine tkS (i := 7) (oi := ⟨some 76, Op.slice 37 (Operand.tmp 74) (some (Operand.tmp 75)) none none, 37, _, _, none⟩) (v := .slice (some ⟨g, i * 32, none⟩) (l.length + 1 - i) (cap - i)) rfl (yieldsIf_slr (by rfl) 37 (Operand.tmp 74) (some (Operand.tmp 75)) none rfl _ (some (.int .i64 (i : Int))) none _ rfl rfl rfl fun w => (slH_l _ _ _ i (by have := Hi.out; omega) w).trans (by have := Hi.out; have := Hc.out.1; unfold sliced; rw [if_neg (by omega), Option.map_some, Addr.add_mid, Nat.zero_add])) hHeld ?_
 refine wpAnyH_ready (rs := [8]) (by kernel_rfl) (by simp) ?_
 refine AllReadyH.cons (o := ⟨some 77, Op.call { callee := Callee.builtin Builtin.copy, args := #[Operand.tmp 73, Operand.tmp 76], argTypes := #[37, 37] }, 3, _, _, none⟩) rfl (fun K hK => ?_) AllReadyH.nil
 rw [if_pos (by rfl)]
 refine wp_copyR (w := w.drew) (Operand.tmp 73) (Operand.tmp 76) rfl g (i + 1) _ _ g (i * 32) _ _ (l.drop i) cur rfl rfl Hcb.out (by rw [List.length_drop, Hcs.out]; have := Hi.out; have := Hc.out.1; omega) (by rw [List.length_drop]; have := Hi.out; rw [show l.length - i = l.length + 1 - (i + 1) by omega]; exact (Nat.min_eq_right (by omega)).symm) (by have h := rangeAt_drop (ownH_rng HO.out) i (by have := Hi.out; omega); rw [Nat.zero_add] at h; exact h) _ rfl ?_
 have HC1 := Keep.mk ((show Blk w.drew g 36 cur from Hcb.out).setRow (cur.toList.take ((i + 1) * 32) ++ flatH (l.drop i) ++ cur.toList.drop ((i + 1) * 32 + (l.drop i).length * 32)).toArray)
 have HGr : Keep (Grown w (w.drew.setRow g (cur.toList.take ((i + 1) * 32) ++ flatH (l.drop i) ++ cur.toList.drop ((i + 1) * 32 + (l.drop i).length * 32)).toArray) fun k => k = g) := ⟨((Grown.refl w _).drew).trans (Grown.setRow w.drew g _ fun _ => rfl)⟩
 have HG2 := Keep.mk (HGr.out.blk HG.out fun e => Hne.out e.symm)
 have HD1 : Keep ((cur.toList.take ((i + 1) * 32) ++ flatH (l.drop i) ++ cur.toList.drop ((i + 1) * 32 + (l.drop i).length * 32)).toArray.toList = cur.toList.take ((i + 1) * 32) ++ flatH (l.drop i) ++ cur.toList.drop ((i + 1) * 32 + (l.length - i) * 32)) := ⟨by simp⟩
 generalize (cur.toList.take ((i + 1) * 32) ++ flatH (l.drop i) ++ cur.toList.drop ((i + 1) * 32 + (l.drop i).length * 32)).toArray = C1 at *
 refine hK _ _ trivial fun hH1 => ?_
 clear hK
 generalize w.drew.setRow g C1 = w2 at *
 simp only [Act.put, pqA, pqB, pqC]
 refine wpAnyH_done (by kernel_rfl) ?_ _
 refine hK14 _ _ ?_
 refine wp_seq_k fun K15 hK15 => rgn ?_
 refine VlS (.slice (some ⟨g, 0, none⟩) (l.length + 1) cap) ?_
 refine VlS (.int .i64 (i : Int)) ?_
 refine WL.slr (by kernel_rfl) 37 (.tmp 78) (some (.tmp 79)) (none) rfl _ (some (.int .i64 (i : Int))) (none) (.slice (some ⟨g, i * 32, none⟩) (l.length + 1 - i) (cap - i)) rfl rfl rfl ((slH_l _ _ _ i (by have := Hi.out; omega) _).trans (by have := Hi.out; have := Hc.out.1; unfold sliced; rw [if_neg (by omega), Option.map_some, Addr.add_mid, Nat.zero_add])) ?_
 simp only [Act.put, pqA, pqB, pqC]
 refine VlS (.slice (some ⟨gx, 0, none⟩) 1 1) ?_
 have hs1 : C1.size = cur.size := by have h := congrArg List.length HD1.out; simp only [List.length_append, List.length_take, List.length_drop, Array.length_toList, flatH_len] at h; have := Hi.out; have := Hc.out.1; have := Hcs.out; omega
 refine WL.copyR (by kernel_rfl) (.tmp 80) (.tmp 81) rfl g i _ _ gx 0 _ _ [y] C1 rfl rfl HC1.out (by rw [hs1, Hcs.out]; have := Hi.out; have := Hc.out.1; simp only [List.length_singleton]; omega) (by have := Hi.out; simp only [List.length_singleton]; exact (Nat.min_eq_left (by omega)).symm) (by have := blk_rng HG2.out; rw [show flatH [y] = (bytesA 32 y.f).toList from by simp [flatH, encH]]; exact this) _ rfl ?_
 have HC2 := Keep.mk (HC1.out.setRow (C1.toList.take (i * 32) ++ flatH [y] ++ C1.toList.drop (i * 32 + [y].length * 32)).toArray)
 have HGr2 : Keep (Grown w (w2.setRow g (C1.toList.take (i * 32) ++ flatH [y] ++ C1.toList.drop (i * 32 + [y].length * 32)).toArray) fun k => k = g) := ⟨HGr.out.trans (Grown.setRow w2 g _ fun _ => rfl)⟩
 have HT := two_b cur.toList (flatH (l.take i)) (flatH [y]) (flatH (l.drop i)) (i * 32) 32 ((l.length - i) * 32) (by rw [← flatH_take, ← Hct.out, List.take_take, Nat.min_eq_left (by have := Hi.out; omega)]) (by rw [flatH_len, List.length_take, Nat.min_eq_left (by have := Hi.out; omega)]) (by rw [flatH_len]; rfl) (by rw [flatH_len, List.length_drop]) (by rw [show cur.toList.length = cur.size from Array.length_toList, Hcs.out]; have := Hi.out; have := Hc.out.1; omega)
 rw [show i * 32 + 32 = (i + 1) * 32 by omega, ← flat_ins, ← HD1.out] at HT
 have hkT := Keep.mk HT
 have hE : Keep ((C1.toList.take (i * 32) ++ flatH [y] ++ C1.toList.drop (i * 32 + [y].length * 32)).toArray.toList = C1.toList.take (i * 32) ++ flatH [y] ++ C1.toList.drop ((i + 1) * 32)) := ⟨by simp [show i * 32 + 32 = (i + 1) * 32 by omega]⟩
 clear HT hs1
 generalize (C1.toList.take (i * 32) ++ flatH [y] ++ C1.toList.drop (i * 32 + [y].length * 32)).toArray = C2 at *
 generalize w2.setRow g C2 = w3 at *
 simp only [Act.put, pqA, pqB, pqC]
 refine WL.nil (hK15 _ _ ?_)
 refine wp_seq_k fun K16 hK16 => rgn ?_
 refine VlS (.slice (some ⟨g, 0, none⟩) (l.length + 1) cap) ?_
 refine VlS (.slice (some ⟨g, 0, none⟩) (l.length + 1) cap) ?_
 refine WL.nil (hK16 _ _ ?_)
 refine wp_ret ?_
 go_ret
 refine ⟨_, rfl, ?_, HGr2.out.mono (fun k _ e => by rw [e]; rfl), .inl rfl⟩
 refine ownH_mk HC2.out (by rw [insL_length]) (by rw [insL_length]; exact Hc.out.1) Hcm.out ?_ ?_
 ·rw [← Array.length_toList, hE.out, hkT.out.2, Array.length_toList, Hcs.out]
 ·rw [hE.out, insL_length, show (l.length + 1) * 32 = (i + 1) * 32 + (l.length - i) * 32 by have := Hi.out; omega]
  exact hkT.out.1

theorem insOk_end' (l : List Hs) (y : Hs) (hL : l.length ≤ 1000000000000) : InsOk l l.length y (l ++ [y]) := fun v gx w h1 h2 _ => ins_end v l gx y w h1 h2 hL
theorem insOk_any (l : List Hs) (i : Nat) (y : Hs) (hi : i ≤ l.length) (hL : l.length ≤ 1000000000000) : InsOk l i y (insL l i y) := fun v gx w hO hG hne => by
 rcases Nat.lt_or_eq_of_le hi with hlt | rfl
 ·rcases hO.form with ⟨rfl, rfl⟩ | ⟨g, cap, cur, rfl, hb, hc, _⟩
  ·simp at hlt
  ·obtain ⟨cur, _, _, _, hcm, _, _⟩ := ownH_blk hO
   by_cases hr : l.length + 1 ≤ cap
   ·exact ins_room g cap i gx l y w hO hG (fun e => hne (by rw [e]; rfl)) hlt hL ⟨hr, hcm⟩
   ·exact ins_grow g cap i gx l y w hO hG (fun e => hne (by rw [e]; rfl)) hlt hL ⟨hc, by omega⟩
 ·have := insOk_end' l y hL v gx w hO hG hne
  unfold insL
  rw [List.take_length, List.drop_length]
  exact this
end Go.Proofs.Ytogmdfhicbmplaa
