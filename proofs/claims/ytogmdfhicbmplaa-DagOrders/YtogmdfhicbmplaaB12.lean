import Derived.Test.YtogmdfhicbmplaaB05
import Derived.Test.YtogmdfhicbmplaaB10
import Derived.Test.YtogmdfhicbmplaaB11
import Derived.Test.YtogmdfhicbmplaaB08
import Derived.ProofKit
import Derived.OpenShut
import Derived.ChangeOld
import Derived.Below
import Derived.SizedLaws
import Derived.Deep.Slices
namespace Go.Proofs.Ytogmdfhicbmplaa
open Go.RowKit
set_option linter.unusedSimpArgs false
set_option linter.unusedVariables false

theorem Try.in35 (w : World) (vs : Array Value) : (callFunc 35 vs).run Try.prog w = .ok (.enter 35 vs) w := by kernel_rfl
set_option maxRecDepth 8000 in
set_option maxHeartbeats 1000000 in
theorem next_first (d : Nat) (v : VX) (r : List Hs) (Av : Nat → Prop) (g : DG) (w : World) (hD : DagAt w Av d g) (hQ : g.queue = v.id :: r) (hF : g.wait.find? (isV v.id) = some v) (hA : v.ps.all (hasB g.held) = true) (hL : v.ps.length ≤ 4398046511104) : Calls Try.prog 35 #[ptr d] w fun e w' => ∃ a n c, e = .returned (.tuple #[.agg (vtx v.id.f v.ck (.slice a n c)), .bool true]) ∧ Below w.heap.size w w' := by
  have HD := Keep.mk hD
  have HQ := Keep.mk hQ
  have HF := Keep.mk hF
  have HA := Keep.mk hA
  have HL := Keep.mk hL
  clear hD hQ hF hA hL
  go_enter Try.func35, Try.ntmps35
  refine wp_seq_k fun K1 hK1 => ?_
  refine wp_region_list (WL.out ?_)
  refine WL.new (by kernel_rfl) 39 rfl _ Try.new39 ?_
  obtain ⟨vz, hvz⟩ : ∃ a : Array Value, Keep (a = vtx (fun _ => 0) 0 (.slice none 0 0)) := ⟨_, ⟨rfl⟩⟩
  rw [← hvz.out]
  have HZ1 := Keep.mk (Blk.new w 39 vz)
  have LB1 := Keep.mk (below_new w (.cells vz 39))
  generalize w.alloc (.cells vz 39) = w1 at *
  have HD1 := Keep.mk (HD.out.below LB1.out)
  obtain ⟨qa, qc, hqv⟩ := HD1.out.oq.sl
  have hql : 0 < g.queue.length := by rw [HQ.out]; simp
  have hql' : (0 : Int) < (g.queue.length : Int) := by omega
  have hrw : HRow w1 (.slice qa g.queue.length qc) g.queue := hqv ▸ HD1.out.oq.row
  obtain ⟨gp, op, hpa, _, _, hrg⟩ := hrw.at hql
  subst hpa
  have hel := rangeAt_elem hrg 0 hql
  rw [Nat.zero_mul, Nat.add_zero] at hel
  obtain ⟨hh, hhh⟩ : ∃ hh, hh = g.queue[0] := ⟨_, rfl⟩
  rw [← hhh] at hel
  have hhx : hh = v.id := by rw [hhh]; simp [HQ.out]
  subst hhx
  have c5 : w1.cell? ⟨d, 5, none⟩ = some (.slice (some ⟨gp, op, none⟩) g.queue.length qc) := by have h := HD1.out.blk.c 5 (by rfl : (dgA g)[5]? = some g.qv); rw [hqv] at h; exact h
  have Hel := Keep.mk hel
  clear hel hrg hrw hhh
  simp only [Act.put, pqA, pqB, pqC]
  refine WL.val (by kernel_rfl) (.bool false) (by go_simp) ?_
  simp only [Act.put, pqA, pqB, pqC]
  refine WL.nil ?_
  refine hK1 _ _ ?_
  refine wp_seq_k fun K2 hK2 => ?_
  refine wp_seq_k fun K3 hK3 => ?_
  refine wp_region_list (WL.out ?_)
  refine WL.val (by kernel_rfl) (.pointer (some ⟨d, 0, none⟩)) (by go_simp) ?_
  simp only [Act.put, pqA, pqB, pqC]
  refine WL.val (by kernel_rfl) (.pointer (some ⟨d, 0, none⟩)) (by go_simp) ?_
  simp only [Act.put, pqA, pqB, pqC]
  refine WL.val (by kernel_rfl) (.pointer (some ⟨d, 5, none⟩)) (by go_simp) ?_
  simp only [Act.put, pqA, pqB, pqC]
  refine WL.val (by kernel_rfl) (.slice (some ⟨gp, op, none⟩) g.queue.length qc) (by go_simp) ?_
  simp only [Act.put, pqA, pqB, pqC]
  refine WL.val (by kernel_rfl) (.int .i64 (g.queue.length : Int)) (by go_simp) ?_
  simp only [Act.put, pqA, pqB, pqC]
  refine WL.val (by kernel_rfl) (.int .i64 0) (by go_simp) ?_
  simp only [Act.put, pqA, pqB, pqC]
  refine WL.nil ?_
  refine hK3 _ _ ?_
  refine wp_block ?_
  refine wp_loop (fun ac wr => ∃ (t : Nat) (u3 u5 u6 u13 u14 u15 u16 u17 u18 u19 u20 u21 u22 u23 u24 u25 u26 u27 u28 : Value), ac = { tmps := #[.pointer (some ⟨d, 0, none⟩), undef, .pointer (some ⟨w.heap.size, 0, none⟩), u3, undef, u5, u6, .pointer (some ⟨d, 0, none⟩), .pointer (some ⟨d, 0, none⟩), .pointer (some ⟨d, 5, none⟩), .slice (some ⟨gp, op, none⟩) g.queue.length qc, .int .i64 (g.queue.length : Int), .int .i64 0, u13, u14, u15, u16, u17, u18, u19, u20, u21, u22, u23, u24, u25, u26, u27, u28, undef], defers := [] } ∧ w1 = wr) (fun a _ => 0) ⟨0, .bool false, undef, undef, undef, undef, undef, undef, undef, undef, undef, undef, undef, undef, undef, undef, undef, undef, undef, undef, rfl, rfl⟩ ?_
  rintro ac wr ⟨t, u3, u5, u6, u13, u14, u15, u16, u17, u18, u19, u20, u21, u22, u23, u24, u25, u26, u27, u28, rfl, hW⟩
  obtain rfl := hW
  refine wp_seq_k fun K4 hK4 => ?_
  refine wp_region_list (WL.out ?_)
  refine WL.val (by kernel_rfl) (.bool true) (by go_simp) ?_
  simp only [Act.put, pqA, pqB, pqC]
  refine WL.nil ?_
  refine hK4 _ _ ?_
  refine wp_seq_k fun K5 hK5 => ?_
  refine wp_cond_true rfl ?_
  refine wp_skip ?_
  refine hK5 _ _ ?_
  refine wp_seq_k fun K6 hK6 => ?_
  refine wp_block ?_
  refine wp_seq_k fun K7 hK7 => ?_
  refine wp_region_list (WL.out ?_)
  refine WL.val (by kernel_rfl) (.pointer (some ⟨gp, op, none⟩)) (by go_simp) ?_
  simp only [Act.put, pqA, pqB, pqC]
  refine WL.mid (by kernel_rfl) 36 (.tmp 14) rfl gp op rfl (encH v.id) _ Hel.out Try.underlying36 rfl (Try.size36L v.id) ?_
  rw [enc_load]
  simp only [Act.put, pqA, pqB, pqC]
  refine WL.new (by kernel_rfl) 36 rfl _ Try.new36 ?_
  simp only [Act.put, pqA, pqB, pqC]
  refine WL.storeR (by kernel_rfl) 36 (.tmp 5) (.tmp 15) rfl w1.heap.size (bytesA 32 v.id.f) rfl rfl 36 (bytesA 32 fun _ => 0) (Blk.new w1 36 _) (Try.size36B _) (bytesA_sizes _ _ _) (bytesA_one _ _) ?_
  have HX2 := Keep.mk ((Blk.new w1 36 (bytesA 32 fun _ => 0)).setRow (bytesA 32 v.id.f))
  have B2 : Keep (Below w1.heap.size w1 ((w1.alloc (.cells (bytesA 32 fun _ => 0) 36)).setRow w1.heap.size (bytesA 32 v.id.f))) := ⟨below_setRow (below_new w1 _) (Nat.le_refl _) _⟩
  generalize (w1.alloc (.cells (bytesA 32 fun _ => 0) 36)).setRow w1.heap.size (bytesA 32 v.id.f) = w2 at *
  have HD2 := Keep.mk (HD1.out.below B2.out)
  have HZ2 := Keep.mk (HZ1.out.below B2.out HZ1.out.lt)
  have LB2 := Keep.mk (belowT LB1.out B2.out)
  generalize w1.heap.size = bb at *
  clear Hel c5 HD1 HZ1
  simp only [Act.put]
  refine WL.nil ?_
  refine hK7 _ _ ?_
  refine wp_seq_k fun K8 hK8 => ?_
  obtain ⟨es, ck, c0, k0, pa, pn, pm, hes, hl1, hl2, hcs⟩ := look1 HD2.out.wait v.id
  obtain ⟨vv, hvv⟩ : ∃ a : Array Value, Keep (a = vtx c0 k0 (.slice pa pn pm)) := ⟨_, ⟨rfl⟩⟩
  rw [← hvv.out] at hl2
  have H1 := Keep.mk hl2
  have HC : Keep (c0 = v.id.f ∧ k0 = v.ck ∧ HRow w2 (.slice pa pn pm) v.ps) := ⟨hcs.elim (fun h => absurd (HF.out.symm.trans h.1) (by simp)) fun ⟨v', h, h2, h3, h4, _⟩ => by cases Option.some.inj (HF.out.symm.trans h); exact ⟨h2, h3, h4⟩⟩
  have hSB : Keep (∀ wx, Below w2.heap.size w2 wx → (fun wx => wx.cell? ⟨d, 4, none⟩ = some (.map (some g.wb)) ∧ wx.rangeAt bb 0 (bytesA 32 v.id.f).toList ∧ wx.heap[g.wb]? = some (.map es ck)) wx) := ⟨fun wx hb => ⟨(HD2.out.blk.below hb HD2.out.blk.lt).c 4 rfl, blk_rng (HX2.out.below hb HX2.out.lt), by rw [hb.block _ (Array.getElem?_eq_some_iff.1 hes).1]; exact hes⟩⟩
  have B3 : Keep (Below w2.heap.size w2 w2.drew) := ⟨(Below.refl _ _).drew⟩
  clear hl1 hl2 hcs hes
  refine wp_region_held_drew (S := fun wx => wx.cell? ⟨d, 4, none⟩ = some (.map (some g.wb)) ∧ wx.rangeAt bb 0 (bytesA 32 v.id.f).toList ∧ wx.heap[g.wb]? = some (.map es ck)) (by kernel_rfl) (hSB.out _ B3.out) (fun hHeld => ?_)
  refine wpAnyH_take (i := 0) (oi := ⟨some 16, Op.move (Operand.tmp 0), 27, _, _, none⟩) (v := .pointer (some ⟨d, 0, none⟩)) rfl (by kernel_rfl) (by kernel_rfl) (by kernel_rfl) (fun _ _ _ h => h) (Or.inl ⟨by rfl, fun w hS => by obtain ⟨hS1, hS2, hS3⟩ := hS; go_simp⟩) hHeld ?_
  simp only [Act.put, pqA, pqB, pqC]
  refine wpAnyH_take (i := 1) (oi := ⟨some 17, Op.nilCheck (Operand.tmp 16), 0, _, _, none⟩) (v := .pointer (some ⟨d, 0, none⟩)) rfl (by kernel_rfl) (by kernel_rfl) (by kernel_rfl) (fun _ _ _ h => h) (Or.inl ⟨by rfl, fun w hS => by obtain ⟨hS1, hS2, hS3⟩ := hS; go_simp⟩) hHeld ?_
  simp only [Act.put, pqA, pqB, pqC]
  refine wpAnyH_take (i := 2) (oi := ⟨some 18, Op.fieldAddr 77 (Operand.tmp 17) 4, 0, _, _, none⟩) (v := .pointer (some ⟨d, 4, none⟩)) rfl (by kernel_rfl) (by kernel_rfl) (by kernel_rfl) (fun _ _ _ h => h) (Or.inl ⟨by rfl, fun w hS => by obtain ⟨hS1, hS2, hS3⟩ := hS; go_simp⟩) hHeld ?_
  simp only [Act.put, pqA, pqB, pqC]
  refine wpAnyH_take (i := 3) (oi := ⟨some 19, Op.load 75 (Operand.tmp 18), 75, _, _, none⟩) (v := .map (some g.wb)) rfl (by kernel_rfl) (by kernel_rfl) (by kernel_rfl) (fun _ _ _ h => h) (Or.inl ⟨by rfl, fun w hS => by obtain ⟨hS1, hS2, hS3⟩ := hS; go_simp⟩) hHeld ?_
  simp only [Act.put, pqA, pqB, pqC]
  refine wpAnyH_take (i := 4) (oi := ⟨some 20, Op.load 36 (Operand.tmp 5), 36, _, _, none⟩) (v := .agg (bytesA 32 v.id.f)) rfl (by kernel_rfl) (by kernel_rfl) (by kernel_rfl) (fun _ _ _ h => h) (yieldsIf_ld (by rfl) (Operand.tmp 5) 36 rfl bb 0 rfl (bytesA 32 v.id.f) _ Try.underlying36 rfl (size36A _) fun w hS => hS.2.1) hHeld ?_
  simp only [Act.put, pqA, pqB, pqC]
  refine wpAnyH_take (i := 5) (oi := ⟨some 21, Op.lookup 75 (Operand.tmp 19) (Operand.tmp 20) false, 39, _, _, none⟩) (v := .agg vv) rfl (by kernel_rfl) (by kernel_rfl) (by kernel_rfl) (fun _ _ _ h => h) (yieldsIf_look (by rfl) (Operand.tmp 19) (Operand.tmp 20) false rfl g.wb v.id.f rfl rfl _ fun wx hS => H1.out wx hS.2.2) hHeld ?_
  simp only [Act.put, pqA, pqB, pqC]
  refine wpAnyH_ready (rs := [6]) (by kernel_rfl) (by simp) ?_
  refine AllReadyH.cons (o := ⟨some 6, Op.alloc 39, 0, _, _, none⟩) rfl (fun K hK => ?_) AllReadyH.nil
  rw [if_pos (by rfl)]
  refine wp_newA 39 rfl vz (by rw [hvz.out]; exact Try.new39) ?_
  have B4 := Keep.mk (B3.out.alloc (Nat.le_refl _) (.cells vz 39))
  obtain ⟨w4, hw4⟩ : ∃ wx, Keep (wx = w2.drew.alloc (.cells vz 39)) := ⟨_, ⟨rfl⟩⟩
  rw [← hw4.out]
  have HB4 : Keep (Blk w4 w2.drew.heap.size 39 vz) := ⟨by rw [hw4.out]; exact Blk.new _ _ _⟩
  have B4 : Keep (Below w2.heap.size w2 w4) := ⟨by rw [hw4.out]; exact B4.out⟩
  have hL4 : Keep (w2.heap.size ≤ w2.drew.heap.size) := ⟨Nat.le_refl _⟩
  clear hw4
  generalize w2.drew.heap.size = n1 at *
  refine hK _ _ (hSB.out _ B4.out) fun hH1 => ?_
  clear hK
  simp only [Act.put, pqA, pqB, pqC]
  refine wpAnyH_ready (rs := [7]) (by kernel_rfl) (by simp) ?_
  refine AllReadyH.cons (o := ⟨none, Op.store 39 (Operand.tmp 6) (Operand.tmp 21), 0, _, _, none⟩) rfl (fun K hK => ?_) AllReadyH.nil
  rw [if_pos (by rfl)]
  refine wp_store_row 39 (Operand.tmp 6) (Operand.tmp 21) rfl n1 vv rfl rfl 39 vz HB4.out (by rw [hvv.out]; exact Try.info39s _ _ _) (by rw [hvv.out, hvz.out, vtx_size, vtx_size]) (by rw [hvv.out]; exact vtx_one _ _ _ (slice_one _ _ _)) ?_
  have B5 := Keep.mk (below_setRow B4.out hL4.out vv)
  have HX5 := Keep.mk (HB4.out.setRow vv)
  refine hK _ _ (hSB.out _ B5.out) fun hH2 => ?_
  generalize w4.setRow n1 vv = w5 at *
  have HD5 := Keep.mk (HD2.out.below B5.out)
  have HZ5 := Keep.mk (HZ2.out.below B5.out HZ2.out.lt)
  have LB5 := Keep.mk (belowT LB2.out B5.out)
  have HR5 := Keep.mk (HC.out.2.2.below B5.out)
  obtain ⟨_, pm', hpf⟩ := HR5.out.form
  injection hpf with _ hpn _
  subst hpn
  have c33 : w5.cell? ⟨n1, 33, none⟩ = some (.slice pa v.ps.length pm) := HX5.out.c 33 (by rw [hvv.out]; exact vtx_ps _ _ _)
  clear hK hH1 HB4 B4 B3 hSB
  simp only [Act.put, pqA, pqB, pqC]
  refine wpAnyH_done (by kernel_rfl) ?_ _
  refine hK8 _ _ ?_
  refine wp_seq_k fun K9 hK9 => ?_
  refine wp_region_list (WL.out ?_)
  refine WL.val (by kernel_rfl) (.pointer (some ⟨d, 0, none⟩)) (by go_simp) ?_
  simp only [Act.put, pqA, pqB, pqC]
  refine WL.val (by kernel_rfl) (.pointer (some ⟨n1, 33, none⟩)) (by go_simp) ?_
  simp only [Act.put, pqA, pqB, pqC]
  refine WL.val (by kernel_rfl) (.slice pa v.ps.length pm) (by go_simp) ?_
  simp only [Act.put, pqA, pqB, pqC]
  clear c33
  have hal := hasAll_any d _ v.ps Av g w5 HD5.out HR5.out (by have := HL.out; omega)
  rw [HA.out] at hal
  refine WL.callF (by kernel_rfl) 68 _ _ rfl Try.in68 #[ptr d, .slice pa v.ps.length pm] (by simp [Act.eval]) ?_
  refine (hal).mono ?_
  rintro e w6 ⟨rfl, hz⟩
  refine ⟨_, rfl, ?_⟩
  clear hal
  have HX6 := Keep.mk (HX5.out.below hz HX5.out.lt)
  have HZ6 := Keep.mk (HZ5.out.below hz HZ5.out.lt)
  have LB6 := Keep.mk (belowT LB5.out hz)
  have HR6 := Keep.mk (HR5.out.below hz)
  clear hz
  simp only [Act.put, pqA, pqB, pqC]
  refine WL.nil ?_
  refine hK9 _ _ ?_
  refine wp_cond_true rfl ?_
  refine wp_seq_k fun K10 hK10 => ?_
  refine wp_region_list (WL.out ?_)
  refine WL.row (by kernel_rfl) 39 (.tmp 6) rfl n1 rfl 39 vv _ HX6.out Try.underlying39 rfl (by rw [hvv.out]; exact Try.info39s _ _ _) ?_
  simp only [Act.put, pqA, pqB, pqC]
  have how := own_any v _ w6 HR6.out (by have := HL.out; omega)
  rw [← HC.out.1, ← HC.out.2.1, ← hvv.out] at how
  refine WL.callF (by kernel_rfl) 59 _ _ rfl Try.in59 #[.agg vv] (by simp [Act.eval]) ?_
  refine (how).mono ?_
  rintro e w7 ⟨p7, rfl, hf⟩
  refine ⟨_, rfl, ?_⟩
  clear how
  have HF7 := Keep.mk hf
  have HZ7 := Keep.mk (HZ6.out.below hf.bel HZ6.out.lt)
  have LB7 := Keep.mk (belowT LB6.out hf.bel)
  obtain ⟨pa7, pc7, hp7⟩ := hf.own.sl
  have HP7 := Keep.mk hp7
  obtain ⟨vq, hvq⟩ : ∃ a : Array Value, Keep (a = vtx c0 k0 p7) := ⟨_, ⟨rfl⟩⟩
  have HI7 : Keep ((Try.prog.info? 39).map (·.size) = some vq.size) := ⟨by rw [hvq.out]; exact Try.info39s _ _ _⟩
  have HO7 : Keep (vq.all (·.oneCell') = true) := ⟨by rw [hvq.out, hp7]; exact vtx_one _ _ _ (slice_one _ _ _)⟩
  have HS7 : Keep (vz.size = vq.size) := ⟨by rw [hvq.out, hvz.out, vtx_size, vtx_size]⟩
  rw [← hvq.out]
  clear hf hp7 HX6 HR6
  simp only [Act.put, pqA, pqB, pqC]
  refine WL.storeR (by kernel_rfl) 39 (.tmp 2) (.tmp 27) rfl w.heap.size vq rfl rfl 39 vz HZ7.out HI7.out HS7.out HO7.out ?_
  have HZ8 := Keep.mk (HZ7.out.setRow vq)
  have LB8 := Keep.mk (below_setRow LB7.out (b := w.heap.size) (Nat.le_refl _) vq)
  generalize w7.setRow w.heap.size vq = w8 at *
  simp only [Act.put]
  refine WL.val (by kernel_rfl) (.bool true) (by go_simp) ?_
  simp only [Act.put, pqA, pqB, pqC]
  refine WL.nil ?_
  refine hK10 _ _ ?_
  refine wp_ret ?_
  try simp only [Exit.inBlock, Exit.then]
  refine bodyPost_ret (v := .tuple #[.agg vq, .bool true]) (results_cell_row2 Try.results35 _ _ w.heap.size 39 _ (0, 0) _ _ rfl rfl HZ8.out Try.underlying39 rfl HI7.out) rfl ?_
  exact ⟨pa7, _, pc7, by rw [hvq.out, HC.out.1, HC.out.2.1, HP7.out], LB8.out⟩
end Go.Proofs.Ytogmdfhicbmplaa
namespace Go.Proofs.Ytogmdfhicbmplaa
open Go.RowKit
set_option linter.unusedSimpArgs false
set_option linter.unusedVariables false

theorem Try.in9 (w : World) (vs : Array Value) : (callFunc 9 vs).run Try.prog w = .ok (.enter 9 vs) w := by kernel_rfl
def hOne : Hs := Vector.ofFn fun i : Fin 32 => if i.val = 0 then 1 else 0
def hTwo : Hs := Vector.ofFn fun i : Fin 32 => if i.val = 0 then 2 else 0
theorem bOne : Try.prog.built 36 [(0, .int .u8 1)] = some (bytesA 32 hOne.f) := by kernel_rfl
theorem bTwo : Try.prog.built 36 [(0, .int .u8 2)] = some (bytesA 32 hTwo.f) := by kernel_rfl
def xB : VX := ⟨hTwo, 2, [hOne]⟩
def xA : VX := ⟨hOne, 1, []⟩
theorem fitB : fitV [] [] xB = (3, 0) := by decide
theorem fitA : fitV [] [xB] xA = (2, 0) := by decide
theorem findB : ([xB] : List VX).find? (isV xB.id) = some xB := by rw [List.find?_cons]; simp [isV]
theorem allB : xB.ps.all (hasB [xA]) = true := by decide
set_option maxRecDepth 8000 in
set_option maxHeartbeats 1000000 in
theorem fixed_any (w : World) : Calls Try.prog 9 #[] w fun e w' => e = .returned (.bool true) ∧ Below w.heap.size w w' := by
  go_enter Try.func9, Try.ntmps9
  refine wp_seq_k fun K1 hK1 => ?_
  refine wp_region_list (WL.out ?_)
  refine WL.val (by kernel_rfl) (.bool false) (by go_simp) ?_
  simp only [Act.put, pqA, pqB, pqC]
  refine WL.nil ?_
  refine hK1 _ _ ?_
  refine wp_seq_k fun K2 hK2 => ?_
  refine wp_region_list (WL.out ?_)
  have hnw := (new_any 1 w).mono (R' := fun e w' => ∃ d g, e = .returned (.tuple #[ptr d, .int .i64 0]) ∧ DagAt w' (DgS d g) d g ∧ g.room = 1 ∧ g.held = [] ∧ g.wait = [] ∧ g.heads = [] ∧ g.order = [] ∧ g.queue = [] ∧ Below w.heap.size w w' ∧ ∀ k, DgS d g k → w.heap.size ≤ k) (fun e w' h => h.elim (fun h => absurd h.1 (by omega)) fun ⟨_, d, g, h1, h2, h3, h4, h5, h6, h7, h8, h9, h10⟩ => ⟨d, g, h1, h2, h3, h4, h5, h6, h7, h8, h9, h10⟩)
  refine WL.callF (by kernel_rfl) 10 _ _ rfl Try.in10 #[.int .i64 1] (by simp [Act.eval]) ?_
  refine (hnw).mono ?_
  rintro e w1 ⟨d, g, rfl, hD, hr, hg1, hg2, hg3, hg4, hg5, hb, hn⟩
  refine ⟨_, rfl, ?_⟩
  clear hnw
  have HN := Keep.mk hn
  clear hn
  have HD1 := Keep.mk hD
  have HGf : Keep (g.room = 1 ∧ g.held = [] ∧ g.wait = [] ∧ g.heads = [] ∧ g.order = [] ∧ g.queue = []) := ⟨⟨hr, hg1, hg2, hg3, hg4, hg5⟩⟩
  have LB1 := Keep.mk hb
  clear hD hr hg1 hg2 hg3 hg4 hg5 hb
  simp only [Act.put, pqA, pqB, pqC]
  refine WL.val (by kernel_rfl) (.tuple #[ptr d, .int .i64 0]) (by go_simp) ?_
  simp only [Act.put, pqA, pqB, pqC]
  refine WL.val (by kernel_rfl) (ptr d) (by go_simp) ?_
  simp only [Act.put, pqA, pqB, pqC]
  refine WL.val (by kernel_rfl) (.int .i64 0) (by go_simp) ?_
  simp only [Act.put, pqA, pqB, pqC]
  refine WL.val (by kernel_rfl) (ptr d) (by go_simp) ?_
  simp only [Act.put, pqA, pqB, pqC]
  refine WL.val (by kernel_rfl) (.int .i64 0) (by go_simp) ?_
  simp only [Act.put, pqA, pqB, pqC]
  refine WL.nil ?_
  refine hK2 _ _ ?_
  refine wp_seq_k fun K3 hK3 => ?_
  refine wp_seq_k fun K4 hK4 => ?_
  refine wp_region_list (WL.out ?_)
  refine WL.val (by kernel_rfl) (ptr d) (by go_simp) ?_
  simp only [Act.put, pqA, pqB, pqC]
  refine WL.val (by kernel_rfl) (.bool false) (by go_simp) ?_
  simp only [Act.put, pqA, pqB, pqC]
  refine WL.val (by kernel_rfl) (.bool false) (by go_simp) ?_
  simp only [Act.put, pqA, pqB, pqC]
  refine WL.val (by kernel_rfl) (.int .i64 0) (by go_simp) ?_
  simp only [Act.put, pqA, pqB, pqC]
  refine WL.val (by kernel_rfl) (.bool false) (by go_simp) ?_
  simp only [Act.put, pqA, pqB, pqC]
  refine WL.val (by kernel_rfl) (.bool false) (by go_simp) ?_
  simp only [Act.put, pqA, pqB, pqC]
  refine WL.nil ?_
  refine hK4 _ _ ?_
  refine wp_cond_false rfl ?_
  refine wp_skip ?_
  refine hK3 _ _ ?_
  refine wp_seq_k fun K5 hK5 => ?_
  refine wp_region_list (WL.out ?_)
  refine WL.bld (by kernel_rfl) 36 _ rfl [(0, .int .u8 1)] (by simp [Act.eval]) (bytesA 32 hOne.f) bOne ?_
  simp only [Act.put, pqA, pqB, pqC]
  refine WL.bld (by kernel_rfl) 36 _ rfl [(0, .int .u8 2)] (by simp [Act.eval]) (bytesA 32 hTwo.f) bTwo ?_
  simp only [Act.put, pqA, pqB, pqC]
  refine WL.new (by kernel_rfl) 36 rfl _ Try.new36 ?_
  have HA2 := Keep.mk (Blk.new w1 36 (bytesA 32 fun _ => 0))
  have B2 := Keep.mk (below_new w1 (.cells (bytesA 32 fun _ => 0) 36))
  generalize w1.alloc (.cells (bytesA 32 fun _ => 0) 36) = w2 at *
  have LA2 : Keep (w1.heap.size < w2.heap.size) := ⟨HA2.out.lt⟩
  obtain ⟨ga, hga⟩ : ∃ b, Keep (b = w1.heap.size) := ⟨_, ⟨rfl⟩⟩
  rw [← hga.out] at HA2 LA2 ⊢
  simp only [Act.put, pqA, pqB, pqC]
  refine WL.new (by kernel_rfl) 36 rfl _ Try.new36 ?_
  have HB3 := Keep.mk (Blk.new w2 36 (bytesA 32 fun _ => 0))
  have B3 := Keep.mk (below_new w2 (.cells (bytesA 32 fun _ => 0) 36))
  generalize w2.alloc (.cells (bytesA 32 fun _ => 0) 36) = w3 at *
  have HA3 := Keep.mk (HA2.out.below B3.out HA2.out.lt)
  obtain ⟨gb, hgb⟩ : ∃ b, Keep (b = w2.heap.size) := ⟨_, ⟨rfl⟩⟩
  rw [← hgb.out] at HB3 LA2 ⊢
  simp only [Act.put, pqA, pqB, pqC]
  refine WL.storeR (by kernel_rfl) 36 (.tmp 3) (.tmp 23) rfl ga (bytesA 32 hOne.f) rfl rfl 36 (bytesA 32 fun _ => 0) HA3.out (Try.size36B _) (bytesA_sizes _ _ _) (bytesA_one _ _) ?_
  have HA4 := Keep.mk (HA3.out.setRow (bytesA 32 hOne.f))
  have HB4 := Keep.mk (HB3.out.setRow_ne (b' := ga) (by have := LA2.out; omega) (bytesA 32 hOne.f))
  have B4 : Keep (Below w1.heap.size w1 (w3.setRow ga (bytesA 32 hOne.f))) := ⟨below_setRow (belowT B2.out B3.out) (by rw [hga.out]; exact Nat.le_refl _) _⟩
  generalize w3.setRow ga (bytesA 32 hOne.f) = w4 at *
  simp only [Act.put]
  refine WL.storeR (by kernel_rfl) 36 (.tmp 4) (.tmp 24) rfl gb (bytesA 32 hTwo.f) rfl rfl 36 (bytesA 32 fun _ => 0) HB4.out (Try.size36B _) (bytesA_sizes _ _ _) (bytesA_one _ _) ?_
  have HB5 := Keep.mk (HB4.out.setRow (bytesA 32 hTwo.f))
  have HA5 := Keep.mk (HA4.out.setRow_ne (b' := gb) (by have := LA2.out; omega) (bytesA 32 hTwo.f))
  have B5 : Keep (Below w1.heap.size w1 (w4.setRow gb (bytesA 32 hTwo.f))) := ⟨below_setRow B4.out (by rw [hgb.out]; exact B2.out.size) _⟩
  generalize w4.setRow gb (bytesA 32 hTwo.f) = w5 at *
  have HD5 := Keep.mk (HD1.out.below B5.out)
  have LB5 := Keep.mk (belowT LB1.out B5.out)
  have NA : Keep (∀ k, DgS d g k → k ≠ ga ∧ k ≠ gb) := ⟨fun k hk => by have := HD1.out.lt k hk; have := hga.out; have := hgb.out; have := B2.out.size; omega⟩
  clear HA2 HA3 HA4 HB3 HB4 B2 B3 B4 LA2
  simp only [Act.put]
  refine WL.nil ?_
  refine hK5 _ _ ?_
  refine wp_seq_k fun K6 hK6 => ?_
  refine wp_region_list (WL.out ?_)
  refine WL.val (by kernel_rfl) (ptr d) (by go_simp) ?_
  simp only [Act.put, pqA, pqB, pqC]
  refine WL.row (by kernel_rfl) 36 (.tmp 4) rfl gb rfl 36 (bytesA 32 hTwo.f) _ HB5.out Try.underlying36 rfl (Try.size36B _) ?_
  simp only [Act.put, pqA, pqB, pqC]
  refine WL.row (by kernel_rfl) 36 (.tmp 3) rfl ga rfl 36 (bytesA 32 hOne.f) _ HA5.out Try.underlying36 rfl (Try.size36B _) ?_
  simp only [Act.put, pqA, pqB, pqC]
  refine WL.bs (by kernel_rfl) 37 1 _ rfl #[(0, .agg (bytesA 32 hOne.f))] (by simp [Act.eval]) _ _ (bsH hOne w5) ?_
  have hrp := one_row hOne w5
  rw [encH_arr] at hrp
  have HRp := Keep.mk hrp
  have B6 := Keep.mk (below_new w5 (.cells (bytesA 32 hOne.f) 36))
  clear hrp
  generalize w5.alloc (.cells (bytesA 32 hOne.f) 36) = w6 at *
  have HD6 := Keep.mk (HD5.out.below B6.out)
  have HA6 := Keep.mk (HA5.out.below B6.out HA5.out.lt)
  have HB6 := Keep.mk (HB5.out.below B6.out HB5.out.lt)
  have LB6 := Keep.mk (belowT LB5.out B6.out)
  obtain ⟨gpp, hgpp⟩ : ∃ b, Keep (b = w5.heap.size) := ⟨_, ⟨rfl⟩⟩
  rw [← hgpp.out] at HRp ⊢
  clear B6 HD5 HA5 HB5 LB5
  simp only [Act.put, pqA, pqB, pqC]
  obtain ⟨vb, hvb⟩ : ∃ a : Array Value, Keep (a = vtx hTwo.f 2 (.slice (some ⟨gpp, 0, none⟩) 1 1)) := ⟨_, ⟨rfl⟩⟩
  refine WL.bld (by kernel_rfl) 39 _ rfl [(0, .agg (bytesA 32 hTwo.f)), (1, .int .i64 2), (2, .slice (some ⟨gpp, 0, none⟩) 1 1)] (by simp [Act.eval]) vb (by rw [hvb.out]; exact built_ps _ _ _ _ _) ?_
  simp only [Act.put, pqA, pqB, pqC]
  have had := add_waits d xB (.slice (some ⟨gpp, 0, none⟩) 1 1) _ g w6 HD6.out HRp.out (by rw [HGf.out.2.1]; intro v hv; cases hv) (by decide) (by decide) (by rw [HGf.out.2.1, HGf.out.2.2.1]; exact fitB) (by rw [HGf.out.2.2.1]; rfl) (by rw [HGf.out.2.2.2.2.2, HGf.out.1]; decide) (by rw [HGf.out.2.2.2.2.2]; decide)
  rw [show vtx xB.id.f xB.ck (.slice (some ⟨gpp, 0, none⟩) 1 1) = vb from hvb.out.symm] at had
  refine WL.callF (by kernel_rfl) 17 _ _ rfl Try.in17 #[ptr d, .agg vb] (by simp [Act.eval]) ?_
  refine (had).mono ?_
  rintro e w7 ⟨rfl, g7, hs, e1, e2, e3, e4, e5, e6⟩
  refine ⟨_, rfl, ?_⟩
  clear had
  rw [HGf.out.1] at e1
  rw [HGf.out.2.1] at e2
  rw [HGf.out.2.2.1, List.nil_append] at e3
  rw [HGf.out.2.2.2.2.2, List.nil_append] at e4
  rw [HGf.out.2.2.2.2.1] at e5
  rw [HGf.out.2.2.2.1] at e6
  have HS7 := Keep.mk hs
  have HG7 : Keep (g7.room = 1 ∧ g7.held = [] ∧ g7.wait = [xB] ∧ g7.queue = [xB.id] ∧ g7.order = [] ∧ g7.heads = []) := ⟨⟨e1, e2, e3, e4, e5, e6⟩⟩
  have HA7 := Keep.mk (hs.grown.blk HA6.out fun e => (NA.out _ e).1 rfl)
  have HB7 := Keep.mk (hs.grown.blk HB6.out fun e => (NA.out _ e).2 rfl)
  have NA7 : Keep (∀ k, DgS d g7 k → k ≠ ga ∧ k ≠ gb ∧ w.heap.size ≤ k) := ⟨fun k hk => (hs.sub k hk).elim (fun h => ⟨(NA.out k h).1, (NA.out k h).2, HN.out k h⟩) fun h => by have := HA6.out.lt; have := HB6.out.lt; have := LB6.out.size; omega⟩
  have LB7 : Keep (Below w.heap.size w w7) := ⟨LB6.out.trans (hs.grown.to_below (fun k hk e => by have := HN.out k e; omega) LB6.out.size)⟩
  clear hs e1 e2 e3 e4 e5 e6 HA6 HB6 LB6 HD6 HRp hvb
  simp only [Act.put, pqA, pqB, pqC]
  refine WL.val (by kernel_rfl) (.tuple #[.int .i64 3, .slice none 0 0, .int .i64 0]) (by go_simp) ?_
  simp only [Act.put, pqA, pqB, pqC]
  refine WL.val (by kernel_rfl) (.int .i64 3) (by go_simp) ?_
  simp only [Act.put, pqA, pqB, pqC]
  refine WL.val (by kernel_rfl) (.slice none 0 0) (by go_simp) ?_
  simp only [Act.put, pqA, pqB, pqC]
  refine WL.val (by kernel_rfl) (.int .i64 0) (by go_simp) ?_
  simp only [Act.put, pqA, pqB, pqC]
  refine WL.val (by kernel_rfl) (.int .i64 3) (by go_simp) ?_
  simp only [Act.put, pqA, pqB, pqC]
  refine WL.val (by kernel_rfl) (.slice none 0 0) (by go_simp) ?_
  simp only [Act.put, pqA, pqB, pqC]
  refine WL.val (by kernel_rfl) (.int .i64 0) (by go_simp) ?_
  simp only [Act.put, pqA, pqB, pqC]
  refine WL.nil ?_
  refine hK6 _ _ ?_
  refine wp_seq_k fun K7 hK7 => ?_
  refine wp_region_list (WL.out ?_)
  refine WL.val (by kernel_rfl) (ptr d) (by go_simp) ?_
  simp only [Act.put, pqA, pqB, pqC]
  refine WL.row (by kernel_rfl) 36 (.tmp 3) rfl ga rfl 36 (bytesA 32 hOne.f) _ HA7.out Try.underlying36 rfl (Try.size36B _) ?_
  simp only [Act.put, pqA, pqB, pqC]
  obtain ⟨va, hva⟩ : ∃ a : Array Value, Keep (a = vtx hOne.f 1 (.slice none 0 0)) := ⟨_, ⟨rfl⟩⟩
  refine WL.bld (by kernel_rfl) 39 _ rfl [(0, .agg (bytesA 32 hOne.f)), (1, .int .i64 1)] (by simp [Act.eval]) va (by rw [hva.out]; exact built_none _ _) ?_
  simp only [Act.put, pqA, pqB, pqC]
  have had := add_took d xA (.slice none 0 0) _ g7 w7 (fun g' => g'.held = [xA] ∧ g'.wait = [xB] ∧ g'.queue = [xB.id]) HS7.out.at' (.inl ⟨none, 0, rfl, rfl, fun _ => rfl⟩) (by rw [HG7.out.2.1]; intro v hv; cases hv) (by decide) (by decide) (by rw [HG7.out.2.1, HG7.out.2.2.1]; exact fitA) (fun w1 p1 h1 h2 h3 => (take_nil d xA p1 _ g7 w1 h1 h2 h3 HG7.out.2.1 HG7.out.2.2.2.2.1 HG7.out.2.2.2.2.2).mono fun e w' ⟨k1, g', k2, k3, k4, k5, k6, k7, k8⟩ => ⟨k1, g', k2, by rw [k4, HG7.out.2.1]; rfl, by rw [k5, HG7.out.2.2.1], by rw [k6, HG7.out.2.2.2.1]⟩)
  rw [show vtx xA.id.f xA.ck (.slice none 0 0) = va from hva.out.symm] at had
  refine WL.callF (by kernel_rfl) 17 _ _ rfl Try.in17 #[ptr d, .agg va] (by simp [Act.eval]) ?_
  refine (had).mono ?_
  rintro e w8 ⟨rfl, g8, hs, e1, e2, e3⟩
  refine ⟨_, rfl, ?_⟩
  clear had
  have HD8 := Keep.mk hs.at'
  have HG8 : Keep (g8.held = [xA] ∧ g8.wait = [xB] ∧ g8.queue = [xB.id]) := ⟨⟨e1, e2, e3⟩⟩
  have HB8 := Keep.mk (hs.grown.blk HB7.out fun e => (NA7.out _ e).2.1 rfl)
  have LB8 : Keep (Below w.heap.size w w8) := ⟨LB7.out.trans (hs.grown.to_below (fun k hk e => by have := (NA7.out k e).2.2; omega) LB7.out.size)⟩
  clear hs e1 e2 e3 HA7 HB7 LB7 HS7 hva
  simp only [Act.put, pqA, pqB, pqC]
  refine WL.val (by kernel_rfl) (.tuple #[.int .i64 2, .slice none 0 0, .int .i64 0]) (by go_simp) ?_
  simp only [Act.put, pqA, pqB, pqC]
  refine WL.val (by kernel_rfl) (.int .i64 2) (by go_simp) ?_
  simp only [Act.put, pqA, pqB, pqC]
  refine WL.val (by kernel_rfl) (.slice none 0 0) (by go_simp) ?_
  simp only [Act.put, pqA, pqB, pqC]
  refine WL.val (by kernel_rfl) (.int .i64 0) (by go_simp) ?_
  simp only [Act.put, pqA, pqB, pqC]
  refine WL.val (by kernel_rfl) (.int .i64 2) (by go_simp) ?_
  simp only [Act.put, pqA, pqB, pqC]
  refine WL.val (by kernel_rfl) (.slice none 0 0) (by go_simp) ?_
  simp only [Act.put, pqA, pqB, pqC]
  refine WL.val (by kernel_rfl) (.int .i64 0) (by go_simp) ?_
  simp only [Act.put, pqA, pqB, pqC]
  refine WL.nil ?_
  refine hK7 _ _ ?_
  refine wp_seq_k fun K8 hK8 => ?_
  refine wp_region_list (WL.out ?_)
  refine WL.val (by kernel_rfl) (ptr d) (by go_simp) ?_
  simp only [Act.put, pqA, pqB, pqC]
  have hnx := next_first d xB [] _ g8 w8 HD8.out HG8.out.2.2 (by rw [HG8.out.2.1]; exact findB) (by rw [HG8.out.1]; exact allB) (by decide)
  refine WL.callF (by kernel_rfl) 35 _ _ rfl Try.in35 #[ptr d] (by simp [Act.eval]) ?_
  refine (hnx).mono ?_
  rintro e w9 ⟨a9, n9, c9, rfl, hb⟩
  refine ⟨_, rfl, ?_⟩
  clear hnx
  have HD9 := Keep.mk (HD8.out.below hb)
  have HB9 := Keep.mk (HB8.out.below hb HB8.out.lt)
  have LB9 := Keep.mk (belowT LB8.out hb)
  obtain ⟨vn, hvn⟩ : ∃ a : Array Value, Keep (a = vtx xB.id.f xB.ck (.slice a9 n9 c9)) := ⟨_, ⟨rfl⟩⟩
  rw [← hvn.out]
  clear hb HD8 HB8 LB8
  simp only [Act.put, pqA, pqB, pqC]
  refine WL.val (by kernel_rfl) (.tuple #[.agg vn, .bool true]) (by go_simp) ?_
  simp only [Act.put, pqA, pqB, pqC]
  refine WL.val (by kernel_rfl) (.agg vn) (by go_simp) ?_
  simp only [Act.put, pqA, pqB, pqC]
  refine WL.val (by kernel_rfl) (.bool true) (by go_simp) ?_
  simp only [Act.put, pqA, pqB, pqC]
  refine WL.new (by kernel_rfl) 39 rfl _ Try.new39 ?_
  obtain ⟨vz, hvz⟩ : ∃ a : Array Value, Keep (a = vtx (fun _ => 0) 0 (.slice none 0 0)) := ⟨_, ⟨rfl⟩⟩
  rw [← hvz.out]
  have HN10 := Keep.mk (Blk.new w9 39 vz)
  have B10 := Keep.mk (below_new w9 (.cells vz 39))
  generalize w9.alloc (.cells vz 39) = w10 at *
  obtain ⟨gn, hgn⟩ : ∃ b, Keep (b = w9.heap.size) := ⟨_, ⟨rfl⟩⟩
  rw [← hgn.out] at HN10 ⊢
  simp only [Act.put, pqA, pqB, pqC]
  refine WL.storeR (by kernel_rfl) 39 (.tmp 11) (.tmp 46) rfl gn vn rfl rfl 39 vz HN10.out (by rw [hvn.out]; exact Try.info39s _ _ _) (by rw [hvn.out, hvz.out, vtx_size, vtx_size]) (by rw [hvn.out]; exact vtx_one _ _ _ (slice_one _ _ _)) ?_
  have HN11 := Keep.mk (HN10.out.setRow vn)
  have B11 : Keep (Below w9.heap.size w9 (w10.setRow gn vn)) := ⟨below_setRow B10.out (by rw [hgn.out]; exact Nat.le_refl _) vn⟩
  generalize w10.setRow gn vn = w11 at *
  have HD11 := Keep.mk (HD9.out.below B11.out)
  have HB11 := Keep.mk (HB9.out.below B11.out HB9.out.lt)
  have LB11 := Keep.mk (belowT LB9.out B11.out)
  clear HN10 B10 HD9 HB9 LB9
  simp only [Act.put]
  refine WL.val (by kernel_rfl) (.bool true) (by go_simp) ?_
  simp only [Act.put, pqA, pqB, pqC]
  refine WL.nil ?_
  refine hK8 _ _ ?_
  refine wp_seq_k fun K9 hK9 => ?_
  refine wp_region_list (WL.out ?_)
  refine WL.val (by kernel_rfl) (.int .i64 3) (by go_simp) ?_
  simp only [Act.put, pqA, pqB, pqC]
  refine WL.val (by kernel_rfl) (.bool true) (by go_simp) ?_
  simp only [Act.put, pqA, pqB, pqC]
  refine WL.val (by kernel_rfl) (.bool true) (by go_simp) ?_
  simp only [Act.put, pqA, pqB, pqC]
  refine WL.val (by kernel_rfl) (.int .i64 0) (by go_simp) ?_
  simp only [Act.put, pqA, pqB, pqC]
  refine WL.val (by kernel_rfl) (.bool true) (by go_simp) ?_
  simp only [Act.put, pqA, pqB, pqC]
  refine WL.val (by kernel_rfl) (.bool true) (by go_simp) ?_
  simp only [Act.put, pqA, pqB, pqC]
  refine WL.val (by kernel_rfl) (.bool true) (by go_simp) ?_
  simp only [Act.put, pqA, pqB, pqC]
  refine WL.val (by kernel_rfl) (.int .i64 2) (by go_simp) ?_
  simp only [Act.put, pqA, pqB, pqC]
  refine WL.val (by kernel_rfl) (.bool true) (by go_simp) ?_
  simp only [Act.put, pqA, pqB, pqC]
  refine WL.val (by kernel_rfl) (.bool true) (by go_simp) ?_
  simp only [Act.put, pqA, pqB, pqC]
  refine WL.val (by kernel_rfl) (.bool true) (by go_simp) ?_
  simp only [Act.put, pqA, pqB, pqC]
  refine WL.val (by kernel_rfl) (.int .i64 0) (by go_simp) ?_
  simp only [Act.put, pqA, pqB, pqC]
  refine WL.val (by kernel_rfl) (.bool true) (by go_simp) ?_
  simp only [Act.put, pqA, pqB, pqC]
  refine WL.val (by kernel_rfl) (.bool true) (by go_simp) ?_
  simp only [Act.put, pqA, pqB, pqC]
  refine WL.val (by kernel_rfl) (.bool true) (by go_simp) ?_
  simp only [Act.put, pqA, pqB, pqC]
  refine WL.val (by kernel_rfl) (.bool true) (by go_simp) ?_
  simp only [Act.put, pqA, pqB, pqC]
  refine WL.val (by kernel_rfl) (.bool true) (by go_simp) ?_
  simp only [Act.put, pqA, pqB, pqC]
  refine WL.val (by kernel_rfl) (.bool true) (by go_simp) ?_
  simp only [Act.put, pqA, pqB, pqC]
  refine WL.val (by kernel_rfl) (.pointer (some ⟨gn, 0, none⟩)) (by go_simp) ?_
  simp only [Act.put, pqA, pqB, pqC]
  refine WL.midA (by kernel_rfl) 36 (.tmp 66) rfl gn 0 rfl (bytesA 32 hTwo.f) _ (vtx_rng (hvn.out ▸ HN11.out)) Try.underlying36 rfl (Try.size36B _) ?_
  simp only [Act.put, pqA, pqB, pqC]
  refine WL.row (by kernel_rfl) 36 (.tmp 4) rfl gb rfl 36 (bytesA 32 hTwo.f) _ HB11.out Try.underlying36 rfl (Try.size36B _) ?_
  simp only [Act.put, pqA, pqB, pqC]
  refine WL.val (by kernel_rfl) (.bool true) (by go_simp; rw [run_equal_arr2, all_eq_iff, decide_eq_true rfl]; rfl) ?_
  simp only [Act.put, pqA, pqB, pqC]
  refine WL.val (by kernel_rfl) (.bool true) (by go_simp) ?_
  simp only [Act.put, pqA, pqB, pqC]
  refine WL.val (by kernel_rfl) (.bool true) (by go_simp) ?_
  simp only [Act.put, pqA, pqB, pqC]
  refine WL.val (by kernel_rfl) (ptr d) (by go_simp) ?_
  simp only [Act.put, pqA, pqB, pqC]
  have hln := dlen_any d _ g8 w11 HD11.out
  rw [HG8.out.1] at hln
  refine WL.callF (by kernel_rfl) 36 _ _ rfl Try.in36 #[ptr d] (by simp [Act.eval]) ?_
  refine (hln).mono ?_
  rintro e w12 ⟨rfl, hz⟩
  refine ⟨_, rfl, ?_⟩
  clear hln
  subst hz
  simp only [Act.put, pqA, pqB, pqC]
  refine WL.val (by kernel_rfl) (.bool true) (by go_simp) ?_
  simp only [Act.put, pqA, pqB, pqC]
  refine WL.val (by kernel_rfl) (.bool true) (by go_simp) ?_
  simp only [Act.put, pqA, pqB, pqC]
  refine WL.val (by kernel_rfl) (.bool true) (by go_simp) ?_
  simp only [Act.put, pqA, pqB, pqC]
  refine WL.nil ?_
  refine hK9 _ _ ?_
  refine wp_ret ?_
  go_ret
  exact ⟨rfl, LB11.out⟩
end Go.Proofs.Ytogmdfhicbmplaa
namespace Go.Proofs.Ytogmdfhicbmplaa
open Go.RowKit
set_option linter.unusedSimpArgs false
set_option linter.unusedVariables false

theorem do_any (B0 d : Nat) (op : OP) (g : DG) (w : World) (hD : DS B0 w d g) (hB : B0 ≤ w.heap.size) (hr : HRow w op.q.2 op.q.1.ps) (hL : (op.q.1.ps.length : Int) ≤ 9223372036854775806) : Calls Try.prog 20 #[ptr d, .agg (opA op)] w (DoPost B0 w d g) := by
  by_cases h5 : op.k = 5
  · rcases rdy_cases g.held g.wait op.h with ⟨_, h2⟩ | ⟨v, _, ⟨_, h3⟩ | ⟨_, h3, h4⟩⟩
    · exact do_s6 B0 d op g w hD hB h5 h2
    · exact do_se B0 d op g w hD hB h5 9 h3 (by decide)
    · rcases h4 with h4 | h4 | h4
      · exact do_s0 B0 d op g w hD hB h5 (h3.trans h4)
      · exact do_se B0 d op g w hD hB h5 3 (h3.trans h4) (by decide)
      · exact do_se B0 d op g w hD hB h5 51 (h3.trans h4) (by decide)
  · by_cases h6 : op.k = 6
    · exact do_forget B0 d op g w hD hB h6
    · rcases fit_cases g.held g.wait op.q.1 with ⟨h1, hf⟩ | ⟨h1, h2, h3, hf⟩ | ⟨h1, h2, _, _, hf⟩ | ⟨h1, h2, _, _, h3, hf⟩ | ⟨h1, h2, _, _, _, hf⟩
      · rcases Bool.eq_false_or_eq_true (hasB g.held op.q.1.id) with hb | hb
        · exact do_known1 B0 d op g w hD hB ⟨h5, h6⟩ hr hL hf _ hb rfl
        · exact do_known2 B0 d op g w hD hB ⟨h5, h6⟩ hr hL hf hb (h1.elim (fun h => by rw [hb] at h; cases h) id)
      · exact do_refused B0 d op g w hD hB ⟨h5, h6⟩ hr hL _ hf h1 h2 h3
      · exact do_waits B0 d op g w hD hB ⟨h5, h6⟩ hr hL hf h1 h2
      · exact do_refused B0 d op g w hD hB ⟨h5, h6⟩ hr hL _ hf h1 h2 h3
      · exact do_took B0 d op g w hD hB ⟨h5, h6⟩ hr hL hf h1 h2
def encO (o : OP) : List Value := (opA o).toList
theorem encO_len (o : OP) : (encO o).length = 68 := by rw [encO, Array.length_toList, opA_size]
/-- v is a slice of these steps. -/
def ORow (w : World) (v : Value) (S : List OP) : Prop :=
  ((∃ a c, v = .slice a 0 c ∧ S = []) ∨ ∃ b off c, v = .slice (some ⟨b, off, none⟩) S.length c ∧ S.length ≤ c ∧ w.rangeAt b off (S.flatMap encO)) ∧ ∀ o ∈ S, HRow w o.q.2 o.q.1.ps ∧ o.q.1.ps.length ≤ 4398046511104
theorem ORow.form {w : World} {v : Value} {S : List OP} (h : ORow w v S) : ∃ a c, v = .slice a S.length c := by
  rcases h.1 with ⟨a, c, rfl, rfl⟩ | ⟨b, off, c, rfl, _⟩
  · exact ⟨a, c, rfl⟩
  · exact ⟨_, c, rfl⟩
theorem opA_k0 {w : World} {b off : Nat} {o : OP} (h : w.rangeAt b off (encO o)) : w.cell? ⟨b, off, none⟩ = some (.int .i64 o.k) := by
  have := h 0 (.int .i64 o.k) (by unfold encO opA; rw [Array.toList_append, Array.toList_append, List.append_assoc]; rfl)
  exact this
theorem ORow.at {w : World} {a : Option Addr} {n c : Nat} {S : List OP} (h : ORow w (.slice a n c) S) (hL : 0 < S.length) : ∃ b off, a = some ⟨b, off, none⟩ ∧ b < w.heap.size ∧ w.rangeAt b off (S.flatMap encO) := by
  rcases h.1 with ⟨a, c, _, rfl⟩ | ⟨b, off, c, e, h1, h2⟩
  · simp at hL
  · injection e with e1 e2 e3
    subst e1 e3
    exact ⟨b, off, rfl, cell_lt (opA_k0 (flat_elem encO_len h2 0 hL)), h2⟩
set_option maxRecDepth 8000 in
set_option maxHeartbeats 4000000 in
theorem orders_any (r : Int) (v : Value) (S : List OP) (w : World) (hS : ORow w v S) (hSl : (S.length : Int) ≤ 9223372036854775806) : Calls Try.prog 6 #[.int .i64 r, v] w fun e w' => e = .returned (.bool true) ∧ Below w.heap.size w w' := by
  obtain ⟨sa, sc, rfl⟩ := hS.form
  have HS := Keep.mk hS
  have HSl := Keep.mk hSl
  clear hS hSl
  go_enter Try.func6, Try.ntmps6
  refine wp_seq_k fun K1 hK1 => ?_
  refine wp_region_list (WL.out ?_)
  refine WL.val (by kernel_rfl) (.bool false) (by go_simp) ?_
  simp only [Act.put, pqA, pqB, pqC]
  refine WL.nil ?_
  refine hK1 _ _ ?_
  refine wp_seq_k fun K2 hK2 => ?_
  have hnw := new_ds r w
  by_cases hr1 : r < 0 ∨ 64 < r
  · refine wp_region_list (WL.out ?_)
    refine WL.val (by kernel_rfl) (.int .i64 r) (by go_simp) ?_
    simp only [Act.put, pqA, pqB, pqC]
    refine WL.callF (by kernel_rfl) 10 _ _ rfl Try.in10 #[.int .i64 r] (by simp [Act.eval]) ?_
    refine (hnw.mono (R' := fun e w' => e = .returned (.tuple #[.pointer none, .int .i64 1]) ∧ Below w.heap.size w w') (fun e w' h => h.elim (fun h => h.2) fun ⟨h1, h2, _⟩ => by omega)).mono ?_
    rintro e w1 ⟨rfl, hb⟩
    refine ⟨_, rfl, ?_⟩
    clear hnw
    have B1 := Keep.mk hb
    clear hb
    simp only [Act.put, pqA, pqB, pqC]
    refine WL.val (by kernel_rfl) (.tuple #[.pointer none, .int .i64 1]) (by go_simp) ?_
    simp only [Act.put, pqA, pqB, pqC]
    refine WL.val (by kernel_rfl) (.pointer none) (by go_simp) ?_
    simp only [Act.put, pqA, pqB, pqC]
    refine WL.val (by kernel_rfl) (.int .i64 1) (by go_simp) ?_
    simp only [Act.put, pqA, pqB, pqC]
    refine WL.val (by kernel_rfl) (.pointer none) (by go_simp) ?_
    simp only [Act.put, pqA, pqB, pqC]
    refine WL.val (by kernel_rfl) (.int .i64 1) (by go_simp) ?_
    simp only [Act.put, pqA, pqB, pqC]
    refine WL.nil ?_
    refine hK2 _ _ ?_
    refine wp_seq_k fun K3 hK3 => ?_
    refine wp_seq_k fun K4 hK4 => ?_
    by_cases hr0 : r < 0
    · skip
      refine wp_region_list (WL.out ?_)
      refine WL.val (by kernel_rfl) (.int .i64 r) (by go_simp) ?_
      simp only [Act.put, pqA, pqB, pqC]
      refine WL.val (by kernel_rfl) (.bool true) (by go_simp) ?_
      simp only [Act.put, pqA, pqB, pqC]
      refine WL.val (by kernel_rfl) (.bool true) (by go_simp) ?_
      simp only [Act.put, pqA, pqB, pqC]
      refine WL.skip (by kernel_rfl) ?_
      simp only [Act.put, pqA, pqB, pqC]
      refine WL.skip (by kernel_rfl) ?_
      simp only [Act.put, pqA, pqB, pqC]
      refine WL.val (by kernel_rfl) (.bool true) (by go_simp) ?_
      simp only [Act.put, pqA, pqB, pqC]
      refine WL.nil ?_
      refine hK4 _ _ ?_
      refine wp_cond_true rfl ?_
      refine wp_seq_k fun K5 hK5 => ?_
      refine wp_region_list (WL.out ?_)
      refine WL.val (by kernel_rfl) (.pointer none) (by go_simp) ?_
      simp only [Act.put, pqA, pqB, pqC]
      refine WL.val (by kernel_rfl) (.bool true) (by go_simp) ?_
      simp only [Act.put, pqA, pqB, pqC]
      refine WL.val (by kernel_rfl) (.bool true) (by go_simp) ?_
      simp only [Act.put, pqA, pqB, pqC]
      refine WL.val (by kernel_rfl) (.int .i64 1) (by go_simp) ?_
      simp only [Act.put, pqA, pqB, pqC]
      refine WL.val (by kernel_rfl) (.bool true) (by go_simp) ?_
      simp only [Act.put, pqA, pqB, pqC]
      refine WL.val (by kernel_rfl) (.bool true) (by go_simp) ?_
      simp only [Act.put, pqA, pqB, pqC]
      refine WL.val (by kernel_rfl) (.bool true) (by go_simp) ?_
      simp only [Act.put, pqA, pqB, pqC]
      refine WL.callF (by kernel_rfl) 9 _ _ rfl Try.in9 #[] (by simp) ?_
      refine (fixed_any w1).mono ?_
      rintro e w2 ⟨rfl, hz⟩
      refine ⟨_, rfl, ?_⟩
      have B2 := Keep.mk (belowT B1.out hz)
      clear hz
      simp only [Act.put, pqA, pqB, pqC]
      refine WL.val (by kernel_rfl) (.bool true) (by go_simp) ?_
      simp only [Act.put, pqA, pqB, pqC]
      refine WL.val (by kernel_rfl) (.bool true) (by go_simp) ?_
      simp only [Act.put, pqA, pqB, pqC]
      refine WL.nil ?_
      refine hK5 _ _ ?_
      refine wp_ret ?_
      go_ret
      exact ⟨rfl, B2.out⟩
    · have hr64 : (64 : Int) < r := by omega
      refine wp_region_list (WL.out ?_)
      refine WL.val (by kernel_rfl) (.int .i64 r) (by go_simp) ?_
      simp only [Act.put, pqA, pqB, pqC]
      refine WL.val (by kernel_rfl) (.bool false) (by go_simp) ?_
      simp only [Act.put, pqA, pqB, pqC]
      refine WL.val (by kernel_rfl) (.bool false) (by go_simp) ?_
      simp only [Act.put, pqA, pqB, pqC]
      refine WL.val (by kernel_rfl) (.int .i64 r) (by go_simp) ?_
      simp only [Act.put, pqA, pqB, pqC]
      refine WL.val (by kernel_rfl) (.bool true) (by go_simp) ?_
      simp only [Act.put, pqA, pqB, pqC]
      refine WL.val (by kernel_rfl) (.bool true) (by go_simp) ?_
      simp only [Act.put, pqA, pqB, pqC]
      refine WL.nil ?_
      refine hK4 _ _ ?_
      refine wp_cond_true rfl ?_
      refine wp_seq_k fun K6 hK6 => ?_
      refine wp_region_list (WL.out ?_)
      refine WL.val (by kernel_rfl) (.pointer none) (by go_simp) ?_
      simp only [Act.put, pqA, pqB, pqC]
      refine WL.val (by kernel_rfl) (.bool true) (by go_simp) ?_
      simp only [Act.put, pqA, pqB, pqC]
      refine WL.val (by kernel_rfl) (.bool true) (by go_simp) ?_
      simp only [Act.put, pqA, pqB, pqC]
      refine WL.val (by kernel_rfl) (.int .i64 1) (by go_simp) ?_
      simp only [Act.put, pqA, pqB, pqC]
      refine WL.val (by kernel_rfl) (.bool true) (by go_simp) ?_
      simp only [Act.put, pqA, pqB, pqC]
      refine WL.val (by kernel_rfl) (.bool true) (by go_simp) ?_
      simp only [Act.put, pqA, pqB, pqC]
      refine WL.val (by kernel_rfl) (.bool true) (by go_simp) ?_
      simp only [Act.put, pqA, pqB, pqC]
      refine WL.callF (by kernel_rfl) 9 _ _ rfl Try.in9 #[] (by simp) ?_
      refine (fixed_any w1).mono ?_
      rintro e w2 ⟨rfl, hz⟩
      refine ⟨_, rfl, ?_⟩
      have B2 := Keep.mk (belowT B1.out hz)
      clear hz
      simp only [Act.put, pqA, pqB, pqC]
      refine WL.val (by kernel_rfl) (.bool true) (by go_simp) ?_
      simp only [Act.put, pqA, pqB, pqC]
      refine WL.val (by kernel_rfl) (.bool true) (by go_simp) ?_
      simp only [Act.put, pqA, pqB, pqC]
      refine WL.nil ?_
      refine hK6 _ _ ?_
      refine wp_ret ?_
      go_ret
      exact ⟨rfl, B2.out⟩
  · have hr2 : ¬ r < 0 := by omega
    have hr3 : ¬ (64 : Int) < r := by omega
    refine wp_region_list (WL.out ?_)
    refine WL.val (by kernel_rfl) (.int .i64 r) (by go_simp) ?_
    simp only [Act.put, pqA, pqB, pqC]
    refine WL.callF (by kernel_rfl) 10 _ _ rfl Try.in10 #[.int .i64 r] (by simp [Act.eval]) ?_
    refine (hnw.mono (R' := fun e w' => ∃ d g, e = .returned (.tuple #[.pointer (some ⟨d, 0, none⟩), .int .i64 0]) ∧ DS w.heap.size w' d g ∧ Below w.heap.size w w' ∧ g.room = r ∧ g.order = []) (fun e w' h => h.elim (fun h => absurd h.1 hr1) fun ⟨_, _, d, g, h1, h2, h3, h4, _, _, h5, _⟩ => ⟨d, g, h1, h2, h3, h4, h5⟩)).mono ?_
    rintro e w1 ⟨d, g0, rfl, hds, hb, hrm, hor⟩
    refine ⟨_, rfl, ?_⟩
    clear hnw hr1
    have D1 := Keep.mk hds
    have B1 := Keep.mk hb
    have R1 := Keep.mk hrm
    have E1 := Keep.mk hor
    clear hds hb hrm hor
    simp only [Act.put, pqA, pqB, pqC]
    refine WL.val (by kernel_rfl) (.tuple #[.pointer (some ⟨d, 0, none⟩), .int .i64 0]) (by go_simp) ?_
    simp only [Act.put, pqA, pqB, pqC]
    refine WL.val (by kernel_rfl) (.pointer (some ⟨d, 0, none⟩)) (by go_simp) ?_
    simp only [Act.put, pqA, pqB, pqC]
    refine WL.val (by kernel_rfl) (.int .i64 0) (by go_simp) ?_
    simp only [Act.put, pqA, pqB, pqC]
    refine WL.val (by kernel_rfl) (.pointer (some ⟨d, 0, none⟩)) (by go_simp) ?_
    simp only [Act.put, pqA, pqB, pqC]
    refine WL.val (by kernel_rfl) (.int .i64 0) (by go_simp) ?_
    simp only [Act.put, pqA, pqB, pqC]
    refine WL.nil ?_
    refine hK2 _ _ ?_
    refine wp_seq_k fun K7 hK7 => ?_
    refine wp_seq_k fun K8 hK8 => ?_
    refine wp_region_list (WL.out ?_)
    refine WL.val (by kernel_rfl) (.int .i64 r) (by go_simp) ?_
    simp only [Act.put, pqA, pqB, pqC]
    refine WL.val (by kernel_rfl) (.bool false) (by go_simp) ?_
    simp only [Act.put, pqA, pqB, pqC]
    refine WL.val (by kernel_rfl) (.bool false) (by go_simp) ?_
    simp only [Act.put, pqA, pqB, pqC]
    refine WL.val (by kernel_rfl) (.int .i64 r) (by go_simp) ?_
    simp only [Act.put, pqA, pqB, pqC]
    refine WL.val (by kernel_rfl) (.bool false) (by go_simp) ?_
    simp only [Act.put, pqA, pqB, pqC]
    refine WL.val (by kernel_rfl) (.bool false) (by go_simp) ?_
    simp only [Act.put, pqA, pqB, pqC]
    refine WL.nil ?_
    refine hK8 _ _ ?_
    refine wp_cond_false rfl ?_
    refine wp_skip ?_
    refine hK7 _ _ ?_
    refine wp_seq_k fun K9 hK9 => ?_
    refine wp_seq_k fun K10 hK10 => ?_
    refine wp_region_list (WL.out ?_)
    refine WL.val (by kernel_rfl) (.pointer (some ⟨d, 0, none⟩)) (by go_simp) ?_
    simp only [Act.put, pqA, pqB, pqC]
    refine WL.val (by kernel_rfl) (.bool false) (by go_simp) ?_
    simp only [Act.put, pqA, pqB, pqC]
    refine WL.val (by kernel_rfl) (.bool false) (by go_simp) ?_
    simp only [Act.put, pqA, pqB, pqC]
    refine WL.val (by kernel_rfl) (.int .i64 0) (by go_simp) ?_
    simp only [Act.put, pqA, pqB, pqC]
    refine WL.val (by kernel_rfl) (.bool false) (by go_simp) ?_
    simp only [Act.put, pqA, pqB, pqC]
    refine WL.val (by kernel_rfl) (.bool false) (by go_simp) ?_
    simp only [Act.put, pqA, pqB, pqC]
    refine WL.nil ?_
    refine hK10 _ _ ?_
    refine wp_cond_false rfl ?_
    refine wp_skip ?_
    refine hK9 _ _ ?_
    refine wp_seq_k fun K11 hK11 => ?_
    refine wp_region_list (WL.out ?_)
    refine WL.bs (by kernel_rfl) 37 0 _ rfl #[] (by simp) _ _ (bsHE w1) ?_
    have O2 := Keep.mk (ownH_empty w1)
    have BX := Keep.mk (below_new w1 (.cells #[] 36))
    have D2 := Keep.mk (D1.out.below BX.out)
    have B2 : Keep (Below w.heap.size w (w1.alloc (.cells #[] 36))) := ⟨belowT B1.out BX.out⟩
    have N2 : Keep (∀ k, (Value.slice (some ⟨w1.heap.size, 0, none⟩) 0 0).ownBlock = some k → w.heap.size ≤ k ∧ ¬ DgS d g0 k) := ⟨fun k hk => by have h1 : w1.heap.size = k := (by simpa [Value.ownBlock] using hk); subst h1; exact ⟨B1.out.size, fun e => by have := D1.out.at'.lt _ e; omega⟩⟩
    generalize w1.alloc (.cells #[] 36) = w2 at *
    generalize w1.heap.size = g7 at *
    simp only [Act.put, pqA, pqB, pqC]
    refine WL.val (by kernel_rfl) (.slice (some ⟨g7, 0, none⟩) 0 0) (by go_simp) ?_
    simp only [Act.put, pqA, pqB, pqC]
    refine WL.nil ?_
    refine hK11 _ _ ?_
    refine wp_seq_k fun K12 hK12 => ?_
    refine wp_seq_k fun K13 hK13 => ?_
    refine wp_region_list (WL.out ?_)
    refine WL.val (by kernel_rfl) (.int .i64 0) (by go_simp) ?_
    simp only [Act.put, pqA, pqB, pqC]
    refine WL.nil ?_
    refine hK13 _ _ ?_
    refine wp_block ?_
    refine wp_loop (fun ac wr => ∃ (t : Nat) (f : Nat → Value) (gr : DG) (wl : List Hs), ac = { tmps := #[.int .i64 r, .slice sa S.length sc, undef, undef, f 4, .pointer (some ⟨d, 0, none⟩), .int .i64 0, f 7, .int .i64 (t : Int), f 9, .tuple #[.pointer (some ⟨d, 0, none⟩), .int .i64 0], .int .i64 r, .tuple #[.pointer (some ⟨d, 0, none⟩), .int .i64 0], .pointer (some ⟨d, 0, none⟩), .int .i64 0, .int .i64 r, .bool false, .bool false, .int .i64 r, .bool false, .bool false, undef, undef, undef, undef, undef, undef, undef, undef, undef, .pointer (some ⟨d, 0, none⟩), .bool false, .bool false, .int .i64 0, .bool false, .bool false, .slice (some ⟨g7, 0, none⟩) 0 0, f 37, f 38, f 39, f 40, f 41, f 42, f 43, f 44, f 45, f 46, f 47, f 48, f 49, f 50, f 51, f 52, f 53, f 54, f 55, f 56, f 57, f 58, f 59, undef, undef, undef, undef, undef, undef, undef, undef, undef, undef, undef, undef], defers := [] } ∧ t ≤ S.length ∧ DS w.heap.size wr d gr ∧ Below w.heap.size w wr ∧ gr.room = r ∧ OwnH wr (f 7) wl ∧ (∀ k, (f 7).ownBlock = some k → w.heap.size ≤ k ∧ ¬ DgS d gr k) ∧ (wl.Sublist gr.order ∧ wl.length ≤ 4096)) (fun a _ => S.length - (intOf (a.tmps.getD 8 undef)).toNat) ⟨0, fun zi => [.int .i64 r, .slice sa S.length sc, undef, undef, .bool false, .pointer (some ⟨d, 0, none⟩), .int .i64 0, .slice (some ⟨g7, 0, none⟩) 0 0, .int .i64 0, undef, .tuple #[.pointer (some ⟨d, 0, none⟩), .int .i64 0], .int .i64 r, .tuple #[.pointer (some ⟨d, 0, none⟩), .int .i64 0], .pointer (some ⟨d, 0, none⟩), .int .i64 0, .int .i64 r, .bool false, .bool false, .int .i64 r, .bool false, .bool false, undef, undef, undef, undef, undef, undef, undef, undef, undef, .pointer (some ⟨d, 0, none⟩), .bool false, .bool false, .int .i64 0, .bool false, .bool false, .slice (some ⟨g7, 0, none⟩) 0 0, undef, undef, undef, undef, undef, undef, undef, undef, undef, undef, undef, undef, undef, undef, undef, undef, undef, undef, undef, undef, undef, undef, undef, undef, undef, undef, undef, undef, undef, undef, undef, undef, undef, undef, undef].getD zi undef, g0, [], rfl, by omega, D2.out, B2.out, R1.out, by exact O2.out, by exact N2.out, ⟨by simp, by simp⟩⟩ ?_
    rintro ac wr ⟨t, f, gr, wl, rfl, ht, hD, hB, hR, hO, hN, hS⟩
    have JD := Keep.mk hD
    have JB := Keep.mk hB
    have JR := Keep.mk hR
    have JO := Keep.mk hO
    have JN := Keep.mk hN
    have JS := Keep.mk hS
    clear hD hB hR hO hN hS
    by_cases htl : t < S.length
    · have htl' : (t : Int) < (S.length : Int) := by omega
      have hwt : IntKind.i64.wrap ((t : Int) + 1) = ((t + 1 : Nat) : Int) := by rw [IntKind.wrap_i64]; have := HSl.out; omega
      obtain ⟨b, off, hsa, hblt, hrg⟩ := HS.out.at (by omega)
      subst hsa
      have hel := flat_elem encO_len (rangeAt_below hrg JB.out hblt) t htl
      obtain ⟨op, hop⟩ : ∃ o, o = S[t] := ⟨_, rfl⟩
      rw [← hop] at hel
      obtain ⟨oo, hoo⟩ : ∃ a : Array Value, Keep (a = opA op) := ⟨_, ⟨rfl⟩⟩
      have Hel : Keep (wr.rangeAt b (off + t * 68) oo.toList) := ⟨by rw [hoo.out]; exact hel⟩
      have HRo : Keep (HRow wr op.q.2 op.q.1.ps ∧ op.q.1.ps.length ≤ 4398046511104) := ⟨⟨((HS.out.2 op (hop ▸ List.getElem_mem htl)).1).below JB.out, (HS.out.2 op (hop ▸ List.getElem_mem htl)).2⟩⟩
      have hm0 : 0 ≤ (t : Int).tmod 4 ∧ (t : Int).tmod 4 < 4 := ⟨Int.tmod_nonneg _ (by omega), Int.tmod_lt_of_pos _ (by omega)⟩
      have hw4 : IntKind.i64.wrap ((t : Int).tmod 4) = (t : Int).tmod 4 := by rw [IntKind.wrap_i64]; omega
      clear hel hop hrg hm0
      refine wp_seq_k fun K14 hK14 => ?_
      refine wp_seq_k fun K15 hK15 => ?_
      refine wp_region_list (WL.out ?_)
      refine WL.val (by kernel_rfl) (.int .i64 (t : Int)) (by go_simp) ?_
      simp only [Act.put, pqA, pqB, pqC]
      refine WL.val (by kernel_rfl) (.slice (some ⟨b, off, none⟩) S.length sc) (by go_simp) ?_
      simp only [Act.put, pqA, pqB, pqC]
      refine WL.val (by kernel_rfl) (.int .i64 (S.length : Int)) (by go_simp) ?_
      simp only [Act.put, pqA, pqB, pqC]
      refine WL.val (by kernel_rfl) (.bool true) (by go_simp) ?_
      simp only [Act.put, pqA, pqB, pqC]
      refine WL.nil ?_
      refine hK15 _ _ ?_
      refine wp_cond_true rfl ?_
      refine wp_skip ?_
      refine hK14 _ _ ?_
      refine wp_seq_k fun K16 hK16 => ?_
      refine wp_block ?_
      refine wp_seq_k fun K17 hK17 => ?_
      refine wp_seq_k fun K18 hK18 => ?_
      refine wp_region_list (WL.out ?_)
      refine WL.val (by kernel_rfl) (.pointer (some ⟨d, 0, none⟩)) (by go_simp) ?_
      simp only [Act.put, pqA, pqB, pqC]
      refine WL.val (by kernel_rfl) (.slice (some ⟨b, off, none⟩) S.length sc) (by go_simp) ?_
      simp only [Act.put, pqA, pqB, pqC]
      refine WL.val (by kernel_rfl) (.int .i64 (t : Int)) (by go_simp) ?_
      simp only [Act.put, pqA, pqB, pqC]
      refine WL.val (by kernel_rfl) (.pointer (some ⟨b, off + t * 68, none⟩)) (by go_simp) ?_
      simp only [Act.put, pqA, pqB, pqC]
      refine WL.midA (by kernel_rfl) 41 (.tmp 46) rfl b (off + t * 68) rfl oo _ Hel.out Try.underlying41 rfl (by rw [hoo.out]; exact Try.sizeOp _) ?_
      simp only [Act.put, pqA, pqB, pqC]
      have hdo := do_any w.heap.size d op gr wr JD.out JB.out.size HRo.out.1 (by have := HRo.out.2; omega)
      rw [← hoo.out] at hdo
      refine WL.callF (by kernel_rfl) 20 _ _ rfl Try.in20 #[ptr d, .agg oo] (by simp [Act.eval]) ?_
      refine (hdo).mono ?_
      rintro e w4 ⟨g4, rfl, hds, hb, hgw, hgr, hsb⟩
      refine ⟨_, rfl, ?_⟩
      clear hdo
      have D4 := Keep.mk hds
      have B4 : Keep (Below w.heap.size w w4) := ⟨JB.out.trans hb⟩
      have R4 : Keep (g4.room = r) := ⟨hgw.1.trans JR.out⟩
      have O4 : Keep (OwnH w4 (f 7) wl) := ⟨JO.out.grown hgr fun k hk e => (JN.out k hk).2 e⟩
      have N4 : Keep (∀ k, (f 7).ownBlock = some k → w.heap.size ≤ k ∧ ¬ DgS d g4 k) := ⟨fun k hk => ⟨(JN.out k hk).1, fun e => (hsb k e).elim (JN.out k hk).2 fun h => by have := JO.out.lt k hk; omega⟩⟩
      have S4 : Keep (wl.Sublist g4.order ∧ wl.length ≤ 4096) := ⟨⟨JS.out.1.trans hgw.2, JS.out.2⟩⟩
      clear hds hb hgw hgr hsb Hel HRo
      simp only [Act.put, pqA, pqB, pqC]
      refine WL.val (by kernel_rfl) (.bool false) (by go_simp) ?_
      simp only [Act.put, pqA, pqB, pqC]
      refine WL.nil ?_
      refine hK18 _ _ ?_
      refine wp_cond_false rfl ?_
      refine wp_skip ?_
      refine hK17 _ _ ?_
      refine wp_seq_k fun K19 hK19 => ?_
      refine wp_region_list (WL.out ?_)
      refine WL.val (by kernel_rfl) (.int .i64 (t : Int)) (by go_simp) ?_
      simp only [Act.put, pqA, pqB, pqC]
      refine WL.val (by kernel_rfl) (.int .i64 ((t : Int).tmod 4)) (by go_simp) ?_
      simp only [Act.put, pqA, pqB, pqC]
      by_cases h12_2 : (t : Int).tmod 4 = 3
      · skip
        refine WL.val (by kernel_rfl) (.bool true) (by go_simp) ?_
        simp only [Act.put, pqA, pqB, pqC]
        refine WL.nil ?_
        refine hK19 _ _ ?_
        refine wp_cond_true rfl ?_
        refine wp_seq_k fun K20 hK20 => ?_
        refine wp_region_list (WL.out ?_)
        refine WL.val (by kernel_rfl) (.pointer (some ⟨d, 0, none⟩)) (by go_simp) ?_
        simp only [Act.put, pqA, pqB, pqC]
        refine WL.callF (by kernel_rfl) 21 _ _ rfl Try.in21 #[ptr d] (by simp [Act.eval]) ?_
        refine (order_any d (DgS d g4) g4 w4 D4.out.at' (by have := D4.out.di.ol; have := D4.out.di.hl; omega)).mono ?_
        rintro e w5 ⟨v9, rfl, hf⟩
        refine ⟨_, rfl, ?_⟩
        have O5 := Keep.mk hf.own
        have O5b := Keep.mk (O4.out.below hf.bel)
        have D5 := Keep.mk (D4.out.below hf.bel)
        have B5 : Keep (Below w.heap.size w w5) := ⟨belowT B4.out hf.bel⟩
        have N5 : Keep (∀ k, v9.ownBlock = some k → w.heap.size ≤ k ∧ ¬ DgS d g4 k) := ⟨fun k hk => ⟨Nat.le_trans B4.out.size (hf.new k hk), fun e => by have := D4.out.at'.lt _ e; have := hf.new k hk; omega⟩⟩
        have HOl : Keep (g4.order.length ≤ 4096) := ⟨by have := D4.out.di.ol; have := D4.out.di.hl; omega⟩
        clear hf
        simp only [Act.put, pqA, pqB, pqC]
        refine WL.val (by kernel_rfl) (v9) (by go_simp) ?_
        simp only [Act.put, pqA, pqB, pqC]
        refine WL.nil ?_
        refine hK20 _ _ ?_
        refine wp_seq_k fun K21 hK21 => ?_
        refine wp_seq_k fun K22 hK22 => ?_
        refine wp_region_list (WL.out ?_)
        refine WL.val (by kernel_rfl) (f 7) (by go_simp) ?_
        simp only [Act.put, pqA, pqB, pqC]
        refine WL.val (by kernel_rfl) (v9) (by go_simp) ?_
        simp only [Act.put, pqA, pqB, pqC]
        have hwi := within_any (f 7) v9 wl g4.order w5 O5b.out.row O5.out.row S4.out.1 (by have := S4.out.2; omega) (by have := HOl.out; omega)
        refine WL.callF (by kernel_rfl) 22 _ _ rfl Try.in22 #[f 7, v9] (by simp [Act.eval]) ?_
        refine (hwi).mono ?_
        rintro e w6 ⟨rfl, hz⟩
        refine ⟨_, rfl, ?_⟩
        clear hwi
        have O6 := Keep.mk (O5.out.below hz)
        have D6 := Keep.mk (D5.out.below hz)
        have B6 : Keep (Below w.heap.size w w6) := ⟨belowT B5.out hz⟩
        clear hz
        simp only [Act.put, pqA, pqB, pqC]
        refine WL.val (by kernel_rfl) (.bool false) (by go_simp) ?_
        simp only [Act.put, pqA, pqB, pqC]
        refine WL.nil ?_
        refine hK22 _ _ ?_
        refine wp_cond_false rfl ?_
        refine wp_skip ?_
        refine hK21 _ _ ?_
        refine wp_region_list (WL.out ?_)
        refine WL.val (by kernel_rfl) (v9) (by go_simp) ?_
        simp only [Act.put, pqA, pqB, pqC]
        refine WL.val (by kernel_rfl) (v9) (by go_simp) ?_
        simp only [Act.put, pqA, pqB, pqC]
        refine WL.nil ?_
        refine hK16 _ _ ?_
        refine wp_region_list (WL.out ?_)
        refine WL.val (by kernel_rfl) (.int .i64 (t : Int)) (by go_simp) ?_
        simp only [Act.put, pqA, pqB, pqC]
        refine WL.val (by kernel_rfl) (.int .i64 ((t + 1 : Nat) : Int)) (by go_simp) ?_
        simp only [Act.put, pqA, pqB, pqC]
        refine WL.val (by kernel_rfl) (.int .i64 ((t + 1 : Nat) : Int)) (by go_simp) ?_
        simp only [Act.put, pqA, pqB, pqC]
        refine WL.nil ?_
        refine ⟨⟨t + 1, fun zi => [.int .i64 r, .slice (some ⟨b, off, none⟩) S.length sc, undef, undef, f 4, .pointer (some ⟨d, 0, none⟩), .int .i64 0, v9, .int .i64 ((t + 1 : Nat) : Int), v9, .tuple #[.pointer (some ⟨d, 0, none⟩), .int .i64 0], .int .i64 r, .tuple #[.pointer (some ⟨d, 0, none⟩), .int .i64 0], .pointer (some ⟨d, 0, none⟩), .int .i64 0, .int .i64 r, .bool false, .bool false, .int .i64 r, .bool false, .bool false, undef, undef, undef, undef, undef, undef, undef, undef, undef, .pointer (some ⟨d, 0, none⟩), .bool false, .bool false, .int .i64 0, .bool false, .bool false, .slice (some ⟨g7, 0, none⟩) 0 0, .int .i64 (t : Int), .slice (some ⟨b, off, none⟩) S.length sc, .int .i64 (S.length : Int), .bool true, .int .i64 (t : Int), .int .i64 ((t + 1 : Nat) : Int), .pointer (some ⟨d, 0, none⟩), .slice (some ⟨b, off, none⟩) S.length sc, .int .i64 (t : Int), .pointer (some ⟨b, off + t * 68, none⟩), .agg oo, .bool true, .bool false, .int .i64 (t : Int), .int .i64 ((t : Int).tmod 4), .bool true, .pointer (some ⟨d, 0, none⟩), v9, f 7, v9, .bool true, .bool false, v9, undef, undef, undef, undef, undef, undef, undef, undef, undef, undef, undef, undef].getD zi undef, g4, g4.order, rfl, by omega, D6.out, B6.out, R4.out, O6.out, N5.out, ⟨List.Sublist.refl _, HOl.out⟩⟩, ?_⟩
        simp only [intOf]; show S.length - (((t + 1 : Nat) : Int)).toNat < S.length - ((t : Int)).toNat; omega
      · skip
        refine WL.val (by kernel_rfl) (.bool false) (by go_simp) ?_
        simp only [Act.put, pqA, pqB, pqC]
        refine WL.nil ?_
        refine hK19 _ _ ?_
        refine wp_cond_false rfl ?_
        refine wp_skip ?_
        refine hK16 _ _ ?_
        refine wp_region_list (WL.out ?_)
        refine WL.val (by kernel_rfl) (.int .i64 (t : Int)) (by go_simp) ?_
        simp only [Act.put, pqA, pqB, pqC]
        refine WL.val (by kernel_rfl) (.int .i64 ((t + 1 : Nat) : Int)) (by go_simp) ?_
        simp only [Act.put, pqA, pqB, pqC]
        refine WL.val (by kernel_rfl) (.int .i64 ((t + 1 : Nat) : Int)) (by go_simp) ?_
        simp only [Act.put, pqA, pqB, pqC]
        refine WL.nil ?_
        refine ⟨⟨t + 1, fun zi => [.int .i64 r, .slice (some ⟨b, off, none⟩) S.length sc, undef, undef, f 4, .pointer (some ⟨d, 0, none⟩), .int .i64 0, f 7, .int .i64 ((t + 1 : Nat) : Int), f 9, .tuple #[.pointer (some ⟨d, 0, none⟩), .int .i64 0], .int .i64 r, .tuple #[.pointer (some ⟨d, 0, none⟩), .int .i64 0], .pointer (some ⟨d, 0, none⟩), .int .i64 0, .int .i64 r, .bool false, .bool false, .int .i64 r, .bool false, .bool false, undef, undef, undef, undef, undef, undef, undef, undef, undef, .pointer (some ⟨d, 0, none⟩), .bool false, .bool false, .int .i64 0, .bool false, .bool false, .slice (some ⟨g7, 0, none⟩) 0 0, .int .i64 (t : Int), .slice (some ⟨b, off, none⟩) S.length sc, .int .i64 (S.length : Int), .bool true, .int .i64 (t : Int), .int .i64 ((t + 1 : Nat) : Int), .pointer (some ⟨d, 0, none⟩), .slice (some ⟨b, off, none⟩) S.length sc, .int .i64 (t : Int), .pointer (some ⟨b, off + t * 68, none⟩), .agg oo, .bool true, .bool false, .int .i64 (t : Int), .int .i64 ((t : Int).tmod 4), .bool false, f 53, f 54, f 55, f 56, f 57, f 58, f 59, undef, undef, undef, undef, undef, undef, undef, undef, undef, undef, undef, undef].getD zi undef, g4, wl, rfl, by omega, D4.out, B4.out, R4.out, O4.out, N4.out, S4.out⟩, ?_⟩
        simp only [intOf]; show S.length - (((t + 1 : Nat) : Int)).toNat < S.length - ((t : Int)).toNat; omega
    · have htl' : ¬ (t : Int) < (S.length : Int) := by omega
      refine wp_seq_k fun K23 hK23 => ?_
      refine wp_seq_k fun K24 hK24 => ?_
      refine wp_region_list (WL.out ?_)
      refine WL.val (by kernel_rfl) (.int .i64 (t : Int)) (by go_simp) ?_
      simp only [Act.put, pqA, pqB, pqC]
      refine WL.val (by kernel_rfl) (.slice sa S.length sc) (by go_simp) ?_
      simp only [Act.put, pqA, pqB, pqC]
      refine WL.val (by kernel_rfl) (.int .i64 (S.length : Int)) (by go_simp) ?_
      simp only [Act.put, pqA, pqB, pqC]
      refine WL.val (by kernel_rfl) (.bool false) (by go_simp) ?_
      simp only [Act.put, pqA, pqB, pqC]
      refine WL.nil ?_
      refine hK24 _ _ ?_
      refine wp_cond_false rfl ?_
      refine wp_exit ?_
      refine hK12 _ _ ?_
      refine wp_seq_k fun K25 hK25 => ?_
      refine wp_region_list (WL.out ?_)
      refine WL.val (by kernel_rfl) (f 7) (by go_simp) ?_
      simp only [Act.put, pqA, pqB, pqC]
      refine WL.val (by kernel_rfl) (.pointer (some ⟨d, 0, none⟩)) (by go_simp) ?_
      simp only [Act.put, pqA, pqB, pqC]
      refine WL.callF (by kernel_rfl) 21 _ _ rfl Try.in21 #[ptr d] (by simp [Act.eval]) ?_
      refine (order_any d (DgS d gr) gr wr JD.out.at' (by have := JD.out.di.ol; have := JD.out.di.hl; omega)).mono ?_
      rintro e w5 ⟨v62, rfl, hf⟩
      refine ⟨_, rfl, ?_⟩
      have O5 := Keep.mk hf.own
      have O5b := Keep.mk (JO.out.below hf.bel)
      have D5 := Keep.mk (JD.out.below hf.bel)
      have B5 : Keep (Below w.heap.size w w5) := ⟨belowT JB.out hf.bel⟩
      clear hf
      simp only [Act.put, pqA, pqB, pqC]
      have hwi := within_any (f 7) v62 wl gr.order w5 O5b.out.row O5.out.row JS.out.1 (by have := JS.out.2; omega) (by have := JD.out.di.ol; have := JD.out.di.hl; omega)
      refine WL.callF (by kernel_rfl) 22 _ _ rfl Try.in22 #[f 7, v62] (by simp [Act.eval]) ?_
      refine (hwi).mono ?_
      rintro e w6 ⟨rfl, hz⟩
      refine ⟨_, rfl, ?_⟩
      clear hwi
      have D6 := Keep.mk (D5.out.below hz)
      have B6 : Keep (Below w.heap.size w w6) := ⟨belowT B5.out hz⟩
      clear hz
      simp only [Act.put, pqA, pqB, pqC]
      refine WL.val (by kernel_rfl) (.bool true) (by go_simp) ?_
      simp only [Act.put, pqA, pqB, pqC]
      refine WL.val (by kernel_rfl) (.pointer (some ⟨d, 0, none⟩)) (by go_simp) ?_
      simp only [Act.put, pqA, pqB, pqC]
      refine WL.val (by kernel_rfl) (.int .i64 r) (by go_simp) ?_
      simp only [Act.put, pqA, pqB, pqC]
      have hcl := closed_any w.heap.size d gr w6 D6.out
      rw [JR.out] at hcl
      refine WL.callF (by kernel_rfl) 23 _ _ rfl Try.in23 #[ptr d, .int .i64 r] (by simp [Act.eval]) ?_
      refine (hcl).mono ?_
      rintro e w7 ⟨rfl, hz⟩
      refine ⟨_, rfl, ?_⟩
      clear hcl
      have B7 : Keep (Below w.heap.size w w7) := ⟨belowT B6.out hz⟩
      clear hz
      simp only [Act.put, pqA, pqB, pqC]
      refine WL.val (by kernel_rfl) (.bool true) (by go_simp) ?_
      simp only [Act.put, pqA, pqB, pqC]
      refine WL.val (by kernel_rfl) (.bool true) (by go_simp) ?_
      simp only [Act.put, pqA, pqB, pqC]
      refine WL.callF (by kernel_rfl) 9 _ _ rfl Try.in9 #[] (by simp) ?_
      refine (fixed_any w7).mono ?_
      rintro e w8 ⟨rfl, hz⟩
      refine ⟨_, rfl, ?_⟩
      have B8 := Keep.mk (belowT B7.out hz)
      clear hz
      simp only [Act.put, pqA, pqB, pqC]
      refine WL.val (by kernel_rfl) (.bool true) (by go_simp) ?_
      simp only [Act.put, pqA, pqB, pqC]
      refine WL.val (by kernel_rfl) (.bool true) (by go_simp) ?_
      simp only [Act.put, pqA, pqB, pqC]
      refine WL.nil ?_
      refine hK25 _ _ ?_
      refine wp_ret ?_
      go_ret
      exact ⟨rfl, B8.out⟩
end Go.Proofs.Ytogmdfhicbmplaa
namespace Go.Proofs.Ytogmdfhicbmplaa
open Go.RowKit
set_option linter.unusedSimpArgs false
set_option linter.unusedVariables false

end Go.Proofs.Ytogmdfhicbmplaa
namespace Go.Proofs.Ytogmdfhicbmplaa
open Go.RowKit
set_option linter.unusedSimpArgs false
set_option linter.unusedVariables false

/-! ### Lists of vertices that the statement owns. -/
theorem VRow.take {w : World} {a : Option Addr} {c : Nat} {L : List VP} (h : VRow w (.slice a L.length c) L) (n : Nat) (hn : n ≤ L.length) : VRow w (.slice a n c) (L.take n) ∧ n ≤ c := by
  have hl : (L.take n).length = n := by rw [List.length_take]; omega
  rcases h.1 with ⟨a', c', e, rfl⟩ | ⟨b, off, c', e, h1, h2⟩
  · have : n = 0 := by simpa using hn
    subst this
    exact ⟨⟨.inl ⟨a, c, rfl, rfl⟩, by simp⟩, Nat.zero_le _⟩
  · injection e with e1 e2 e3
    subst e1 e3
    refine ⟨⟨.inr ⟨b, off, c, by rw [hl], by omega, fun j v hv => ?_⟩, fun q hq => h.2 q (List.mem_of_mem_take hq)⟩, by omega⟩
    rw [← flat_take encV_len, List.getElem?_take] at hv
    split at hv
    · exact h2 j v hv
    · cases hv
def OwnV (w : World) (B : Nat) (v : Value) (L : List VP) : Prop := w.ownsRow B 39 34 v L.length (L.flatMap encV)
theorem OwnV.form {w : World} {B : Nat} {v : Value} {L : List VP} (h : OwnV w B v L) : ∃ a c, v = .slice a L.length c ∧ (L.length = 0 → c = 0 ∨ True) := by
  rcases h.2 with ⟨rfl, e⟩ | ⟨g, cap, cur, rfl, _⟩
  · exact ⟨none, 0, by rw [e], fun _ => .inr trivial⟩
  · exact ⟨_, cap, rfl, fun _ => .inr trivial⟩
theorem OwnV.at {w : World} {B : Nat} {a : Option Addr} {n c : Nat} {L : List VP} (h : OwnV w B (.slice a n c) L) (hL : 0 < L.length) : ∃ g cur, a = some ⟨g, 0, none⟩ ∧ n = L.length ∧ B ≤ g ∧ Blk w g 39 cur ∧ L.length ≤ c ∧ c ≤ maxLen ∧ cur.size = c * 34 ∧ cur.toList.take (L.length * 34) = L.flatMap encV := by
  rcases h.2 with ⟨e, h0⟩ | ⟨g, cap, cur, e, h1, h2, h3, h4, h5, h6⟩
  · omega
  · injection e with e1 e2 e3
    subst e1 e3
    exact ⟨g, cur, rfl, e2, h1, h2, h3, h4, h5, h6⟩
theorem ownV_rng {w : World} {g : Nat} {cur : Array Value} {L : List VP} (hb : Blk w g 39 cur) (ht : cur.toList.take (L.length * 34) = L.flatMap encV) : w.rangeAt g 0 (L.flatMap encV) := fun j v hj => by
  rw [← ht] at hj
  rw [Nat.zero_add, hb.cell, ← Array.getElem?_toList]
  rw [List.getElem?_take] at hj
  split at hj
  · exact hj
  · cases hj
theorem OwnV.row {w : World} {B : Nat} {v : Value} {L : List VP} (h : OwnV w B v L) (hq : ∀ q ∈ L, HRow w q.2 q.1.ps ∧ q.1.ps.length ≤ 4398046511104) : VRow w v L := by
  refine ⟨?_, hq⟩
  rcases h.2 with ⟨rfl, e⟩ | ⟨g, cap, cur, rfl, h1, h2, h3, h4, h5, h6⟩
  · exact .inl ⟨none, 0, rfl, List.eq_nil_of_length_eq_zero e⟩
  · exact .inr ⟨g, 0, cap, rfl, h3, ownV_rng h2 h6⟩
theorem OwnV.set {w : World} {B g c : Nat} {L : List VP} {cur : Array Value} {i : Nat} {q : VP} (hB : B ≤ g) (hb : Blk w g 39 cur) (h3 : L.length ≤ c) (h4 : c ≤ maxLen) (h5 : cur.size = c * 34) (h6 : cur.toList.take (L.length * 34) = L.flatMap encV) (hi : i < L.length) (vv : Array Value) (hvv : vv.toList = encV q) :
    OwnV (w.setRow g (cur.toList.take (i * 34) ++ vv.toList ++ cur.toList.drop (i * 34 + vv.size)).toArray) B (.slice (some ⟨g, 0, none⟩) L.length c) (L.set i q) := by
  have hvs : vv.size = 34 := by rw [← Array.length_toList, hvv, encV_len]
  refine ⟨by rw [flat_len encV_len, List.length_set], .inr ⟨g, c, _, by rw [List.length_set], hB, hb.setRow _, by rw [List.length_set]; exact h3, h4, ?_, ?_⟩⟩
  · simp only [List.size_toArray, List.length_append, List.length_take, List.length_drop, Array.length_toList, hvs]
    omega
  · rw [List.length_set, hvs, ← flat_set encV_len L i q hi, ← h6, hvv]
    have h7 : cur.toList.length = cur.size := Array.length_toList
    have := take_mid cur.toList (encV q) (i * 34) 34 (L.length * 34) (encV_len q) (by omega) (by omega)
    exact this
/-! ### Rows of ints. -/
def IRow (w : World) (v : Value) (S : List Int) : Prop := (∃ a c, v = .slice a 0 c ∧ S = []) ∨ ∃ b off c, v = .slice (some ⟨b, off, none⟩) S.length c ∧ ∀ i (hi : i < S.length), w.cell? ⟨b, off + i, none⟩ = some (.int .i64 S[i])
theorem IRow.form {w : World} {v : Value} {S : List Int} (h : IRow w v S) : ∃ a c, v = .slice a S.length c := by
  rcases h with ⟨a, c, rfl, rfl⟩ | ⟨b, off, c, rfl, _⟩
  · exact ⟨a, c, rfl⟩
  · exact ⟨_, c, rfl⟩
theorem IRow.at {w : World} {a : Option Addr} {n c : Nat} {S : List Int} (h : IRow w (.slice a n c) S) (hL : 0 < S.length) : ∃ b off, a = some ⟨b, off, none⟩ ∧ ∀ i (hi : i < S.length), w.cell? ⟨b, off + i, none⟩ = some (.int .i64 S[i]) := by
  rcases h with ⟨a, c, _, rfl⟩ | ⟨b, off, c, e, h1⟩
  · simp at hL
  · injection e with e1 e2 e3
    subst e1
    exact ⟨b, off, rfl, h1⟩
theorem IRow.below {w w' : World} {v : Value} {S : List Int} (h : IRow w v S) (hb : Below w.heap.size w w') : IRow w' v S := by
  rcases h with h | ⟨b, off, c, rfl, h1⟩
  · exact .inl h
  · exact .inr ⟨b, off, c, rfl, fun i hi => by rw [hb.cell (cell_lt (h1 i hi))]; exact h1 i hi⟩
/-! ### What is asked of two Dags that were fed alike. -/
end Go.Proofs.Ytogmdfhicbmplaa
namespace Go.Proofs.Ytogmdfhicbmplaa
open Go.ChangeShapes Go.WideShapes Go.ChangeAt Go.RowKit Go.Deep
set_option linter.unusedSimpArgs false
set_option linter.unusedVariables false

theorem Try.cellsOf36 : Try.prog.cellsOf 36 = 32 := by kernel_rfl
theorem Try.cellsOf37 : Try.prog.cellsOf 37 = 1 := by kernel_rfl
theorem Try.cellsOf39 : Try.prog.cellsOf 39 = 34 := by kernel_rfl
theorem Try.cellsOf3 : Try.prog.cellsOf 3 = 1 := by kernel_rfl
theorem Try.cellsOf5 : Try.prog.cellsOf 5 = 1 := by kernel_rfl
theorem Try.bytesOf36 : Try.prog.bytesOf 36 = 32 := by kernel_rfl
theorem reach_is : reachBytes = 140737488351232 := by decide
theorem add_none' (b o i : Nat) : (⟨b, o, none⟩ : Addr).add i = ⟨b, o + i, none⟩ := by
  cases i with
  | zero => rfl
  | succ i => rfl
theorem mem_weightsAll {H : Type} {P : Program} {e : TypeId} {d : DataW H} : ∀ {ds : List (DataW H)}, d ∈ ds → ∀ n ∈ d.weights P e, n ∈ DataW.weightsAll P e ds
  | d0 :: ds, h, n, hn => by
    simp only [DataW.weightsAll, List.mem_append]
    rcases List.mem_cons.1 h with rfl | h
    · exact .inl hn
    · exact .inr (mem_weightsAll h n hn)
theorem wf_u8 {n : Int} (h : (Lit.int .u8 n).wf = true) : 0 ≤ n ∧ n < 256 := by
  have h1 : IntKind.u8.min = 0 := by decide
  have h2 : IntKind.u8.max = 255 := by decide
  simp only [Lit.wf, h1, h2, Bool.and_eq_true, decide_eq_true_eq] at h
  omega
theorem wf_i64 {n : Int} (h : (Lit.int .i64 n).wf = true) : -9223372036854775808 ≤ n ∧ n ≤ 9223372036854775807 := by
  have h1 : IntKind.i64.min = -9223372036854775808 := by decide
  have h2 : IntKind.i64.max = 9223372036854775807 := by decide
  simp only [Lit.wf, h1, h2, Bool.and_eq_true, decide_eq_true_eq] at h
  omega

theorem take_one {l : List Value} {i : Nat} {v : Value} (h : (l.drop i).take 1 = [v]) : l[i]? = some v := by
  have h2 : ((l.drop i).take 1)[0]? = some v := by rw [h]; rfl
  rw [List.getElem?_take, if_pos (by omega), List.getElem?_drop] at h2
  simpa using h2
theorem hash_of_trod {H : Type} {enc : TypeId × Value → H} {W : World} {sp : Nat → Bool} {held : Bool} {n base : Nat} {l : List Value} {x : DataW H × List MemPlace} (hf : DataW.trod enc Try.prog W base sp held n 36 l = some x) :
    ∃ c : Nat → Int, l = (bytesA 32 c).toList ∧ ∀ i, i < 32 → 0 ≤ c i ∧ c i < 256 := by
  obtain ⟨xs, m, _, _, hl, hx, hel⟩ := DataW.trod_array Try.underlying36 hf
  rw [Try.cellsOf36] at hl
  rw [Try.cellsOf5] at hel
  have each : ∀ i, i < 32 → ∃ z : Int, l[i]? = some (.int .u8 z) ∧ 0 ≤ z ∧ z < 256 := by
    intro i hi
    have h1 := hel i hi
    rw [List.getElem?_eq_getElem (by omega), Nat.mul_one] at h1
    obtain ⟨z, hz, _, hw⟩ := DataW.trod_int Try.underlying5 h1
    have hb := wf_u8 hw
    exact ⟨z, take_one hz, by omega, by omega⟩
  obtain ⟨c, hc⟩ := Go.Deep.choose_lt each
  refine ⟨c, ?_, fun i hi => (hc i hi).2⟩
  apply List.ext_getElem?
  intro i
  by_cases hi : i < 32
  · rw [(hc i hi).1, Array.getElem?_toList, bytesA_get _ _ _ hi]
  · rw [List.getElem?_eq_none (by omega), List.getElem?_eq_none (by rw [Array.length_toList, bytesA_size]; omega)]
theorem hashH_of_trod {H : Type} {enc : TypeId × Value → H} {W : World} {sp : Nat → Bool} {held : Bool} {n base : Nat} {l : List Value} {x : DataW H × List MemPlace} (hf : DataW.trod enc Try.prog W base sp held n 36 l = some x) : ∃ h : Hs, l = encH h := by
  obtain ⟨c, e, h1⟩ := hash_of_trod hf
  exact ⟨Hs.mk' c h1, by rw [e, encH]; exact congrArg Array.toList (bytesA_congr fun i hi => (Hs.mk'_f c h1 i hi).symm)⟩
theorem hs_of_trod {H : Type} {enc : TypeId × Value → H} {W : World} {sp : Nat → Bool} {held : Bool} {fuel base : Nat} {v : Value} {x : DataW H × List MemPlace} (hf : DataW.trod enc Try.prog W base sp held fuel 37 [v] = some x) (hw : ∀ n ∈ x.1.weights Try.prog 37, n ≤ reachBytes) :
    ∃ l : List Hs, HRow W v l ∧ l.length ≤ 4398046511104 := by
  rcases open_slice Try.underlying37 hf with ⟨hcs, _⟩ | ⟨a, len, cap, m, n, D, Pl, hcs, _, hl_, hm, hz, hx, hcell⟩
  · simp at hcs
    subst hcs
    exact ⟨[], .inl ⟨none, 0, rfl, rfl, fun _ => rfl⟩, by simp⟩
  · simp at hcs
    subst hcs
    have hlz : len ≤ m := by rw [hz]; split <;> omega
    have hb : len ≤ 4398046511104 := by
      have h1 := hw ((((List.range len).map D).length + ((List.range (m - len)).map fun j => D (len + j)).length) * 32) (by
        rw [hx]
        simp only [DataW.weights, Try.underlying37]
        simp [Try.bytesOf36])
      rw [reach_is] at h1
      simp only [List.length_map, List.length_range] at h1
      omega
    have each : ∀ i, i < len → ∃ q : Hs, ∀ j v, (encH q)[j]? = some v → W.cell? ((a.add (i * 32)).add j) = some v := by
      intro i hi
      obtain ⟨cs', h1, h2⟩ := hcell i (by omega)
      rw [Try.cellsOf36] at h1
      obtain ⟨_, hlen, hce⟩ := World.cells?_some h1
      obtain ⟨q, hqe⟩ := hashH_of_trod h2
      clear h2
      refine ⟨q, fun j v hv => ?_⟩
      obtain ⟨hj, e⟩ := List.getElem?_eq_some_iff.1 hv
      rw [encH_len] at hj
      rw [hce j (by omega), hqe, ← hv]
    obtain ⟨q, hq⟩ := Go.Deep.choose_lt each
    refine ⟨(List.range len).map q, ?_, by simpa using hb⟩
    by_cases h0 : len = 0
    · subst h0
      exact .inl ⟨some a, cap, rfl, rfl, fun h => by cases h⟩
    · have hs : a.spot = none := by
        have hv0 : (encH (q 0))[0]? = some (.int .u8 ((q 0).f 0)) := encH_get _ 0 (by omega)
        have := hq 0 (by omega) 0 _ hv0
        rw [Nat.zero_mul, show a.add 0 = a from rfl] at this
        rw [show a.add 0 = a from rfl] at this
        exact World.cell?_spot this
      obtain ⟨b, off, sp⟩ := a
      obtain rfl : sp = none := hs
      refine .inr ⟨b, off, cap, by simp, by simp; omega, fun j v hv => ?_⟩
      have hj : j < len * 32 := by
        have := (List.getElem?_eq_some_iff.1 hv).1
        rw [flatH_len] at this
        simpa using this
      have hi : j / 32 < ((List.range len).map q).length := by simp; omega
      have hg := flatH_get ((List.range len).map q) (j / 32) hi (j % 32) (Nat.mod_lt _ (by omega))
      rw [show j / 32 * 32 + j % 32 = j by omega, hv] at hg
      have := hq (j / 32) (by simpa using hi) (j % 32) v (by rw [hg]; simp)
      simp only [add_none'] at this
      rwa [show off + j / 32 * 32 + j % 32 = off + j by omega] at this
theorem trod_struct3 {H : Type} {enc : TypeId × Value → H} {P : Program} {w : World} {base : Nat} {spare : Nat → Bool} {held : Bool} {t : TypeId} {f0 f1 f2 : Field} {fuel : Nat} {cs : List Value} {x : DataW H × List MemPlace} (ht : P.underlying t = some (.struct #[f0, f1, f2])) (h : DataW.trod enc P w base spare held fuel t cs = some x) :
    ∃ y0 y1 y2 n, x.1 = .agg [y0.1, y1.1, y2.1] ∧ cs.length = P.cellsOf t ∧ DataW.trod enc P w base spare held n f0.type ((cs.drop f0.offset).take (P.cellsOf f0.type)) = some y0 ∧
      DataW.trod enc P w base spare held n f1.type ((cs.drop f1.offset).take (P.cellsOf f1.type)) = some y1 ∧ DataW.trod enc P w base spare held n f2.type ((cs.drop f2.offset).take (P.cellsOf f2.type)) = some y2 := by
  obtain ⟨xs, n, _, rfl, hl, hlen, hf⟩ := DataW.trod_struct ht h
  match xs, hlen with
  | [y0, y1, y2], _ => exact ⟨y0, y1, y2, n, by simp, hl, by simpa using hf 0 f0 rfl, by simpa using hf 1 f1 rfl, by simpa using hf 2 f2 rfl⟩
/-- A reading of a vertex. -/
theorem vtx_of_trod {H : Type} {enc : TypeId × Value → H} {W : World} {sp : Nat → Bool} {held : Bool} {n base : Nat} {cs : List Value} {x : DataW H × List MemPlace} (hf : DataW.trod enc Try.prog W base sp held n 39 cs = some x) (hw : ∀ n ∈ x.1.weights Try.prog 39, n ≤ reachBytes) :
    ∃ q : VP, cs = encV q ∧ HRow W q.2 q.1.ps ∧ q.1.ps.length ≤ 4398046511104 := by
  obtain ⟨y0, y1, y2, k, hx, hl, h0, h1, h2⟩ := trod_struct3 Try.underlying39 hf
  rw [Try.cellsOf39] at hl
  simp only [Try.cellsOf36, Try.cellsOf37, Try.cellsOf3, List.drop_zero] at h0 h1 h2
  obtain ⟨h, e0⟩ := hashH_of_trod h0
  obtain ⟨n1, e1, w1⟩ := DataW.trod_int Try.underlying3 h1
  have e1 := take_one e1
  obtain ⟨p, hp⟩ : ∃ p, (cs.drop 33).take 1 = [p] := by
    have : ((cs.drop 33).take 1).length = 1 := by rw [List.length_take, List.length_drop]; omega
    exact List.length_eq_one_iff.1 this
  rw [hp] at h2
  obtain ⟨ps, r2, r2b⟩ := hs_of_trod h2 (fun n hn => hw n (by
    rw [hx]
    simp only [DataW.weights, Try.underlying39]
    exact DataW.weights_mem_each (j := 2) (t := 37) rfl rfl n hn))
  refine ⟨(⟨h, n1, ps⟩, p), ?_, r2, r2b⟩
  have e2 := take_one hp
  apply List.ext_getElem?
  intro i
  show cs[i]? = (vtx h.f n1 p).toList[i]?
  unfold vtx
  rw [Array.toList_append]
  have hbl : (bytesA 32 h.f).toList.length = 32 := by rw [Array.length_toList, bytesA_size]
  by_cases hi : i < 32
  · rw [List.getElem?_append_left (by omega)]
    have : (cs.take 32)[i]? = (encH h)[i]? := by rw [e0]
    rw [List.getElem?_take, if_pos hi] at this
    exact this
  · rw [List.getElem?_append_right (by omega), hbl]
    rcases Nat.lt_or_ge i 34 with h34 | h34
    · have : i = 32 ∨ i = 33 := by omega
      rcases this with rfl | rfl
      · rw [e1]; rfl
      · rw [e2]; rfl
    · rw [List.getElem?_eq_none (by omega), List.getElem?_eq_none (by simp; omega)]
end Go.Proofs.Ytogmdfhicbmplaa
namespace Go.Proofs.Ytogmdfhicbmplaa
open Go.ChangeShapes Go.WideShapes Go.ChangeAt Go.RowKit Go.Deep
set_option linter.unusedSimpArgs false
set_option linter.unusedVariables false

theorem Try.cellsOf41 : Try.prog.cellsOf 41 = 68 := by kernel_rfl
theorem Try.bytesOf41 : Try.prog.bytesOf 41 = 112 := by kernel_rfl
theorem Try.undO : Try.prog.underlying 24 = some (.slice 41) := by kernel_rfl
theorem trod_struct4 {H : Type} {enc : TypeId × Value → H} {P : Program} {w : World} {base : Nat} {spare : Nat → Bool} {held : Bool} {t : TypeId} {f0 f1 f2 f3 : Field} {fuel : Nat} {cs : List Value} {x : DataW H × List MemPlace} (ht : P.underlying t = some (.struct #[f0, f1, f2, f3])) (h : DataW.trod enc P w base spare held fuel t cs = some x) :
    ∃ y0 y1 y2 y3 n, x.1 = .agg [y0.1, y1.1, y2.1, y3.1] ∧ cs.length = P.cellsOf t ∧ DataW.trod enc P w base spare held n f0.type ((cs.drop f0.offset).take (P.cellsOf f0.type)) = some y0 ∧
      DataW.trod enc P w base spare held n f1.type ((cs.drop f1.offset).take (P.cellsOf f1.type)) = some y1 ∧ DataW.trod enc P w base spare held n f2.type ((cs.drop f2.offset).take (P.cellsOf f2.type)) = some y2 ∧ DataW.trod enc P w base spare held n f3.type ((cs.drop f3.offset).take (P.cellsOf f3.type)) = some y3 := by
  obtain ⟨xs, n, _, rfl, hl, hlen, hf⟩ := DataW.trod_struct ht h
  match xs, hlen with
  | [y0, y1, y2, y3], _ => exact ⟨y0, y1, y2, y3, n, by simp, hl, by simpa using hf 0 f0 rfl, by simpa using hf 1 f1 rfl, by simpa using hf 2 f2 rfl, by simpa using hf 3 f3 rfl⟩
/-- A reading of a step. -/
theorem op_of_trod {H : Type} {enc : TypeId × Value → H} {W : World} {sp : Nat → Bool} {held : Bool} {n base : Nat} {cs : List Value} {x : DataW H × List MemPlace} (hf : DataW.trod enc Try.prog W base sp held n 41 cs = some x) (hw : ∀ n ∈ x.1.weights Try.prog 41, n ≤ reachBytes) :
    ∃ o : OP, cs = encO o ∧ HRow W o.q.2 o.q.1.ps ∧ o.q.1.ps.length ≤ 4398046511104 := by
  obtain ⟨y0, y1, y2, y3, k, hx, hl, h0, h1, h2, h3⟩ := trod_struct4 Try.underlying41 hf
  rw [Try.cellsOf41] at hl
  simp only [Try.cellsOf36, Try.cellsOf39, Try.cellsOf3, List.drop_zero] at h0 h1 h2 h3
  obtain ⟨n0, e0, w0⟩ := DataW.trod_int Try.underlying3 h0
  obtain ⟨n1, e1, w1⟩ := DataW.trod_int Try.underlying3 h1
  obtain ⟨q, e2, hq⟩ := vtx_of_trod h2 (fun n hn => hw n (by
    rw [hx]
    simp only [DataW.weights, Try.underlying41]
    exact DataW.weights_mem_each (j := 2) (t := 39) rfl rfl n hn))
  obtain ⟨h, e3⟩ := hashH_of_trod h3
  refine ⟨⟨n0, n1, q, h⟩, ?_, hq⟩
  have s1 : cs = cs.take 1 ++ ((cs.drop 1).take 1 ++ ((cs.drop 2).take 34 ++ (cs.drop 36).take 32)) := by
    have a : (cs.drop 36).take 32 = cs.drop 36 := List.take_of_length_le (by rw [List.length_drop]; omega)
    have b : (cs.drop 2).take 34 ++ cs.drop 36 = cs.drop 2 := by have := List.take_append_drop 34 (cs.drop 2); rw [List.drop_drop] at this; exact this
    have c : (cs.drop 1).take 1 ++ cs.drop 2 = cs.drop 1 := by have := List.take_append_drop 1 (cs.drop 1); rw [List.drop_drop] at this; exact this
    rw [a, b, c, List.take_append_drop]
  have e0' : cs.take 1 = [.int .i64 n0] := e0
  rw [s1, e0', e1, e2, e3]
  show _ = (opA ⟨n0, n1, q, h⟩).toList
  unfold opA encV encH
  rw [Array.toList_append, Array.toList_append]
  simp only [List.append_assoc]
  rfl
/-- A reading of a row of steps. -/
theorem ops_of_trod {H : Type} {enc : TypeId × Value → H} {W : World} {sp : Nat → Bool} {held : Bool} {fuel base : Nat} {v : Value} {x : DataW H × List MemPlace} (hf : DataW.trod enc Try.prog W base sp held fuel 24 [v] = some x) (hw : ∀ n ∈ x.1.weights Try.prog 24, n ≤ reachBytes) :
    ∃ S : List OP, ORow W v S ∧ (S.length : Int) ≤ 9223372036854775806 := by
  rcases open_slice Try.undO hf with ⟨hcs, _⟩ | ⟨a, len, cap, m, n, D, Pl, hcs, _, hl_, hm, hz, hx, hcell⟩
  · simp at hcs
    subst hcs
    exact ⟨[], ⟨.inl ⟨none, 0, rfl, rfl⟩, by simp⟩, by simp⟩
  · simp at hcs
    subst hcs
    have hlz : len ≤ m := by rw [hz]; split <;> omega
    have hb : len ≤ 4398046511104 := by
      have h1 := hw ((((List.range len).map D).length + ((List.range (m - len)).map fun j => D (len + j)).length) * 112) (by
        rw [hx]
        simp only [DataW.weights, Try.undO]
        simp [Try.bytesOf41])
      rw [reach_is] at h1
      simp only [List.length_map, List.length_range] at h1
      omega
    have hwD : ∀ i, i < len → ∀ n ∈ (D i).weights Try.prog 41, n ≤ reachBytes := fun i hi n hn => hw n (by
      rw [hx]
      simp only [DataW.weights, Try.undO]
      refine List.mem_cons_of_mem _ (List.mem_append_left _ (mem_weightsAll (d := D i) ?_ n hn))
      exact List.mem_map.2 ⟨i, List.mem_range.2 hi, rfl⟩)
    have each : ∀ i, i < len → ∃ q : OP, (∀ j v, (encO q)[j]? = some v → W.cell? ((a.add (i * 68)).add j) = some v) ∧ HRow W q.q.2 q.q.1.ps ∧ q.q.1.ps.length ≤ 4398046511104 := by
      intro i hi
      obtain ⟨cs', h1, h2⟩ := hcell i (by omega)
      rw [Try.cellsOf41] at h1
      obtain ⟨_, hlen, hce⟩ := World.cells?_some h1
      obtain ⟨q, hqe, hq2⟩ := op_of_trod h2 (hwD i hi)
      clear h2
      refine ⟨q, fun j v hv => ?_, hq2⟩
      obtain ⟨hj, e⟩ := List.getElem?_eq_some_iff.1 hv
      rw [encO_len] at hj
      rw [hce j (by omega), hqe, ← hv]
    haveI : Inhabited OP := ⟨⟨0, 0, (⟨default, 0, []⟩, .slice none 0 0), default⟩⟩
    obtain ⟨q, hq⟩ := Go.Deep.choose_lt each
    refine ⟨(List.range len).map q, ⟨?_, fun u hu => ?_⟩, by simp; omega⟩
    · by_cases h0 : len = 0
      · subst h0
        exact .inl ⟨some a, cap, rfl, rfl⟩
      · have hs : a.spot = none := by
          have hv0 : (encO (q 0))[0]? = some (.int .i64 (q 0).k) := by unfold encO opA; rw [Array.toList_append, Array.toList_append, List.append_assoc]; rfl
          have := (hq 0 (by omega)).1 0 _ hv0
          rw [Nat.zero_mul, show a.add 0 = a from rfl] at this
          rw [show a.add 0 = a from rfl] at this
          exact World.cell?_spot this
        obtain ⟨b, off, sp⟩ := a
        obtain rfl : sp = none := hs
        refine .inr ⟨b, off, cap, by simp, by simp; omega, flat_of_elems encO_len fun i hi j v hv => ?_⟩
        have hi' : i < len := by simpa using hi
        have := (hq i hi').1 j v (by simpa using hv)
        simp only [add_none'] at this
        exact this
    · obtain ⟨i, hi, rfl⟩ := List.mem_map.1 hu
      exact (hq i (List.mem_range.1 hi)).2
end Go.Proofs.Ytogmdfhicbmplaa
