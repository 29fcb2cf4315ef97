import Derived.Test.YthlohkgdmfkpeaaGreatB07
import Derived.Test.YthlohkgdmfkpeaaGreatB08
import Derived.Test.YthlohkgdmfkpeaaGreatB09
import Derived.Test.YthlohkgdmfkpeaaGreatB03
import Derived.Test.YthlohkgdmfkpeaaGreatB06
import Derived.Laws.BitsAllLaws
namespace Go.Proofs.YthlohkgdmfkpeaaGreat
open Go.RowKit
set_option linter.unusedSimpArgs false
set_option linter.unusedVariables false

def lnV : Value → Nat
 | .slice _ n _ => n
 | _ => 0
set_option maxRecDepth 8000 in
set_option maxHeartbeats 1000000 in
theorem shed_one (d : Nat) (v0 : VX) (r : List VX) (Av : Nat → Prop) (g : DG) (w : World) (hD : DagAt w Av d g) (hQ : g.queue = g.wait.map (·.id)) (hW : g.wait = v0 :: r) (hR : g.room = (r.length : Int)) (hQl : g.queue.length ≤ 1000000000) : Calls Tryz.prog 99 #[ptr d] w fun e w' => ∃ u g', e = .returned u ∧ Ste w w' Av d g g' ∧ (g'.room = g.room ∧ g'.held = g.held ∧ g'.wait = r ∧ g'.queue = r.map (·.id) ∧ g'.order = g.order ∧ g'.heads = g.heads) ∧ OwnH w' u [v0.id] ∧ (∀ k, u.ownBlock = some k → w.heap.size ≤ k ∧ ¬ DgS d g' k) := by
 have HD := Keep.mk hD
 have HQ := Keep.mk hQ
 have HW := Keep.mk hW
 have HR := Keep.mk hR
 have HQl := Keep.mk hQl
 clear hD hQ hW hR hQl
 go_enter Tryz.func99, Tryz.ntmps99
 refine wp_seq_k fun K1 hK1 => rgn ?_
 refine VlS (.slice none 0 0) ?_
 refine WL.nil (hK1 _ _ ?_)
 refine wp_seq_k fun K2 hK2 => rgn ?_
 refine VlS (.slice none 0 0) ?_
 refine WL.nil (hK2 _ _ ?_)
 refine wp_seq_k fun K3 hK3 => ?_
 refine wp_block ?_
 refine wp_loop (fun ac wr => ∃ (t : Nat) (u3 u4 u5 u6 u7 u8 u9 u10 u11 u12 u13 u14 u15 u16 u17 u18 u19 u20 u21 u22 u23 u24 u25 u26 u27 : Value) (gr : DG), ac = { tmps := #[.pointer (some ⟨d, 0, none⟩), undef, .slice none 0 0, u3, u4, u5, u6, u7, u8, u9, u10, u11, u12, u13, u14, u15, u16, u17, u18, u19, u20, u21, u22, u23, u24, u25, u26, u27, undef], defers := [] } ∧ ((t = 0 ∧ w = wr ∧ g = gr ∧ .slice none 0 0 = u3) ∨ (t = 1 ∧ Ste w wr Av d g gr ∧ (gr.room = g.room ∧ gr.held = g.held ∧ gr.wait = r ∧ gr.queue = r.map (·.id) ∧ gr.order = g.order ∧ gr.heads = g.heads) ∧ OwnH wr u3 [v0.id] ∧ (∀ k, u3.ownBlock = some k → w.heap.size ≤ k ∧ ¬ DgS d gr k)))) (fun a _ => 1 - lnV (a.tmps.getD 3 undef)) ⟨0, .slice none 0 0, undef, undef, undef, undef, undef, undef, undef, undef, undef, undef, undef, undef, undef, undef, undef, undef, undef, undef, undef, undef, undef, undef, undef, undef, g, rfl, .inl ⟨rfl, rfl, rfl, rfl⟩⟩ ?_
 rintro ac wr ⟨t, u3, u4, u5, u6, u7, u8, u9, u10, u11, u12, u13, u14, u15, u16, u17, u18, u19, u20, u21, u22, u23, u24, u25, u26, u27, gr, rfl, hX⟩
 rcases hX with ⟨rfl, rfl, rfl, rfl⟩ | ⟨rfl, hS, hG, hO, hN⟩
 ·have JA := Keep.mk HD.out
  obtain ⟨qa, qc, hqv⟩ := JA.out.oq.sl
  have Hqv := Keep.mk hqv
  clear hqv
  have hql0 : 0 < g.queue.length := by rw [HQ.out, HW.out]; simp
  have hle : g.room < (g.queue.length : Int) := by rw [HR.out, HQ.out, HW.out]; simp; omega
  refine wp_seq_k fun K4 hK4 => ?_
  refine wp_seq_k fun K5 hK5 => ?_
  have hS0 : Keep (w.drew.cell? ⟨d, 5, none⟩ = some (.slice qa g.queue.length qc) ∧ w.drew.cell? ⟨d, 0, none⟩ = some (.int .i64 g.room)) := ⟨by have h := JA.out.blk.drew.c 5 (by rfl : (dgA g)[5]? = some g.qv); rw [Hqv.out] at h; exact h, JA.out.blk.drew.c 0 rfl⟩
  refine wp_region_held_drew (S := fun wx => wx.cell? ⟨d, 5, none⟩ = some (.slice qa g.queue.length qc) ∧ wx.cell? ⟨d, 0, none⟩ = some (.int .i64 g.room)) (by kernel_rfl) (hS0.out) (fun hHeld => ?_)
  refine tkS (i := 0) (oi := ⟨some 5, Op.move (Operand.tmp 0), 133, _, _, none⟩) (v := .pointer (some ⟨d, 0, none⟩)) rfl (Or.inl ⟨by rfl, fun w hS => by obtain ⟨hS1, hS2⟩ := hS; go_simp⟩) hHeld ?_
  refine tkS (i := 1) (oi := ⟨some 6, Op.nilCheck (Operand.tmp 5), 0, _, _, none⟩) (v := .pointer (some ⟨d, 0, none⟩)) rfl (Or.inl ⟨by rfl, fun w hS => by obtain ⟨hS1, hS2⟩ := hS; go_simp⟩) hHeld ?_
  refine tkS (i := 2) (oi := ⟨some 7, Op.fieldAddr 152 (Operand.tmp 6) 5, 0, _, _, none⟩) (v := .pointer (some ⟨d, 5, none⟩)) rfl (Or.inl ⟨by rfl, fun w hS => by obtain ⟨hS1, hS2⟩ := hS; go_simp⟩) hHeld ?_
  refine tkS (i := 3) (oi := ⟨some 8, Op.load 24 (Operand.tmp 7), 24, _, _, none⟩) (v := .slice qa g.queue.length qc) rfl (Or.inl ⟨by rfl, fun w hS => by obtain ⟨hS1, hS2⟩ := hS; go_simp⟩) hHeld ?_
  refine tkS (i := 4) (oi := ⟨some 9, Op.call { callee := Callee.builtin Builtin.len, args := #[Operand.tmp 8], argTypes := #[24] }, 3, _, _, none⟩) (v := .int .i64 (g.queue.length : Int)) rfl (Or.inl ⟨by rfl, fun w hS => by obtain ⟨hS1, hS2⟩ := hS; go_simp⟩) hHeld ?_
  refine tkS (i := 5) (oi := ⟨some 10, Op.move (Operand.tmp 0), 133, _, _, none⟩) (v := .pointer (some ⟨d, 0, none⟩)) rfl (Or.inl ⟨by rfl, fun w hS => by obtain ⟨hS1, hS2⟩ := hS; go_simp⟩) hHeld ?_
  refine tkS (i := 6) (oi := ⟨some 11, Op.nilCheck (Operand.tmp 10), 0, _, _, none⟩) (v := .pointer (some ⟨d, 0, none⟩)) rfl (Or.inl ⟨by rfl, fun w hS => by obtain ⟨hS1, hS2⟩ := hS; go_simp⟩) hHeld ?_
  refine tkS (i := 7) (oi := ⟨some 12, Op.fieldAddr 152 (Operand.tmp 11) 0, 0, _, _, none⟩) (v := .pointer (some ⟨d, 0, none⟩)) rfl (Or.inl ⟨by rfl, fun w hS => by obtain ⟨hS1, hS2⟩ := hS; go_simp⟩) hHeld ?_
  refine tkS (i := 8) (oi := ⟨some 13, Op.load 3 (Operand.tmp 12), 3, _, _, none⟩) (v := .int .i64 g.room) rfl (Or.inl ⟨by rfl, fun w hS => by obtain ⟨hS1, hS2⟩ := hS; go_simp⟩) hHeld ?_
  refine tkS (i := 9) (oi := ⟨some 14, Op.binOp BinOp.gtr 3 (Operand.tmp 9) (Operand.tmp 13) 3, 4, _, _, none⟩) (v := .bool true) rfl (Or.inl ⟨by rfl, fun w hS => by obtain ⟨hS1, hS2⟩ := hS; go_simp⟩) hHeld ?_
  refine wpAnyH_done (by kernel_rfl) ?_ _
  refine hK5 _ _ ?_
  refine wp_cond_true rfl ?_
  refine wp_skip ?_
  refine hK4 _ _ ?_
  refine wp_block ?_
  refine wp_seq_k fun K6 hK6 => ?_
  have B1 : Keep (Below w.heap.size w w.drew) := ⟨(Below.refl _ _).drew⟩
  have JB := Keep.mk (JA.out.below B1.out)
  clear hS0 hle
  generalize w.drew = ws at *
  obtain ⟨gp, op, hpa, _, _, hrg⟩ := (Hqv.out ▸ JB.out.oq.row : HRow ws (.slice qa g.queue.length qc) g.queue).at hql0
  have hel := rangeAt_elem hrg 0 hql0
  rw [Nat.zero_mul, Nat.add_zero, show g.queue[0] = v0.id by simp [HQ.out, HW.out]] at hel
  have Hel := Keep.mk hel
  subst hpa
  have hql' : (0 : Int) < (g.queue.length : Int) := by omega
  have c5 : ws.cell? ⟨d, 5, none⟩ = some (.slice (some ⟨gp, op, none⟩) g.queue.length qc) := by have h := JB.out.blk.c 5 (by rfl : (dgA g)[5]? = some g.qv); rw [Hqv.out] at h; exact h
  clear hrg hel
  refine rgn ?_
  refine VlS (.pointer (some ⟨d, 0, none⟩)) ?_
  refine VlS (.pointer (some ⟨d, 0, none⟩)) ?_
  refine VlS (.pointer (some ⟨d, 5, none⟩)) ?_
  refine VlS (.slice (some ⟨gp, op, none⟩) g.queue.length qc) ?_
  refine VlS (.pointer (some ⟨gp, op, none⟩)) ?_
  refine WL.mid (by kernel_rfl) 36 (.tmp 19) rfl gp op rfl (encH v0.id) _ Hel.out Tryz.underlying36 rfl (Tryz.size36L v0.id) ?_
  rw [enc_load]
  simp only [Act.put, pqA, pqB, pqC]
  refine WL.new (by kernel_rfl) 36 rfl _ Tryz.new36 ?_
  simp only [Act.put, pqA, pqB, pqC]
  refine WL.storeR (by kernel_rfl) 36 (.tmp 4) (.tmp 20) rfl ws.heap.size (bytesA 32 v0.id.f) rfl rfl 36 (bytesA 32 fun _ => 0) (Blk.new ws 36 _) (Tryz.size36B _) (bytesA_sizes _ _ _) (bytesA_one _ _) ?_
  have HY := Keep.mk ((Blk.new ws 36 (bytesA 32 fun _ => 0)).setRow (bytesA 32 v0.id.f))
  have BY : Keep (Below ws.heap.size ws ((ws.alloc (.cells (bytesA 32 fun _ => 0) 36)).setRow ws.heap.size (bytesA 32 v0.id.f))) := ⟨below_setRow (below_new ws _) (Nat.le_refl _) _⟩
  generalize (ws.alloc (.cells (bytesA 32 fun _ => 0) 36)).setRow ws.heap.size (bytesA 32 v0.id.f) = wy at *
  have JC := Keep.mk (JB.out.below BY.out)
  have B2 : Keep (Below w.heap.size w wy) := ⟨belowT B1.out BY.out⟩
  have NY : Keep (∀ k, DgS d g k → k ≠ ws.heap.size) := ⟨fun k hk e => by have := JB.out.lt k (JB.out.av k hk); omega⟩
  generalize hbb : ws.heap.size = bb at *
  clear Hel c5
  simp only [Act.put]
  refine WL.nil (hK6 _ _ ?_)
  refine wp_seq_k fun K7 hK7 => rgn ?_
  refine VlS (.pointer (some ⟨d, 0, none⟩)) ?_
  refine WL.row (by kernel_rfl) 36 (.tmp 4) rfl bb rfl 36 (bytesA 32 v0.id.f) _ HY.out Tryz.underlying36 rfl (Tryz.size36B _) ?_
  simp only [Act.put, pqA, pqB, pqC]
  have Hqm : Keep (g.queue = v0.id :: r.map (·.id)) := ⟨by rw [HQ.out, HW.out]; rfl⟩
  have hfg := forget_any d v0.id Av g wy JC.out (fun _ => ⟨0, by rw [Hqm.out]; simp, by rw [Hqm.out]; exact ix_head _ _⟩) HQl.out
  refine WL.callF (by kernel_rfl) 131 _ _ rfl Tryz.in131 #[ptr d, .agg (bytesA 32 v0.id.f)] (by simp [Act.eval]) ?_
  refine (hfg.mono (R' := fun e w' => e = .returned (.bool true) ∧ ∃ g', Ste wy w' Av d g g' ∧ g'.room = g.room ∧ g'.held = g.held ∧ g'.wait = r ∧ g'.queue = r.map (·.id) ∧ g'.order = g.order ∧ g'.heads = g.heads) (fun e w' h => h.elim (fun h => by have h1 := h.1; rw [HW.out, hasB_head] at h1; cases h1) fun ⟨_, h2, i, h3, h4, g', h5, h6, h7, h8, h9, h10, h11⟩ => ⟨h2, g', h5, h6, h7, by rw [h8, HW.out, erase_head], by rw [Hqm.out, ix_head] at h4; have h4 := Int.ofNat_inj.1 h4; subst h4; rw [h9, Hqm.out]; rfl, h10, h11⟩)).mono ?_
  rintro e wz ⟨rfl, g2, hs2, hg2⟩
  refine ⟨_, rfl, ?_⟩
  clear hfg
  have HS3 : Keep (Ste w wz Av d g g2) := ⟨⟨hs2.at', (Grown.below (S := DgS d g) B2.out).trans hs2.grown, fun k hk => (hs2.sub k hk).imp id fun h => Nat.le_trans B2.out.size h⟩⟩
  have HY3 := Keep.mk (hs2.grown.blk HY.out fun e => NY.out _ e rfl)
  have JG3 := Keep.mk hg2
  clear hs2 hg2
  simp only [Act.put, pqA, pqB, pqC]
  refine WL.nil (hK7 _ _ ?_)
  refine rgn ?_
  refine VlS (.slice none 0 0) ?_
  refine WL.row (by kernel_rfl) 36 (.tmp 4) rfl bb rfl 36 (bytesA 32 v0.id.f) _ HY3.out Tryz.underlying36 rfl (Tryz.size36B _) ?_
  simp only [Act.put, pqA, pqB, pqC]
  refine WL.bs (by kernel_rfl) 24 1 _ rfl #[(0, .agg (bytesA 32 v0.id.f))] (by simp [Act.eval]) _ _ (bsH v0.id wz) ?_
  have HGy := Keep.mk (Blk.new wz 36 (bytesA 32 v0.id.f))
  have B5 := Keep.mk (below_new wz (.cells (bytesA 32 v0.id.f) 36))
  generalize wz.alloc (.cells (bytesA 32 v0.id.f) 36) = w5 at *
  have HS5 := Keep.mk (HS3.out.more B5.out)
  generalize hgy : wz.heap.size = gy at *
  simp only [Act.put, pqA, pqB, pqC]
  refine WL.appH (by kernel_rfl) (.tmp 24) (.tmp 26) rfl _ [] gy v0.id rfl rfl (ownH_nil _) HGy.out (by simp) fun v6 w6 h1 h2 h3 => ?_
  have B6 : Keep (Below w5.heap.size w5 w6) := ⟨h2.to_below (fun k _ e => by cases e) (Nat.le_refl _)⟩
  have HS6 := Keep.mk (HS5.out.more B6.out)
  have JN5 : Keep (∀ k, v6.ownBlock = some k → w.heap.size ≤ k ∧ ¬ DgS d g2 k) := ⟨fun k hk => h3.elim (fun e => by rw [hk] at e; cases e) fun ⟨q, e, hq⟩ => by rw [hk] at e; have := Option.some.inj e; subst this; exact ⟨Nat.le_trans HS5.out.grown.size hq, fun e => by have := HS5.out.at'.lt k (.inr e); omega⟩⟩
  have JO6 : Keep (OwnH w6 v6 [v0.id]) := ⟨h1⟩
  clear h1 h2 h3
  simp only [Act.put, pqA, pqB, pqC]
  refine VlS (v6) ?_
  refine WL.nil ?_
  obtain ⟨a6, c6, e6⟩ := JO6.out.sl
  refine ⟨⟨1, v6, .pointer (some ⟨bb, 0, none⟩), .pointer (some ⟨d, 0, none⟩), .pointer (some ⟨d, 0, none⟩), .pointer (some ⟨d, 5, none⟩), .slice (some ⟨gp, op, none⟩) g.queue.length qc, .int .i64 (g.queue.length : Int), .pointer (some ⟨d, 0, none⟩), .pointer (some ⟨d, 0, none⟩), .pointer (some ⟨d, 0, none⟩), .int .i64 g.room, .bool true, .pointer (some ⟨d, 0, none⟩), .pointer (some ⟨d, 0, none⟩), .pointer (some ⟨d, 5, none⟩), .slice (some ⟨gp, op, none⟩) g.queue.length qc, .pointer (some ⟨gp, op, none⟩), .agg (bytesA 32 v0.id.f), .pointer (some ⟨d, 0, none⟩), .agg (bytesA 32 v0.id.f), .bool true, .slice none 0 0, .agg (bytesA 32 v0.id.f), .slice (some ⟨gy, 0, none⟩) 1 1, v6, g2, rfl, .inr ⟨rfl, HS6.out, JG3.out, JO6.out, JN5.out⟩⟩, ?_⟩
  subst e6
  exact Nat.zero_lt_one
 ·have JS := Keep.mk hS
  have JG := Keep.mk hG
  have JO := Keep.mk hO
  have JN := Keep.mk hN
  clear hS hG hO hN
  obtain ⟨qa, qc, hqv⟩ := JS.out.at'.oq.sl
  have Hqv := Keep.mk hqv
  clear hqv
  have hle : ¬ gr.room < (gr.queue.length : Int) := by rw [JG.out.1, HR.out, JG.out.2.2.2.1, List.length_map]; omega
  refine wp_seq_k fun K8 hK8 => ?_
  refine wp_seq_k fun K9 hK9 => ?_
  have hS0 : Keep (wr.drew.cell? ⟨d, 5, none⟩ = some (.slice qa gr.queue.length qc) ∧ wr.drew.cell? ⟨d, 0, none⟩ = some (.int .i64 gr.room)) := ⟨by have h := JS.out.at'.blk.drew.c 5 (by rfl : (dgA gr)[5]? = some gr.qv); rw [Hqv.out] at h; exact h, JS.out.at'.blk.drew.c 0 rfl⟩
  refine wp_region_held_drew (S := fun wx => wx.cell? ⟨d, 5, none⟩ = some (.slice qa gr.queue.length qc) ∧ wx.cell? ⟨d, 0, none⟩ = some (.int .i64 gr.room)) (by kernel_rfl) (hS0.out) (fun hHeld => ?_)
  refine tkS (i := 0) (oi := ⟨some 5, Op.move (Operand.tmp 0), 133, _, _, none⟩) (v := .pointer (some ⟨d, 0, none⟩)) rfl (Or.inl ⟨by rfl, fun w hS => by obtain ⟨hS1, hS2⟩ := hS; go_simp⟩) hHeld ?_
  refine tkS (i := 1) (oi := ⟨some 6, Op.nilCheck (Operand.tmp 5), 0, _, _, none⟩) (v := .pointer (some ⟨d, 0, none⟩)) rfl (Or.inl ⟨by rfl, fun w hS => by obtain ⟨hS1, hS2⟩ := hS; go_simp⟩) hHeld ?_
  refine tkS (i := 2) (oi := ⟨some 7, Op.fieldAddr 152 (Operand.tmp 6) 5, 0, _, _, none⟩) (v := .pointer (some ⟨d, 5, none⟩)) rfl (Or.inl ⟨by rfl, fun w hS => by obtain ⟨hS1, hS2⟩ := hS; go_simp⟩) hHeld ?_
  refine tkS (i := 3) (oi := ⟨some 8, Op.load 24 (Operand.tmp 7), 24, _, _, none⟩) (v := .slice qa gr.queue.length qc) rfl (Or.inl ⟨by rfl, fun w hS => by obtain ⟨hS1, hS2⟩ := hS; go_simp⟩) hHeld ?_
  refine tkS (i := 4) (oi := ⟨some 9, Op.call { callee := Callee.builtin Builtin.len, args := #[Operand.tmp 8], argTypes := #[24] }, 3, _, _, none⟩) (v := .int .i64 (gr.queue.length : Int)) rfl (Or.inl ⟨by rfl, fun w hS => by obtain ⟨hS1, hS2⟩ := hS; go_simp⟩) hHeld ?_
  refine tkS (i := 5) (oi := ⟨some 10, Op.move (Operand.tmp 0), 133, _, _, none⟩) (v := .pointer (some ⟨d, 0, none⟩)) rfl (Or.inl ⟨by rfl, fun w hS => by obtain ⟨hS1, hS2⟩ := hS; go_simp⟩) hHeld ?_
  refine tkS (i := 6) (oi := ⟨some 11, Op.nilCheck (Operand.tmp 10), 0, _, _, none⟩) (v := .pointer (some ⟨d, 0, none⟩)) rfl (Or.inl ⟨by rfl, fun w hS => by obtain ⟨hS1, hS2⟩ := hS; go_simp⟩) hHeld ?_
  refine tkS (i := 7) (oi := ⟨some 12, Op.fieldAddr 152 (Operand.tmp 11) 0, 0, _, _, none⟩) (v := .pointer (some ⟨d, 0, none⟩)) rfl (Or.inl ⟨by rfl, fun w hS => by obtain ⟨hS1, hS2⟩ := hS; go_simp⟩) hHeld ?_
  refine tkS (i := 8) (oi := ⟨some 13, Op.load 3 (Operand.tmp 12), 3, _, _, none⟩) (v := .int .i64 gr.room) rfl (Or.inl ⟨by rfl, fun w hS => by obtain ⟨hS1, hS2⟩ := hS; go_simp⟩) hHeld ?_
  refine tkS (i := 9) (oi := ⟨some 14, Op.binOp BinOp.gtr 3 (Operand.tmp 9) (Operand.tmp 13) 3, 4, _, _, none⟩) (v := .bool false) rfl (Or.inl ⟨by rfl, fun w hS => by obtain ⟨hS1, hS2⟩ := hS; go_simp⟩) hHeld ?_
  refine wpAnyH_done (by kernel_rfl) ?_ _
  refine hK9 _ _ ?_
  refine wp_cond_false rfl ?_
  refine wp_exit ?_
  refine hK3 _ _ ?_
  refine wp_seq_k fun K10 hK10 => rgn ?_
  refine VlS (u3) ?_
  refine VlS (u3) ?_
  refine WL.nil (hK10 _ _ ?_)
  refine wp_ret ?_
  go_ret
  exact ⟨_, gr, rfl, JS.out.more (Below.refl _ _).drew, JG.out, JO.out.below (Below.refl _ _).drew, JN.out⟩
set_option maxRecDepth 8000 in
set_option maxHeartbeats 1000000 in
theorem add_waitsG (d : Nat) (v : VX) (p : Value) (Av : Nat → Prop) (g : DG) (w : World) (X : DG → Prop) (ol : List Hs) (hD : DagAt w Av d g) (hr : HRow w p v.ps) (hM : ∀ v ∈ g.held, 0 ≤ v.ck ∧ v.ck ≤ 4096) (hL : (v.ps.length : Int) ≤ 9223372036854775806) (hL2 : v.ps.length ≤ 4398046511104) (hFt : fitV g.held g.wait v = (3, 0)) (hW : g.wait.find? (isV v.id) = none) (hQl : g.queue.length ≤ 1000000000)
  (hSh : ∀ (w1 : World) (Av1 : Nat → Prop) (g1 : DG), DagAt w1 Av1 d g1 → (g1.room = g.room ∧ g1.held = g.held ∧ g1.wait = g.wait ++ [v] ∧ g1.queue = g.queue ++ [v.id] ∧ g1.order = g.order ∧ g1.heads = g.heads) → Calls Tryz.prog 99 #[ptr d] w1 fun e w' => ∃ u g', e = .returned u ∧ Ste w1 w' Av1 d g1 g' ∧ X g' ∧ OwnH w' u ol ∧ (∀ k, u.ownBlock = some k → w1.heap.size ≤ k ∧ ¬ DgS d g' k)) :
  Calls Tryz.prog 79 #[ptr d, .agg (vtx v.id.f v.ck p)] w fun e w' => ∃ u g', e = .returned (.tuple #[.int .i64 3, u, .int .i64 0]) ∧ Ste w w' Av d g g' ∧ X g' ∧ OwnH w' u ol ∧ (∀ k, u.ownBlock = some k → w.heap.size ≤ k ∧ ¬ DgS d g' k) := by
 obtain ⟨pa, pc, rfl⟩ := hr.form
 obtain ⟨vv, hvv⟩ : ∃ a : Array Value, Keep (a = vtx v.id.f v.ck (.slice pa v.ps.length pc)) := ⟨_, ⟨rfl⟩⟩
 rw [← hvv.out]
 have HD := Keep.mk hD
 have HR := Keep.mk hr
 have HM := Keep.mk hM
 have HL := Keep.mk hL
 have HL2 := Keep.mk hL2
 have HFt := Keep.mk hFt
 have HW := Keep.mk hW
 have HQl := Keep.mk hQl
 have HSh := Keep.mk hSh
 obtain ⟨qa, qc, hqv⟩ := hD.oq.sl
 have Hqv := Keep.mk hqv
 clear hD hr hM hL hL2 hFt hW hQl hqv hSh
 go_enter Tryz.func79, Tryz.ntmps79
 refine wp_seq_k fun K1 hK1 => rgn ?_
 refine WL.box (by kernel_rfl) 139 (.tmp 1) rfl (vv) rfl ?_
 obtain ⟨w1, hwn⟩ : ∃ wx, Keep (wx = w.alloc (.cells (vv) 139)) := ⟨_, ⟨rfl⟩⟩
 rw [← hwn.out]
 have HX1 : Keep (Blk w1 w.heap.size 139 (vv)) := ⟨by rw [hwn.out]; exact Blk.new _ _ _⟩
 have LB1 : Keep (Below w.heap.size w w1) := ⟨by rw [hwn.out]; exact below_new _ _⟩
 clear hwn
 have HD1 := Keep.mk (HD.out.below LB1.out)
 have HR1 := Keep.mk (HR.out.below LB1.out)
 simp only [Act.put, pqA, pqB, pqC]
 refine VlS (.int .i64 0) ?_
 refine VlS (.slice none 0 0) ?_
 refine VlS (.int .i64 0) ?_
 refine WL.nil (hK1 _ _ ?_)
 refine wp_seq_k fun K2 hK2 => rgn ?_
 refine VlS (.pointer (some ⟨d, 0, none⟩)) ?_
 refine WL.row (by kernel_rfl) 139 (.tmp 3) rfl w.heap.size rfl 139 vv _ HX1.out Tryz.underlying139 rfl (by rw [hvv.out]; exact Tryz.info139s _ _ _) ?_
 simp only [Act.put, pqA, pqB, pqC]
 have hft := fit_any d v _ Av g w1 HD1.out HR1.out HM.out HL.out
 rw [← hvv.out, HFt.out] at hft
 refine WL.callF (by kernel_rfl) 96 _ _ rfl Tryz.in96 #[ptr d, .agg vv] (by simp [Act.eval]) ?_
 refine (hft).mono ?_
 rintro e w2 ⟨rfl, hz⟩
 refine ⟨_, rfl, ?_⟩
 clear hft
 have HX2 := Keep.mk (HX1.out.below hz HX1.out.lt)
 have LB2 := Keep.mk (belowT LB1.out hz)
 have HD2 := Keep.mk (HD1.out.below hz)
 have HR2 := Keep.mk (HR1.out.below hz)
 clear hz HX1 HD1 HR1
 simp only [Act.put, pqA, pqB, pqC]
 refine VlS (.tuple #[.int .i64 3, .int .i64 0]) ?_
 refine VlS (.int .i64 3) ?_
 refine VlS (.int .i64 0) ?_
 refine VlS (.int .i64 3) ?_
 refine VlS (.int .i64 0) ?_
 refine WL.nil (hK2 _ _ ?_)
 refine wp_seq_k fun K3 hK3 => ?_
 refine wp_seq_k fun K4 hK4 => rgn ?_
 refine VlS (.int .i64 3) ?_
 refine WL.nil (hK4 _ _ ?_)
 refine wp_block ?_
 refine wp_seq_k fun K5 hK5 => rgn ?_
 refine VbF ?_
 refine VbF ?_
 refine WL.nil (hK5 _ _ ?_)
 refine wp_cond_false rfl ?_
 refine wp_seq_k fun K6 hK6 => rgn ?_
 refine VbT ?_
 refine VbT ?_
 refine WL.nil (hK6 _ _ ?_)
 refine wp_cond_true rfl ?_
 refine wp_seq_k fun K7 hK7 => ?_
 have hS0 : Keep ((fun wx => wx.cell? ⟨d, 4, none⟩ = some (.map (some g.wb)) ∧ wx.rangeAt w.heap.size 0 (bytesA 32 v.id.f).toList ∧ wx.rangeAt w.heap.size 0 vv.toList) w2.drew) := ⟨⟨HD2.out.blk.drew.c 4 rfl, vtx_rng (hvv.out ▸ HX2.out.drew), blk_rng HX2.out.drew⟩⟩
 refine wp_region_held_drew (S := fun wx => wx.cell? ⟨d, 4, none⟩ = some (.map (some g.wb)) ∧ wx.rangeAt w.heap.size 0 (bytesA 32 v.id.f).toList ∧ wx.rangeAt w.heap.size 0 vv.toList) (by kernel_rfl) (hS0.out) (fun hHeld => ?_)
 refine tkS (i := 0) (oi := ⟨some 22, Op.move (Operand.tmp 0), 133, _, _, none⟩) (v := .pointer (some ⟨d, 0, none⟩)) rfl (Or.inl ⟨by rfl, fun w hS => by obtain ⟨hS1, hS2, hS3⟩ := hS; go_simp⟩) hHeld ?_
 refine tkS (i := 1) (oi := ⟨some 23, Op.nilCheck (Operand.tmp 22), 0, _, _, none⟩) (v := .pointer (some ⟨d, 0, none⟩)) rfl (Or.inl ⟨by rfl, fun w hS => by obtain ⟨hS1, hS2, hS3⟩ := hS; go_simp⟩) hHeld ?_
 refine tkS (i := 2) (oi := ⟨some 24, Op.fieldAddr 152 (Operand.tmp 23) 4, 0, _, _, none⟩) (v := .pointer (some ⟨d, 4, none⟩)) rfl (Or.inl ⟨by rfl, fun w hS => by obtain ⟨hS1, hS2, hS3⟩ := hS; go_simp⟩) hHeld ?_
 refine tkS (i := 3) (oi := ⟨some 25, Op.load 150 (Operand.tmp 24), 150, _, _, none⟩) (v := .map (some g.wb)) rfl (Or.inl ⟨by rfl, fun w hS => by obtain ⟨hS1, hS2, hS3⟩ := hS; go_simp⟩) hHeld ?_
 refine tkS (i := 4) (oi := ⟨some 26, Op.fieldAddr 139 (Operand.tmp 3) 0, 0, _, _, none⟩) (v := .pointer (some ⟨w.heap.size, 0, none⟩)) rfl (Or.inl ⟨by rfl, fun w hS => by obtain ⟨hS1, hS2, hS3⟩ := hS; go_simp⟩) hHeld ?_
 refine tkS (i := 5) (oi := ⟨some 27, Op.load 36 (Operand.tmp 26), 36, _, _, none⟩) (v := .agg (bytesA 32 v.id.f)) rfl (yieldsIf_ld (by rfl) (Operand.tmp 26) 36 rfl w.heap.size 0 rfl (bytesA 32 v.id.f) _ Tryz.underlying36 rfl (size36A _) fun w hS => hS.2.1) hHeld ?_
 refine tkS (i := 6) (oi := ⟨some 28, Op.load 139 (Operand.tmp 3), 139, _, _, none⟩) (v := .agg vv) rfl (yieldsIf_ld (by rfl) (Operand.tmp 3) 139 rfl w.heap.size 0 rfl vv _ Tryz.underlying139 rfl (by rw [hvv.out]; exact Tryz.info139s _ _ _) fun w hS => hS.2.2) hHeld ?_
 refine wpAnyH_ready (rs := [7]) (by kernel_rfl) (by simp) ?_
 refine AllReadyH.cons (o := ⟨some 29, Op.call { callee := Callee.value (Operand.func 98), args := #[Operand.tmp 28], argTypes := #[139] }, 139, _, _, none⟩) rfl (fun K hK => ?_) AllReadyH.nil
 rw [if_pos (by rfl)]
 have how := own_any v _ w2.drew (HR2.out.below (Below.refl _ _).drew) (by have := HL2.out; omega)
 rw [← hvv.out] at how
 refine wp_callF 98 _ _ rfl Tryz.in98 #[.agg vv] (by simp [Act.eval]) (fun u wx => ∃ p3, u = .agg (vtx v.id.f v.ck p3) ∧ Fresh w2.drew wx p3 v.ps) (how.mono fun e w' ⟨p3, h1, h2⟩ => ⟨_, h1, p3, rfl, h2⟩) ?_
 clear how
 rintro _ w3 ⟨p3, rfl, hf⟩
 have HF3 := Keep.mk hf
 have B3 : Keep (Below w2.heap.size w2 w3) := ⟨belowT (Below.refl _ w2).drew hf.bel⟩
 have HX3 := Keep.mk (HX2.out.below B3.out HX2.out.lt)
 have HD3 := Keep.mk (HD2.out.below B3.out)
 have LB3 := Keep.mk (belowT LB2.out B3.out)
 obtain ⟨vq, hvq⟩ : ∃ a : Array Value, Keep (a = vtx v.id.f v.ck p3) := ⟨_, ⟨rfl⟩⟩
 rw [← hvq.out]
 refine hK _ _ ⟨HD3.out.blk.c 4 rfl, vtx_rng (hvv.out ▸ HX3.out), blk_rng HX3.out⟩ fun hH1 => ?_
 clear hK hf
 simp only [Act.put, pqA, pqB, pqC]
 refine wpAnyH_ready (rs := [8]) (by kernel_rfl) (by simp) ?_
 refine AllReadyH.cons (o := ⟨none, Op.mapUpdate 150 (Operand.tmp 25) (Operand.tmp 27) (Operand.tmp 29), 0, _, _, none⟩) rfl (fun K hK => ?_) AllReadyH.nil
 rw [if_pos (by rfl)]
 obtain ⟨w4, hr4, hm4, hg4⟩ := upd_new HD3.out.wait (HD3.out.av _ (.inr (.inr (.inl rfl)))) v HW.out p3 HF3.out.own.row fun k hk => ⟨HF3.out.own.lt k hk, fun ha => by have h1 : w2.heap.size ≤ k := HF3.out.new k hk; have := HD2.out.lt k ha; omega⟩
 rw [← hvq.out] at hr4
 refine wp_upd (Operand.tmp 25) (Operand.tmp 27) (Operand.tmp 29) rfl _ _ _ rfl rfl rfl w4 hr4 ?_
 have HX4 := Keep.mk (hg4.blk HX3.out fun e => HD3.out.wait.ne HX3.out e)
 have HD4 := Keep.mk (HD3.out.addWait hm4 hg4)
 have G4 : Keep (Grown w w4 (DgS d g)) := ⟨(Grown.below (S := DgS d g) LB3.out).next (T := fun k => k = g.wb) hg4 fun i _ e => e ▸ .inr (.inr (.inl rfl))⟩
 refine hK _ _ ⟨HD4.out.blk.c 4 rfl, vtx_rng (hvv.out ▸ HX4.out), blk_rng HX4.out⟩ fun hH2 => ?_
 clear hK hr4 hm4 hg4 hS0 HX3 HX2 HD3 HD2 HR2
 simp only [Act.put, pqA, pqB, pqC]
 refine wpAnyH_done (by kernel_rfl) ?_ _
 refine hK7 _ _ ?_
 refine wp_seq_k fun K8 hK8 => ?_
 have c5k : Keep (∀ wx, Below w4.heap.size w4 wx → (fun wx => True ∧ wx.rangeAt w.heap.size 0 (bytesA 32 v.id.f).toList ∧ wx.rangeAt w.heap.size 0 vv.toList) wx) := ⟨fun wx hb => ⟨trivial, vtx_rng (hvv.out ▸ HX4.out.below hb HX4.out.lt), blk_rng (HX4.out.below hb HX4.out.lt)⟩⟩
 have B2 : Keep (Below w4.heap.size w4 w4.drew) := ⟨(Below.refl _ _).drew⟩
 refine wp_region_held_drew (S := fun wx => True ∧ wx.rangeAt w.heap.size 0 (bytesA 32 v.id.f).toList ∧ wx.rangeAt w.heap.size 0 vv.toList) (by kernel_rfl) (c5k.out _ B2.out) (fun hHeld => ?_)
 refine tkS (i := 0) (oi := ⟨some 30, Op.move (Operand.tmp 0), 133, _, _, none⟩) (v := .pointer (some ⟨d, 0, none⟩)) rfl (Or.inl ⟨by rfl, fun w hS => by obtain ⟨hS1, hS2, hS3⟩ := hS; go_simp⟩) hHeld ?_
 refine tkS (i := 1) (oi := ⟨some 31, Op.move (Operand.tmp 0), 133, _, _, none⟩) (v := .pointer (some ⟨d, 0, none⟩)) rfl (Or.inl ⟨by rfl, fun w hS => by obtain ⟨hS1, hS2, hS3⟩ := hS; go_simp⟩) hHeld ?_
 refine tkS (i := 2) (oi := ⟨some 32, Op.nilCheck (Operand.tmp 31), 0, _, _, none⟩) (v := .pointer (some ⟨d, 0, none⟩)) rfl (Or.inl ⟨by rfl, fun w hS => by obtain ⟨hS1, hS2, hS3⟩ := hS; go_simp⟩) hHeld ?_
 refine tkS (i := 3) (oi := ⟨some 33, Op.fieldAddr 152 (Operand.tmp 32) 5, 0, _, _, none⟩) (v := .pointer (some ⟨d, 5, none⟩)) rfl (Or.inl ⟨by rfl, fun w hS => by obtain ⟨hS1, hS2, hS3⟩ := hS; go_simp⟩) hHeld ?_
 refine tkS (i := 5) (oi := ⟨some 35, Op.fieldAddr 139 (Operand.tmp 3) 0, 0, _, _, none⟩) (v := .pointer (some ⟨w.heap.size, 0, none⟩)) rfl (Or.inl ⟨by rfl, fun w hS => by obtain ⟨hS1, hS2, hS3⟩ := hS; go_simp⟩) hHeld ?_
 refine tkS (i := 6) (oi := ⟨some 36, Op.load 36 (Operand.tmp 35), 36, _, _, none⟩) (v := .agg (bytesA 32 v.id.f)) rfl (yieldsIf_ld (by rfl) (Operand.tmp 35) 36 rfl w.heap.size 0 rfl (bytesA 32 v.id.f) _ Tryz.underlying36 rfl (size36A _) fun w hS => hS.2.1) hHeld ?_
 refine wpAnyH_ready (rs := [4, 7]) (by kernel_rfl) (by simp) ?_
 refine AllReadyH.cons (o := ⟨some 34, Op.load 24 (Operand.tmp 33), 24, _, _, none⟩) rfl (fun K hK => ?_) (AllReadyH.cons (o := ⟨some 37, Op.buildSlice 24 1 #[(0, Operand.tmp 36)], 24, _, _, none⟩) rfl (fun K hK => ?_) AllReadyH.nil)
 all_goals rw [if_pos (by rfl)]
 ·have c_o : w4.drew.cell? ⟨d, 5, none⟩ = some (.slice qa g.queue.length qc) := by have h := (HD4.out.blk.below B2.out HD4.out.blk.lt).c 5 (by rfl : (dgA { g with wait := g.wait ++ [v] })[5]? = some g.qv); rw [Hqv.out] at h; exact h
  refine wp_val (.slice qa g.queue.length qc) (by go_simp) ?_
  clear c_o
  refine hK _ _ (c5k.out _ B2.out) fun hR1 => ?_
  clear hK
  simp only [Act.put, pqA, pqB, pqC]
  refine wpAnyH_ready (rs := [7]) (by kernel_rfl) (by simp) ?_
  refine AllReadyH.cons (o := ⟨some 37, Op.buildSlice 24 1 #[(0, Operand.tmp 36)], 24, _, _, none⟩) rfl (fun K hK => ?_) AllReadyH.nil
  rw [if_pos (by rfl)]
  refine wp_bs 24 1 _ rfl #[(0, .agg (bytesA 32 v.id.f))] (by simp [Act.eval]) _ _ (bsH v.id _) ?_
  have HGy := Keep.mk (Blk.new w4.drew 36 (bytesA 32 v.id.f))
  have BB2 := Keep.mk (belowT B2.out (below_new w4.drew (.cells (bytesA 32 v.id.f) 36)))
  generalize w4.drew.alloc (.cells (bytesA 32 v.id.f) 36) = wb2 at *
  generalize w4.drew.heap.size = gy at *
  refine hK _ _ (c5k.out _ BB2.out) fun hR2 => ?_
  clear hK
  simp only [Act.put, pqA, pqB, pqC]
  refine wpAnyH_ready (rs := [8]) (by kernel_rfl) (by simp) ?_
  refine AllReadyH.cons (o := ⟨some 38, Op.call { callee := Callee.builtin Builtin.append, args := #[Operand.tmp 34, Operand.tmp 37], argTypes := #[24, 24] }, 24, _, _, none⟩) rfl (fun K hK => ?_) AllReadyH.nil
  rw [if_pos (by rfl)]
  refine wp_apH (Operand.tmp 34) (Operand.tmp 37) rfl _ g.queue gy v.id rfl rfl (Hqv.out ▸ (HD4.out.below BB2.out).oq) HGy.out (by have := HQl.out; omega) fun v5 w5 h5 => ?_
  have HN5 := Keep.mk h5
  have HX5 := Keep.mk (h5.2.1.blk (HX4.out.below BB2.out HX4.out.lt) fun e => by have := (((HD4.out.below BB2.out).oq).typ (by show g.qv.ownBlock = _; rw [Hqv.out]; exact e)).one (HX4.out.below BB2.out HX4.out.lt).typ; revert this; decide)
  have HB5 := Keep.mk (h5.2.1.blk (HD4.out.below BB2.out).blk fun e => by have := (((HD4.out.below BB2.out).oq).typ (by show g.qv.ownBlock = _; rw [Hqv.out]; exact e)).one (HD4.out.below BB2.out).blk.typ; revert this; decide)
  refine hK _ _ ⟨trivial, vtx_rng (hvv.out ▸ HX5.out), blk_rng HX5.out⟩ fun hH5 => ?_
  obtain ⟨a5, c5, e5⟩ := h5.1.sl
  subst e5
  clear hK h5
  simp only [Act.put, pqA, pqB, pqC]
  refine tkS (i := 9) (oi := ⟨some 39, Op.nilCheck (Operand.tmp 30), 0, _, _, none⟩) (v := .pointer (some ⟨d, 0, none⟩)) rfl (Or.inl ⟨by rfl, fun w hS => by obtain ⟨hS1, hS2, hS3⟩ := hS; go_simp⟩) hH5 ?_
  refine tkS (i := 10) (oi := ⟨some 40, Op.fieldAddr 152 (Operand.tmp 39) 5, 0, _, _, none⟩) (v := .pointer (some ⟨d, 5, none⟩)) rfl (Or.inl ⟨by rfl, fun w hS => by obtain ⟨hS1, hS2, hS3⟩ := hS; go_simp⟩) hH5 ?_
  refine wpAnyH_ready (rs := [11]) (by kernel_rfl) (by simp) ?_
  refine AllReadyH.cons (o := ⟨none, Op.store 24 (Operand.tmp 40) (Operand.tmp 38), 0, _, _, none⟩) rfl (fun K hK => ?_) AllReadyH.nil
  rw [if_pos (by rfl)]
  have f_o := HB5.out.frozen 5
  have c_o : w5.cell? ⟨d, 5, none⟩ = some (.slice qa g.queue.length qc) := by have h := HB5.out.c 5 (by rfl : (dgA { g with wait := g.wait ++ [v] })[5]? = some g.qv); rw [Hqv.out] at h; exact h
  obtain ⟨n5, hn5⟩ : ∃ n, n = (g.queue ++ [v.id]).length := ⟨_, rfl⟩
  rw [← hn5] at HN5 ⊢
  refine wp_cellS (w5.setCell ⟨d, 5, none⟩ (.slice a5 n5 c5)) (by go_simp) ?_
  clear f_o c_o
  have HD6 := Keep.mk ((HD4.out.below BB2.out).setQ HN5.out.1 (by show Grown _ _ fun k => g.qv.ownBlock = some k; rw [Hqv.out]; exact HN5.out.2.1) (by show Moved _ g.qv _; rw [Hqv.out]; exact HN5.out.2.2))
  have HX6 := Keep.mk (HX5.out.set_ne (b' := d) (j := 5) (fun e => by subst e; have := HX5.out.typ.one HB5.out.typ; revert this; decide) (.slice a5 n5 c5))
  have G6 : Keep (Grown w (w5.setCell ⟨d, 5, none⟩ (.slice a5 n5 c5)) (DgS d g)) := ⟨((G4.out.trans (Grown.below BB2.out)).next HN5.out.2.1 fun i _ e => .inr (.inr (.inr (.inr (.inr (by rw [Hqv.out]; exact e)))))).next (Grown.setCell w5 d 5 _ (S := fun k => k = d) fun _ => rfl) fun i _ e => .inl e⟩
  have M6 : Keep (Moved w g.qv (.slice a5 n5 c5)) := ⟨by rw [Hqv.out]; exact HN5.out.2.2.imp id fun ⟨q, e, h⟩ => ⟨q, e, Nat.le_trans G4.out.size (Nat.le_trans BB2.out.size h)⟩⟩
  generalize w5.setCell ⟨d, 5, none⟩ (.slice a5 n5 c5) = w6 at *
  obtain ⟨v6, hv6⟩ : ∃ u : Value, u = .slice a5 n5 c5 := ⟨_, rfl⟩
  rw [← hv6] at HD6 M6
  refine hK _ _ ⟨trivial, vtx_rng (hvv.out ▸ HX6.out), blk_rng HX6.out⟩ fun hH6 => ?_
  rw [hn5]
  clear hK hH5 hH6 HB5 HX5 HN5 c5k hv6 hn5
  simp only [Act.put, pqA, pqB, pqC]
  refine wpAnyH_done (by kernel_rfl) ?_ _
  refine hK8 _ _ ?_
  refine rgn ?_
  refine VlS (.pointer (some ⟨d, 0, none⟩)) ?_
  have hsh := HSh.out w6 _ { { g with wait := g.wait ++ [v] } with qv := v6, queue := g.queue ++ [v.id] } HD6.out ⟨rfl, rfl, rfl, rfl, rfl, rfl⟩
  refine WL.callF (by kernel_rfl) 99 _ _ rfl Tryz.in99 #[ptr d] (by simp [Act.eval]) ?_
  refine (hsh).mono ?_
  rintro e w7 ⟨u7, g7, rfl, hs, hx, ho, hn⟩
  refine ⟨_, rfl, ?_⟩
  clear hsh
  have HS7 := Keep.mk hs
  have HX7 := Keep.mk hx
  have HO7 := Keep.mk ho
  have HN7 := Keep.mk hn
  clear hs hx ho hn
  simp only [Act.put, pqA, pqB, pqC]
  refine VlS (u7) ?_
  refine WL.nil (hK3 _ _ ?_)
  refine wp_seq_k fun K9 hK9 => rgn ?_
  refine VlS (.int .i64 3) ?_
  refine VlS (u7) ?_
  refine VlS (.int .i64 0) ?_
  refine VlS (.int .i64 3) ?_
  refine VlS (u7) ?_
  refine VlS (.int .i64 0) ?_
  refine WL.nil (hK9 _ _ ?_)
  refine wp_ret ?_
  go_ret3
  refine ⟨u7, g7, rfl, ⟨HS7.out.at'.avInto (fun k hk => hk.elim (fun e => .inl (.inl e)) .inr) (fun k hk => .inr hk), G6.out.next HS7.out.grown (fun i hi e => (DagAt.setQS (g := { g with wait := g.wait ++ [v] }) M6.out e).elim id fun h => by omega), fun k hk => (HS7.out.sub k hk).elim (fun h => DagAt.setQS (g := { g with wait := g.wait ++ [v] }) M6.out h) fun h => .inr (Nat.le_trans G6.out.size h)⟩, HX7.out, HO7.out, fun k hk => ⟨Nat.le_trans G6.out.size (HN7.out k hk).1, (HN7.out k hk).2⟩⟩
 ·refine wp_bs 24 1 _ rfl #[(0, .agg (bytesA 32 v.id.f))] (by simp [Act.eval]) _ _ (bsH v.id _) ?_
  have HGy := Keep.mk (Blk.new w4.drew 36 (bytesA 32 v.id.f))
  have BB1 := Keep.mk (belowT B2.out (below_new w4.drew (.cells (bytesA 32 v.id.f) 36)))
  generalize w4.drew.alloc (.cells (bytesA 32 v.id.f) 36) = wb1 at *
  generalize w4.drew.heap.size = gy at *
  refine hK _ _ (c5k.out _ BB1.out) fun hR1 => ?_
  clear hK
  simp only [Act.put, pqA, pqB, pqC]
  refine wpAnyH_ready (rs := [4]) (by kernel_rfl) (by simp) ?_
  refine AllReadyH.cons (o := ⟨some 34, Op.load 24 (Operand.tmp 33), 24, _, _, none⟩) rfl (fun K hK => ?_) AllReadyH.nil
  rw [if_pos (by rfl)]
  have c_o : wb1.cell? ⟨d, 5, none⟩ = some (.slice qa g.queue.length qc) := by have h := (HD4.out.blk.below BB1.out HD4.out.blk.lt).c 5 (by rfl : (dgA { g with wait := g.wait ++ [v] })[5]? = some g.qv); rw [Hqv.out] at h; exact h
  refine wp_val (.slice qa g.queue.length qc) (by go_simp) ?_
  clear c_o
  refine hK _ _ (c5k.out _ BB1.out) fun hR2 => ?_
  clear hK
  simp only [Act.put, pqA, pqB, pqC]
  refine wpAnyH_ready (rs := [8]) (by kernel_rfl) (by simp) ?_
  refine AllReadyH.cons (o := ⟨some 38, Op.call { callee := Callee.builtin Builtin.append, args := #[Operand.tmp 34, Operand.tmp 37], argTypes := #[24, 24] }, 24, _, _, none⟩) rfl (fun K hK => ?_) AllReadyH.nil
  rw [if_pos (by rfl)]
  refine wp_apH (Operand.tmp 34) (Operand.tmp 37) rfl _ g.queue gy v.id rfl rfl (Hqv.out ▸ (HD4.out.below BB1.out).oq) HGy.out (by have := HQl.out; omega) fun v5 w5 h5 => ?_
  have HN5 := Keep.mk h5
  have HX5 := Keep.mk (h5.2.1.blk (HX4.out.below BB1.out HX4.out.lt) fun e => by have := (((HD4.out.below BB1.out).oq).typ (by show g.qv.ownBlock = _; rw [Hqv.out]; exact e)).one (HX4.out.below BB1.out HX4.out.lt).typ; revert this; decide)
  have HB5 := Keep.mk (h5.2.1.blk (HD4.out.below BB1.out).blk fun e => by have := (((HD4.out.below BB1.out).oq).typ (by show g.qv.ownBlock = _; rw [Hqv.out]; exact e)).one (HD4.out.below BB1.out).blk.typ; revert this; decide)
  refine hK _ _ ⟨trivial, vtx_rng (hvv.out ▸ HX5.out), blk_rng HX5.out⟩ fun hH5 => ?_
  obtain ⟨a5, c5, e5⟩ := h5.1.sl
  subst e5
  clear hK h5
  simp only [Act.put, pqA, pqB, pqC]
  refine tkS (i := 9) (oi := ⟨some 39, Op.nilCheck (Operand.tmp 30), 0, _, _, none⟩) (v := .pointer (some ⟨d, 0, none⟩)) rfl (Or.inl ⟨by rfl, fun w hS => by obtain ⟨hS1, hS2, hS3⟩ := hS; go_simp⟩) hH5 ?_
  refine tkS (i := 10) (oi := ⟨some 40, Op.fieldAddr 152 (Operand.tmp 39) 5, 0, _, _, none⟩) (v := .pointer (some ⟨d, 5, none⟩)) rfl (Or.inl ⟨by rfl, fun w hS => by obtain ⟨hS1, hS2, hS3⟩ := hS; go_simp⟩) hH5 ?_
  refine wpAnyH_ready (rs := [11]) (by kernel_rfl) (by simp) ?_
  refine AllReadyH.cons (o := ⟨none, Op.store 24 (Operand.tmp 40) (Operand.tmp 38), 0, _, _, none⟩) rfl (fun K hK => ?_) AllReadyH.nil
  rw [if_pos (by rfl)]
  have f_o := HB5.out.frozen 5
  have c_o : w5.cell? ⟨d, 5, none⟩ = some (.slice qa g.queue.length qc) := by have h := HB5.out.c 5 (by rfl : (dgA { g with wait := g.wait ++ [v] })[5]? = some g.qv); rw [Hqv.out] at h; exact h
  obtain ⟨n5, hn5⟩ : ∃ n, n = (g.queue ++ [v.id]).length := ⟨_, rfl⟩
  rw [← hn5] at HN5 ⊢
  refine wp_cellS (w5.setCell ⟨d, 5, none⟩ (.slice a5 n5 c5)) (by go_simp) ?_
  clear f_o c_o
  have HD6 := Keep.mk ((HD4.out.below BB1.out).setQ HN5.out.1 (by show Grown _ _ fun k => g.qv.ownBlock = some k; rw [Hqv.out]; exact HN5.out.2.1) (by show Moved _ g.qv _; rw [Hqv.out]; exact HN5.out.2.2))
  have HX6 := Keep.mk (HX5.out.set_ne (b' := d) (j := 5) (fun e => by subst e; have := HX5.out.typ.one HB5.out.typ; revert this; decide) (.slice a5 n5 c5))
  have G6 : Keep (Grown w (w5.setCell ⟨d, 5, none⟩ (.slice a5 n5 c5)) (DgS d g)) := ⟨((G4.out.trans (Grown.below BB1.out)).next HN5.out.2.1 fun i _ e => .inr (.inr (.inr (.inr (.inr (by rw [Hqv.out]; exact e)))))).next (Grown.setCell w5 d 5 _ (S := fun k => k = d) fun _ => rfl) fun i _ e => .inl e⟩
  have M6 : Keep (Moved w g.qv (.slice a5 n5 c5)) := ⟨by rw [Hqv.out]; exact HN5.out.2.2.imp id fun ⟨q, e, h⟩ => ⟨q, e, Nat.le_trans G4.out.size (Nat.le_trans BB1.out.size h)⟩⟩
  generalize w5.setCell ⟨d, 5, none⟩ (.slice a5 n5 c5) = w6 at *
  obtain ⟨v6, hv6⟩ : ∃ u : Value, u = .slice a5 n5 c5 := ⟨_, rfl⟩
  rw [← hv6] at HD6 M6
  refine hK _ _ ⟨trivial, vtx_rng (hvv.out ▸ HX6.out), blk_rng HX6.out⟩ fun hH6 => ?_
  rw [hn5]
  clear hK hH5 hH6 HB5 HX5 HN5 c5k hv6 hn5
  simp only [Act.put, pqA, pqB, pqC]
  refine wpAnyH_done (by kernel_rfl) ?_ _
  refine hK8 _ _ ?_
  refine rgn ?_
  refine VlS (.pointer (some ⟨d, 0, none⟩)) ?_
  have hsh := HSh.out w6 _ { { g with wait := g.wait ++ [v] } with qv := v6, queue := g.queue ++ [v.id] } HD6.out ⟨rfl, rfl, rfl, rfl, rfl, rfl⟩
  refine WL.callF (by kernel_rfl) 99 _ _ rfl Tryz.in99 #[ptr d] (by simp [Act.eval]) ?_
  refine (hsh).mono ?_
  rintro e w7 ⟨u7, g7, rfl, hs, hx, ho, hn⟩
  refine ⟨_, rfl, ?_⟩
  clear hsh
  have HS7 := Keep.mk hs
  have HX7 := Keep.mk hx
  have HO7 := Keep.mk ho
  have HN7 := Keep.mk hn
  clear hs hx ho hn
  simp only [Act.put, pqA, pqB, pqC]
  refine VlS (u7) ?_
  refine WL.nil (hK3 _ _ ?_)
  refine wp_seq_k fun K10 hK10 => rgn ?_
  refine VlS (.int .i64 3) ?_
  refine VlS (u7) ?_
  refine VlS (.int .i64 0) ?_
  refine VlS (.int .i64 3) ?_
  refine VlS (u7) ?_
  refine VlS (.int .i64 0) ?_
  refine WL.nil (hK10 _ _ ?_)
  refine wp_ret ?_
  go_ret3
  refine ⟨u7, g7, rfl, ⟨HS7.out.at'.avInto (fun k hk => hk.elim (fun e => .inl (.inl e)) .inr) (fun k hk => .inr hk), G6.out.next HS7.out.grown (fun i hi e => (DagAt.setQS (g := { g with wait := g.wait ++ [v] }) M6.out e).elim id fun h => by omega), fun k hk => (HS7.out.sub k hk).elim (fun h => DagAt.setQS (g := { g with wait := g.wait ++ [v] }) M6.out h) fun h => .inr (Nat.le_trans G6.out.size h)⟩, HX7.out, HO7.out, fun k hk => ⟨Nat.le_trans G6.out.size (HN7.out k hk).1, (HN7.out k hk).2⟩⟩
theorem DI.ol {g : DG} (h : DI g) : g.order.length = g.held.length := by
 have hp : g.order.Perm (g.held.map (·.id)) := (List.perm_ext_iff_of_nodup h.oo.nd h.hn).2 fun x => by
  rw [h.om, hasB_iff, List.mem_map]
 rw [hp.length_eq, List.length_map]
theorem DI.hdl {g : DG} (h : DI g) : g.heads.length ≤ g.held.length := by
 have : g.heads ⊆ g.order := fun x hx => (h.om x).2 ((h.hm x).1 hx).1
 have := (pw_nodup h.hd).length_le_of_subset this
 rw [h.ol] at this; exact this
theorem DI.hM {g : DG} (h : DI g) : ∀ v ∈ g.held, 0 ≤ v.ck ∧ v.ck ≤ 4096 := fun v hv => by have := chk_ok (h.hc v hv); omega
theorem DI.wl {g : DG} (h : DI g) : g.wait.length ≤ 64 := by have := h.ql; have := h.room; omega
theorem DI.qlen {g : DG} (h : DI g) : g.queue.length = g.wait.length := by rw [h.q, List.length_map]
theorem take_any (d : Nat) (v : VX) (p : Value) (Av : Nat → Prop) (g : DG) (w : World) (hD : DagAt w Av d g) (hI : DI g) (hr : HRow w p v.ps) (hk : ∀ k, p.ownBlock = some k → k < w.heap.size ∧ ¬ Av k) (hF : hasB g.held v.id = false) (hc : chkV v = 0) :
  Calls Tryz.prog 97 #[ptr d, .agg (vtx v.id.f v.ck p)] w fun e w' => e = .returned (.tuple #[]) ∧ ∃ g', Ste w w' Av d g g' ∧ tookG g v g' := by
 have hv := chk_ok hc
 have hol := hI.ol
 have hhl := hI.hdl
 have hl := hI.hl
 have hfl : (g.heads.filter (outB v.ps)).length ≤ g.heads.length := List.length_filter_le _ _
 refine (take_gen d v p Av g w (plc v g.order g.order.length g.order.length) (insL g.order (plc v g.order g.order.length g.order.length) v.id) (g.heads.filter (outB v.ps)) (hdsOf g.heads v) hD hr hk (find_none hF) ?_ (insOk_any _ _ _ (plc_spec v g.order).1 (by omega)) (delOk_any _ _ (pw_inc hv.2.1) (by omega) (by omega)) (pw_inc (hI.hd.filter _)) (by omega) ?_).mono ?_
 ·intro w1 Av1 p1 g1 h1 h2 h3
  have := place_any d v p1 Av1 g1 w1 h1 h3 (pw_inc hv.2.1) (by omega) (by rw [h2]; omega)
  rw [h2] at this
  exact this
 ·intro i hi h1 h2
  unfold hdsOf
  rw [cnt_at hi h1 h2]
  exact insOk_any _ _ _ hi (by omega)
 ·rintro e w' ⟨h1, g', h2, h3⟩
  exact ⟨h1, g', h2, h3⟩
theorem fit_cases (l m : List VX) (v : VX) :
  ((hasB l v.id = true ∨ hasB m v.id = true) ∧ fitV l m v = (1, 0)) ∨ (hasB l v.id = false ∧ hasB m v.id = false ∧ chkV v ≠ 0 ∧ fitV l m v = (0, chkV v)) ∨
  (hasB l v.id = false ∧ hasB m v.id = false ∧ chkV v = 0 ∧ v.ps.all (hasB l) = false ∧ fitV l m v = (3, 0)) ∨ (hasB l v.id = false ∧ hasB m v.id = false ∧ chkV v = 0 ∧ v.ps.all (hasB l) = true ∧ nextE l v ≠ 0 ∧ fitV l m v = (0, nextE l v)) ∨
  (hasB l v.id = false ∧ hasB m v.id = false ∧ chkV v = 0 ∧ v.ps.all (hasB l) = true ∧ nextE l v = 0 ∧ fitV l m v = (2, 0)) := by
 unfold fitV
 by_cases h1 : hasB l v.id = true ∨ hasB m v.id = true
 ·rw [if_pos h1]; exact .inl ⟨h1, rfl⟩
 ·rw [if_neg h1]
  rw [not_or, Bool.not_eq_true, Bool.not_eq_true] at h1
  by_cases h2 : chkV v ≠ 0
  ·rw [if_pos h2]; exact .inr (.inl ⟨h1.1, h1.2, h2, rfl⟩)
  ·rw [if_neg h2]
   have h2 := Classical.not_not.1 h2
   by_cases h3 : v.ps.all (hasB l) = false
   ·rw [if_pos h3]; exact .inr (.inr (.inl ⟨h1.1, h1.2, h2, h3, rfl⟩))
   ·rw [if_neg h3]
    have h3 : v.ps.all (hasB l) = true := by simpa using h3
    by_cases h4 : nextE l v ≠ 0
    ·rw [if_pos h4]; exact .inr (.inr (.inr (.inl ⟨h1.1, h1.2, h2, h3, h4, rfl⟩)))
    ·rw [if_neg h4]; exact .inr (.inr (.inr (.inr ⟨h1.1, h1.2, h2, h3, Classical.not_not.1 h4, rfl⟩)))
def addG (g : DG) (v : VX) (ol : List Hs) (g' : DG) : Prop :=
 (fitV g.held g.wait v = (2, 0) ∧ tookG g v g' ∧ ol = []) ∨
 (fitV g.held g.wait v = (3, 0) ∧ (g.wait.length : Int) + 1 ≤ g.room ∧ (g'.room = g.room ∧ g'.held = g.held ∧ g'.wait = g.wait ++ [v] ∧ g'.order = g.order ∧ g'.heads = g.heads) ∧ ol = []) ∨
 (fitV g.held g.wait v = (3, 0) ∧ g.room < (g.wait.length : Int) + 1 ∧ ∃ v0, g.wait ++ [v] = v0 :: g'.wait ∧ (g'.room = g.room ∧ g'.held = g.held ∧ g'.order = g.order ∧ g'.heads = g.heads) ∧ ol = [v0.id]) ∨
 ((fitV g.held g.wait v).1 ≠ 2 ∧ (fitV g.held g.wait v).1 ≠ 3 ∧ g' = g ∧ ol = [])
theorem all_iff {l : List VX} {ps : List Hs} : ps.all (hasB l) = true ↔ ∀ p ∈ ps, hasB l p = true := List.all_eq_true
theorem DI.sheds {g g' : DG} {v v0 : VX} (h : DI g) (hc : chkV v = 0) (h1 : hasB g.held v.id = false) (h2 : hasB g.wait v.id = false) (hw : g.wait ++ [v] = v0 :: g'.wait) (hq : g'.queue = g'.wait.map (·.id)) (t : g'.room = g.room ∧ g'.held = g.held ∧ g'.order = g.order ∧ g'.heads = g.heads) : DI g' := by
 obtain ⟨e1, e2, e5, e6⟩ := t
 have hmem : ∀ u ∈ g'.wait, u ∈ g.wait ∨ u = v := fun u hu => by
  have : u ∈ g.wait ++ [v] := by rw [hw]; exact List.mem_cons_of_mem _ hu
  rcases List.mem_append.1 this with h | h
  ·exact .inl h
  ·exact .inr (List.mem_singleton.1 h)
 have hlen : g'.wait.length = g.wait.length := by
  have := congrArg List.length hw
  simp only [List.length_append, List.length_cons, List.length_nil] at this
  omega
 have hnd : ((g.wait ++ [v]).map (·.id)).Nodup := by
  rw [List.map_append, List.nodup_append]
  refine ⟨h.wn, by simp, fun a ha b hb => ?_⟩
  simp only [List.map_cons, List.map_nil, List.mem_singleton] at hb
  subst hb
  obtain ⟨u, hu, rfl⟩ := List.mem_map.1 ha
  exact hasB_no.1 h2 u hu
 refine ⟨by rw [e1]; exact h.room, by rw [e2]; exact h.hl, by rw [e2]; exact h.hn, ?_, ?_, by rw [e2]; exact h.hc, ?_, hq, by rw [hlen, e1]; exact h.ql, by rw [e2]; exact h.ck, by rw [e2]; exact h.cl, by rw [e5, e2]; exact h.om, by rw [e5, e2]; exact h.oo, by rw [e6]; exact h.hd, by rw [e6, e2]; exact h.hm⟩
 ·rw [hw, List.map_cons, List.nodup_cons] at hnd; exact hnd.2
 ·rw [e2]
  intro u hu
  rcases hmem u hu with hu | rfl
  ·exact h.dj u hu
  ·exact h1
 ·intro u hu
  rcases hmem u hu with hu | rfl
  ·exact h.wc u hu
  ·exact hc
theorem add_any (d : Nat) (v : VX) (p : Value) (Av : Nat → Prop) (g : DG) (w : World) (hD : DagAt w Av d g) (hI : DI g) (hr : HRow w p v.ps) (hL : (v.ps.length : Int) ≤ 9223372036854775806) :
  Calls Tryz.prog 79 #[ptr d, .agg (vtx v.id.f v.ck p)] w fun e w' => ∃ u g' ol, e = .returned (.tuple #[.int .i64 (fitV g.held g.wait v).1, u, .int .i64 (fitV g.held g.wait v).2]) ∧ Ste w w' Av d g g' ∧ DI g' ∧ addG g v ol g' ∧ OwnH w' u ol ∧ (∀ k, u.ownBlock = some k → w.heap.size ≤ k ∧ ¬ DgS d g' k) := by
 have hql := hI.qlen
 have hwl := hI.wl
 have hother : ∀ hw ee, fitV g.held g.wait v = (hw, ee) → ¬ hw = 2 → ¬ hw = 3 → Calls Tryz.prog 79 #[ptr d, .agg (vtx v.id.f v.ck p)] w fun e w' => ∃ u g' ol, e = .returned (.tuple #[.int .i64 (fitV g.held g.wait v).1, u, .int .i64 (fitV g.held g.wait v).2]) ∧ Ste w w' Av d g g' ∧ DI g' ∧ addG g v ol g' ∧ OwnH w' u ol ∧ (∀ k, u.ownBlock = some k → w.heap.size ≤ k ∧ ¬ DgS d g' k) := by
  intro hw ee hf h1 h2
  refine (add_other d v p Av g w hw ee hD hr hI.hM hL hf ⟨h1, h2⟩).mono ?_
  rintro e w' ⟨rfl, hb⟩
  rw [hf]
  exact ⟨_, g, [], rfl, Ste.refl hD hb, hI, .inr (.inr (.inr ⟨by rw [hf]; exact h1, by rw [hf]; exact h2, rfl, rfl⟩)), ownH_nil _, fun k hk => by cases hk⟩
 rcases fit_cases g.held g.wait v with ⟨_, hf⟩ | ⟨_, _, _, hf⟩ | ⟨h1, h2, h3, h4, hf⟩ | ⟨_, _, _, _, _, hf⟩ | ⟨h1, h2, h3, h4, h5, hf⟩
 ·exact hother _ _ hf (by decide) (by decide)
 ·exact hother _ _ hf (by decide) (by decide)
 ·have hv := chk_ok h3
  by_cases hroom : (g.wait.length : Int) + 1 ≤ g.room
  ·refine (add_waits d v p Av g w hD hr hI.hM hL (by omega) hf (find_none h2) (by rw [hql]; exact hroom) (by omega)).mono ?_
   rintro e w' ⟨rfl, g', hs, hg⟩
   rw [hf]
   exact ⟨_, g', [], rfl, hs, hI.waits h3 h1 h2 hroom hg, .inr (.inl ⟨hf, hroom, ⟨hg.1, hg.2.1, hg.2.2.1, hg.2.2.2.2⟩, rfl⟩), ownH_nil _, fun k hk => by cases hk⟩
  ·have hre : g.room = (g.wait.length : Int) := by have := hI.ql; omega
   obtain ⟨v0, r, hvr⟩ : ∃ v0 r, g.wait ++ [v] = v0 :: r := by cases hg : g.wait with
    | nil => exact ⟨v, [], rfl⟩
    | cons a b => exact ⟨a, b ++ [v], rfl⟩
   have hrl : r.length = g.wait.length := by
    have := congrArg List.length hvr
    simp only [List.length_append, List.length_cons, List.length_nil] at this
    omega
   refine (add_waitsG d v p Av g w (fun g' => g'.room = g.room ∧ g'.held = g.held ∧ g'.wait = r ∧ g'.queue = r.map (·.id) ∧ g'.order = g.order ∧ g'.heads = g.heads) [v0.id] hD hr hI.hM hL (by omega) hf (find_none h2) (by omega) ?_).mono ?_
   ·rintro w1 Av1 g1 hD1 ⟨e1, e2, e3, e4, e5, e6⟩
    refine (shed_one d v0 r Av1 g1 w1 hD1 (by rw [e4, e3, hI.q, List.map_append]; rfl) (by rw [e3, hvr]) (by rw [e1, hre, hrl]) (by rw [e4, List.length_append]; simp; omega)).mono ?_
    rintro e w' ⟨u, g', rfl, hs, ⟨f1, f2, f3, f4, f5, f6⟩, ho, hn⟩
    exact ⟨u, g', rfl, hs, ⟨f1.trans e1, f2.trans e2, f3, f4, f5.trans e5, f6.trans e6⟩, ho, hn⟩
   ·rintro e w' ⟨u, g', rfl, hs, ⟨f1, f2, f3, f4, f5, f6⟩, ho, hn⟩
    rw [hf]
    exact ⟨u, g', [v0.id], rfl, hs, hI.sheds h3 h1 h2 (by rw [f3]; exact hvr) (by rw [f3, f4]) ⟨f1, f2, f5, f6⟩, .inr (.inr (.inl ⟨hf, by omega, v0, by rw [f3]; exact hvr, ⟨f1, f2, f5, f6⟩, rfl⟩)), ho, hn⟩
 ·exact hother _ _ hf (by decide) (by decide)
 ·have hv := chk_ok h3
  refine (add_took d v p Av g w (tookG g v) hD hr hI.hM hL (by omega) hf ?_).mono ?_
  ·intro w1 p1 h6 h7 h8
   exact take_any d v p1 Av g w1 h6 hI h7 h8 h1 h3
  ·rintro e w' ⟨rfl, g', hs, ht⟩
   rw [hf]
   exact ⟨_, g', [], rfl, hs, hI.took h3 h1 h2 (all_iff.1 h4) h5 ht, .inl ⟨hf, ht, rfl⟩, ownH_nil _, fun k hk => by cases hk⟩
structure DS (B : Nat) (w : World) (d : Nat) (g : DG) : Prop where
 at' : DagAt w (DgS d g) d g
 di : DI g
 lo : ∀ k, DgS d g k → B ≤ k
theorem DS.below {B : Nat} {w w' : World} {d : Nat} {g : DG} (h : DS B w d g) (hb : Below w.heap.size w w') : DS B w' d g := ⟨h.at'.below hb, h.di, h.lo⟩
theorem new_ds (r : Int) (w : World) : Calls Tryz.prog 78 #[.int .i64 r] w fun e w' =>
  ((r < 0 ∨ 64 < r) ∧ e = .returned (.tuple #[.pointer none, .int .i64 1]) ∧ Below w.heap.size w w') ∨ (0 ≤ r ∧ r ≤ 64 ∧ ∃ d g, e = .returned (.tuple #[.pointer (some ⟨d, 0, none⟩), .int .i64 0]) ∧ DS w.heap.size w' d g ∧ Below w.heap.size w w' ∧ g.room = r ∧ g.held = [] ∧ g.wait = [] ∧ g.order = [] ∧ g.heads = []) := by
 refine (new_any r w).mono ?_
 rintro e w' (⟨h, rfl, rfl⟩ | ⟨h, d, g, rfl, hD, h1, h2, h3, h4, h5, h6, hB, hl⟩)
 ·exact .inl ⟨h, rfl, Below.refl _ _⟩
 ·refine .inr ⟨by omega, by omega, d, g, rfl, ⟨hD, ?_, hl⟩, hB, h1, h2, h3, h5, h4⟩
  refine ⟨by rw [h1]; omega, by rw [h2]; simp, by rw [h2]; simp, by rw [h3]; simp, by rw [h3]; simp, by rw [h2]; simp, by rw [h3]; simp, by rw [h6, h3]; rfl, by rw [h3, h1]; simp; omega, by rw [h2]; simp, by rw [h2]; simp, by rw [h5, h2]; simp [hasB], ?_, by rw [h4]; simp, by rw [h4, h2]; simp [hasB]⟩
  rw [h5]
  exact ⟨List.nodup_nil, by simp, by simp, by simp⟩
theorem Tryz.in59 (w : World) (vs : Array Value) : (callFunc 59 vs).run Tryz.prog w = .ok (.enter 59 vs) w := by kernel_rfl
def wdV (W : List Nat) : List Value := W.map fun n : Nat => .int .u64 (n : Int)
theorem wdV_get (W : List Nat) (i : Nat) (h : i < W.length) : (wdV W)[i]? = some (.int .u64 ((W.getD i 0 : Nat) : Int)) := by
 simp [wdV, h, List.getD]
theorem wdV_set (W : List Nat) (t n : Nat) : (wdV W).set t (.int .u64 (n : Int)) = wdV (W.set t n) := by simp [wdV, List.map_set]
def Wds (W : List Nat) : Prop := ∀ i, W.getD i 0 < 18446744073709551616
theorem wd_cell {w : World} {g i : Nat} {W : List Nat} (h : Blk w g 93 (wdV W).toArray) (hi : i < W.length) : w.cell? ⟨g, i, none⟩ = some (.int .u64 ((W.getD i 0 : Nat) : Int)) := by
 rw [h.cell]
 have := wdV_get W i hi
 simpa using this
def joinW (W O : List Nat) : List Nat := (List.range W.length).map fun k => W.getD k 0 ||| O.getD k 0
theorem joinW_len (W O : List Nat) : (joinW W O).length = W.length := by simp [joinW]
theorem joinW_get (W O : List Nat) (i : Nat) (hi : i < W.length) : (joinW W O).getD i 0 = W.getD i 0 ||| O.getD i 0 := by
 simp [joinW, List.getD_eq_getElem?_getD, hi]
theorem joinW_nil (W : List Nat) : joinW W [] = W := by
 apply List.ext_getElem (by simp [joinW])
 intro i h1 h2
 simp [joinW, List.getD_eq_getElem?_getD, h2]
theorem joinW_next (W O : List Nat) (t : Nat) (ht : t < O.length) (hw : O.length ≤ W.length) : (joinW W (O.take t)).set t (W.getD t 0 ||| O.getD t 0) = joinW W (O.take (t + 1)) := by
 apply List.ext_getElem (by simp [joinW])
 intro i h1 h2
 rw [List.getElem_set]
 simp only [joinW, List.getElem_map, List.getElem_range, List.getD_eq_getElem?_getD, List.getElem?_take]
 by_cases e : t = i
 ·subst e; simp
 ·rw [if_neg e]
  by_cases h : i < t
  ·rw [if_pos h, if_pos (by omega)]
  ·rw [if_neg h, if_neg (by omega)]
theorem Wds.join {W O : List Nat} (h : Wds W) (k : Wds O) : Wds (joinW W O) := fun i => by
 by_cases hi : i < W.length
 ·rw [joinW_get W O i hi]
  exact Nat.or_lt_two_pow (n := 64) (h i) (k i)
 ·rw [List.getD_eq_getElem?_getD, List.getElem?_eq_none (by rw [joinW_len]; omega)]; decide
set_option maxRecDepth 8000 in
set_option maxHeartbeats 1000000 in
theorem join_any (g h : Nat) (W O : List Nat) (w : World) (hW : Blk w g 93 (wdV W).toArray) (hO : Blk w h 93 (wdV O).toArray) (hgh : g ≠ h) (hl : O.length ≤ W.length) (hw : W.length ≤ 1000000) (hWw : Wds W) (hWo : Wds O) : Calls Tryz.prog 59 #[.slice (some ⟨g, 0, none⟩) W.length W.length, .slice (some ⟨h, 0, none⟩) O.length O.length] w fun e w' => e = .returned (.tuple #[]) ∧ Blk w' g 93 (wdV (joinW W O)).toArray ∧ Grown w w' fun k => k = g := by
 have HW := Keep.mk hW
 have HO := Keep.mk hO
 have Hgh := Keep.mk hgh
 have Hl := Keep.mk hl
 have Hw := Keep.mk hw
 have HWw := Keep.mk hWw
 have HWo := Keep.mk hWo
 clear hW hO hgh hl hw hWw hWo
 go_enter Tryz.func59, Tryz.ntmps59
 refine wp_seq_k fun K1 hK1 => rgn ?_
 refine VlS (.slice (some ⟨h, 0, none⟩) O.length O.length) ?_
 refine VlS (.int .i64 (O.length : Int)) ?_
 refine VlS (.int .i64 0) ?_
 refine WL.nil (hK1 _ _ ?_)
 refine wp_block ?_
 refine wp_loop (fun ac wr => ∃ (t : Nat) (u4 u5 u9 u10 u11 u12 u13 u14 u15 u16 u17 u18 u19 u20 : Value), ac = { tmps := #[.slice (some ⟨g, 0, none⟩) W.length W.length, .slice (some ⟨h, 0, none⟩) O.length O.length, undef, undef, u4, u5, .slice (some ⟨h, 0, none⟩) O.length O.length, .int .i64 (O.length : Int), .int .i64 (t : Int), u9, u10, u11, u12, u13, u14, u15, u16, u17, u18, u19, u20], defers := [] } ∧ t ≤ O.length ∧ Blk wr g 93 (wdV (joinW W (O.take t))).toArray ∧ Grown w wr fun k => k = g) (fun a _ => O.length - (intOf (a.tmps.getD 8 undef)).toNat) ⟨0, undef, undef, undef, undef, undef, undef, undef, undef, undef, undef, undef, undef, undef, undef, rfl, by omega, (by rw [List.take_zero, joinW_nil]; exact HW.out), Grown.refl _ _⟩ ?_
 rintro ac wr ⟨t, u4, u5, u9, u10, u11, u12, u13, u14, u15, u16, u17, u18, u19, u20, rfl, ht, hB, hG⟩
 have JB := Keep.mk hB
 have JG := Keep.mk hG
 clear hB hG
 have HO' := Keep.mk (JG.out.blk HO.out (Ne.symm Hgh.out))
 by_cases htl : t < O.length
 ·have htl' : (t : Int) < (O.length : Int) := by omega
  have ht0 : (0 : Int) ≤ (t : Int) := by omega
  have htw : t < W.length := by have := Hl.out; omega
  have htw' : (t : Int) < (W.length : Int) := by omega
  have hwt : IntKind.i64.wrap ((t : Int) + 1) = ((t + 1 : Nat) : Int) := by rw [IntKind.wrap_i64]; have := Hw.out; omega
  obtain ⟨a, ha⟩ : ∃ a, Keep (W.getD t 0 = a) := ⟨_, ⟨rfl⟩⟩
  obtain ⟨b, hb⟩ : ∃ b, Keep (O.getD t 0 = b) := ⟨_, ⟨rfl⟩⟩
  have c1 : wr.cell? ⟨h, t, none⟩ = some (.int .u64 (b : Int)) := by rw [wd_cell HO'.out htl, hb.out]
  have c2 : wr.cell? ⟨g, t, none⟩ = some (.int .u64 (a : Int)) := by rw [wd_cell JB.out (by rw [joinW_len]; exact htw), joinW_get _ _ _ htw, ha.out, show (O.take t).getD t 0 = 0 from by rw [List.getD_eq_getElem?_getD, List.getElem?_take, if_neg (Nat.lt_irrefl t)]; rfl, Nat.or_zero]
  have f2 := JB.out.frozen t
  have hor : bits .or .u64 (a : Int) (b : Int) = ((a ||| b : Nat) : Int) := u64_or_nat a b (by rw [← ha.out]; exact HWw.out t) (by rw [← hb.out]; exact HWo.out t)
  refine wp_seq_k fun K2 hK2 => rgn ?_
  refine VbT ?_
  refine WL.nil (hK2 _ _ ?_)
  refine wp_seq_k fun K3 hK3 => ?_
  refine wp_cond_true rfl ?_
  refine wp_skip ?_
  refine hK3 _ _ ?_
  refine wp_seq_k fun K4 hK4 => ?_
  refine wp_block ?_
  refine wp_seq_k fun K5 hK5 => rgn ?_
  refine VlS (.int .i64 (t : Int)) ?_
  refine VlS (.pointer (some ⟨h, t, none⟩)) ?_
  refine VlS (.int .u64 (b : Int)) ?_
  refine VlS (.int .i64 (t : Int)) ?_
  refine VlS (.int .u64 (b : Int)) ?_
  refine WL.nil (hK5 _ _ ?_)
  refine rgn ?_
  refine VlS (.slice (some ⟨g, 0, none⟩) W.length W.length) ?_
  refine VlS (.int .i64 (t : Int)) ?_
  refine VlS (.pointer (some ⟨g, t, none⟩)) ?_
  refine VlS (.int .u64 (a : Int)) ?_
  refine VlS (.int .u64 (b : Int)) ?_
  refine VlS (.int .u64 ((a ||| b : Nat) : Int)) ?_
  refine VlS (.pointer (some ⟨g, t, none⟩)) ?_
  refine WL.cell (by kernel_rfl) (wr.setCell ⟨g, t, none⟩ (.int .u64 ((a ||| b : Nat) : Int))) (by go_simp) ?_
  clear c1 c2 f2
  simp only [Act.put]
  refine WL.nil (hK4 _ _ ?_)
  refine rgn ?_
  refine VlS (.int .i64 ((t + 1 : Nat) : Int)) ?_
  refine VlS (.int .i64 ((t + 1 : Nat) : Int)) ?_
  refine WL.nil ?_
  refine ⟨⟨t + 1, .int .i64 (t : Int), .int .u64 (b : Int), .bool true, .int .i64 (t : Int), .pointer (some ⟨h, t, none⟩), .int .u64 (b : Int), .slice (some ⟨g, 0, none⟩) W.length W.length, .int .i64 (t : Int), .pointer (some ⟨g, t, none⟩), .int .u64 (a : Int), .int .u64 (b : Int), .int .u64 ((a ||| b : Nat) : Int), .pointer (some ⟨g, t, none⟩), .int .i64 ((t + 1 : Nat) : Int), rfl, by omega, ?_, JG.out.trans (Grown.setCell _ _ _ _ fun _ => rfl)⟩, ?_⟩
  ·have h1 := JB.out.set t (.int .u64 ((a ||| b : Nat) : Int))
   have h2 := joinW_next W O t htl Hl.out
   rw [ha.out, hb.out] at h2
   rw [List.setIfInBounds_toArray, wdV_set, h2] at h1
   exact h1
  ·simp only [intOf]; show O.length - (((t + 1 : Nat) : Int)).toNat < O.length - ((t : Int)).toNat; omega
 ·have htl' : ¬ (t : Int) < (O.length : Int) := by omega
  have hte : t = O.length := by omega
  refine wp_seq_k fun K6 hK6 => rgn ?_
  refine VbF ?_
  refine WL.nil (hK6 _ _ ?_)
  refine wp_seq_k fun K7 hK7 => ?_
  refine wp_cond_false rfl ?_
  refine wp_exit ?_
  simp only [Exit.inBlock, Exit.then, eq_self, if_true]
  go_end0
  refine ⟨rfl, ?_, JG.out⟩
  have h1 := JB.out
  rw [hte, List.take_length] at h1
  exact h1
theorem Tryz.in55 (w : World) (vs : Array Value) : (callFunc 55 vs).run Tryz.prog w = .ok (.enter 55 vs) w := by kernel_rfl
theorem Tryz.in67 (w : World) (vs : Array Value) : (callFunc 67 vs).run Tryz.prog w = .ok (.enter 67 vs) w := by kernel_rfl
def zipW (f : Nat → Nat → Nat) (W O : List Nat) (t : Nat) : List Nat := (List.range W.length).map fun k => if k < t then f (W.getD k 0) (O.getD k 0) else W.getD k 0
theorem zipW_len (f : Nat → Nat → Nat) (W O : List Nat) (t : Nat) : (zipW f W O t).length = W.length := by simp [zipW]
theorem zipW_get (f : Nat → Nat → Nat) (W O : List Nat) (t i : Nat) (hi : i < W.length) : (zipW f W O t).getD i 0 = if i < t then f (W.getD i 0) (O.getD i 0) else W.getD i 0 := by
 simp [zipW, List.getD_eq_getElem?_getD, hi]
theorem zipW_zero (f : Nat → Nat → Nat) (W O : List Nat) : zipW f W O 0 = W := by
 apply List.ext_getElem (by simp [zipW])
 intro i h1 h2
 simp [zipW, List.getD_eq_getElem?_getD, h2]
theorem zipW_next (f : Nat → Nat → Nat) (W O : List Nat) (t : Nat) : (zipW f W O t).set t (f (W.getD t 0) (O.getD t 0)) = zipW f W O (t + 1) := by
 apply List.ext_getElem (by simp [zipW])
 intro i h1 h2
 rw [List.getElem_set]
 simp only [zipW, List.getElem_map, List.getElem_range]
 by_cases e : t = i
 ·subst e; simp
 ·rw [if_neg e]
  by_cases h : i < t
  ·rw [if_pos h, if_pos (by omega)]
  ·rw [if_neg h, if_neg (by omega)]
def andW (a b : Nat) : Nat := a &&& b
def notW (a b : Nat) : Nat := a &&& (18446744073709551615 - b)
theorem Wds.zip {f : Nat → Nat → Nat} {W O : List Nat} {t : Nat} (h : Wds W) (hf : ∀ a b, a < 18446744073709551616 → f a b < 18446744073709551616) : Wds (zipW f W O t) := fun i => by
 by_cases hi : i < W.length
 ·rw [zipW_get f W O t i hi]
  split
  ·exact hf _ _ (h i)
  ·exact h i
 ·rw [List.getD_eq_getElem?_getD, List.getElem?_eq_none (by rw [zipW_len]; omega)]; decide
theorem andW_lt (a b : Nat) (h : a < 18446744073709551616) : andW a b < 18446744073709551616 := Nat.lt_of_le_of_lt Nat.and_le_left h
theorem notW_lt (a b : Nat) (h : a < 18446744073709551616) : notW a b < 18446744073709551616 := Nat.lt_of_le_of_lt Nat.and_le_left h
set_option maxRecDepth 8000 in
set_option maxHeartbeats 1000000 in
theorem meet_any (g h : Nat) (W O : List Nat) (w : World) (hW : Blk w g 93 (wdV W).toArray) (hO : Blk w h 93 (wdV O).toArray) (hgh : g ≠ h) (hl : O.length ≤ W.length) (hw : W.length ≤ 1000000) (hWw : Wds W) (hWo : Wds O) : Calls Tryz.prog 55 #[.slice (some ⟨g, 0, none⟩) W.length W.length, .slice (some ⟨h, 0, none⟩) O.length O.length] w fun e w' => e = .returned (.tuple #[]) ∧ Blk w' g 93 (wdV (zipW andW W O O.length)).toArray ∧ Grown w w' fun k => k = g := by
 have HW := Keep.mk hW
 have HO := Keep.mk hO
 have Hgh := Keep.mk hgh
 have Hl := Keep.mk hl
 have Hw := Keep.mk hw
 have HWw := Keep.mk hWw
 have HWo := Keep.mk hWo
 clear hW hO hgh hl hw hWw hWo
 go_enter Tryz.func55, Tryz.ntmps55
 refine wp_seq_k fun K1 hK1 => rgn ?_
 refine VlS (.slice (some ⟨h, 0, none⟩) O.length O.length) ?_
 refine VlS (.int .i64 (O.length : Int)) ?_
 refine VlS (.int .i64 0) ?_
 refine WL.nil (hK1 _ _ ?_)
 refine wp_block ?_
 refine wp_loop (fun ac wr => ∃ (t : Nat) (u4 u5 u9 u10 u11 u12 u13 u14 u15 u16 u17 u18 u19 u20 : Value), ac = { tmps := #[.slice (some ⟨g, 0, none⟩) W.length W.length, .slice (some ⟨h, 0, none⟩) O.length O.length, undef, undef, u4, u5, .slice (some ⟨h, 0, none⟩) O.length O.length, .int .i64 (O.length : Int), .int .i64 (t : Int), u9, u10, u11, u12, u13, u14, u15, u16, u17, u18, u19, u20], defers := [] } ∧ t ≤ O.length ∧ Blk wr g 93 (wdV (zipW andW W O t)).toArray ∧ Grown w wr fun k => k = g) (fun a _ => O.length - (intOf (a.tmps.getD 8 undef)).toNat) ⟨0, undef, undef, undef, undef, undef, undef, undef, undef, undef, undef, undef, undef, undef, undef, rfl, by omega, (by rw [zipW_zero]; exact HW.out), Grown.refl _ _⟩ ?_
 rintro ac wr ⟨t, u4, u5, u9, u10, u11, u12, u13, u14, u15, u16, u17, u18, u19, u20, rfl, ht, hB, hG⟩
 have JB := Keep.mk hB
 have JG := Keep.mk hG
 clear hB hG
 have HO' := Keep.mk (JG.out.blk HO.out (Ne.symm Hgh.out))
 by_cases htl : t < O.length
 ·have htl' : (t : Int) < (O.length : Int) := by omega
  have ht0 : (0 : Int) ≤ (t : Int) := by omega
  have htw : t < W.length := by have := Hl.out; omega
  have htw' : (t : Int) < (W.length : Int) := by omega
  have hwt : IntKind.i64.wrap ((t : Int) + 1) = ((t + 1 : Nat) : Int) := by rw [IntKind.wrap_i64]; have := Hw.out; omega
  obtain ⟨a, ha⟩ : ∃ a, Keep (W.getD t 0 = a) := ⟨_, ⟨rfl⟩⟩
  obtain ⟨b, hb⟩ : ∃ b, Keep (O.getD t 0 = b) := ⟨_, ⟨rfl⟩⟩
  have c1 : wr.cell? ⟨h, t, none⟩ = some (.int .u64 (b : Int)) := by rw [wd_cell HO'.out htl, hb.out]
  have c2 : wr.cell? ⟨g, t, none⟩ = some (.int .u64 (a : Int)) := by rw [wd_cell JB.out (by rw [zipW_len]; exact htw), zipW_get _ _ _ _ _ htw, if_neg (Nat.lt_irrefl t), ha.out]
  have f2 := JB.out.frozen t
  have hor : bits .and .u64 (a : Int) (b : Int) = ((andW a b : Nat) : Int) := u64_and_nat a b (by rw [← ha.out]; exact HWw.out t) (by rw [← hb.out]; exact HWo.out t)
  refine wp_seq_k fun K2 hK2 => rgn ?_
  refine VbT ?_
  refine WL.nil (hK2 _ _ ?_)
  refine wp_seq_k fun K3 hK3 => ?_
  refine wp_cond_true rfl ?_
  refine wp_skip ?_
  refine hK3 _ _ ?_
  refine wp_seq_k fun K4 hK4 => ?_
  refine wp_block ?_
  refine wp_seq_k fun K5 hK5 => rgn ?_
  refine VlS (.int .i64 (t : Int)) ?_
  refine VlS (.pointer (some ⟨h, t, none⟩)) ?_
  refine VlS (.int .u64 (b : Int)) ?_
  refine VlS (.int .i64 (t : Int)) ?_
  refine VlS (.int .u64 (b : Int)) ?_
  refine WL.nil (hK5 _ _ ?_)
  refine rgn ?_
  refine VlS (.slice (some ⟨g, 0, none⟩) W.length W.length) ?_
  refine VlS (.int .i64 (t : Int)) ?_
  refine VlS (.pointer (some ⟨g, t, none⟩)) ?_
  refine VlS (.int .u64 (a : Int)) ?_
  refine VlS (.int .u64 (b : Int)) ?_
  refine VlS (.int .u64 ((andW a b : Nat) : Int)) ?_
  refine VlS (.pointer (some ⟨g, t, none⟩)) ?_
  refine WL.cell (by kernel_rfl) (wr.setCell ⟨g, t, none⟩ (.int .u64 ((andW a b : Nat) : Int))) (by go_simp) ?_
  clear c1 c2 f2
  simp only [Act.put]
  refine WL.nil (hK4 _ _ ?_)
  refine rgn ?_
  refine VlS (.int .i64 ((t + 1 : Nat) : Int)) ?_
  refine VlS (.int .i64 ((t + 1 : Nat) : Int)) ?_
  refine WL.nil ?_
  refine ⟨⟨t + 1, .int .i64 (t : Int), .int .u64 (b : Int), .bool true, .int .i64 (t : Int), .pointer (some ⟨h, t, none⟩), .int .u64 (b : Int), .slice (some ⟨g, 0, none⟩) W.length W.length, .int .i64 (t : Int), .pointer (some ⟨g, t, none⟩), .int .u64 (a : Int), .int .u64 (b : Int), .int .u64 ((andW a b : Nat) : Int), .pointer (some ⟨g, t, none⟩), .int .i64 ((t + 1 : Nat) : Int), rfl, by omega, ?_, JG.out.trans (Grown.setCell _ _ _ _ fun _ => rfl)⟩, ?_⟩
  ·have h1 := JB.out.set t (.int .u64 ((andW a b : Nat) : Int))
   have h2 := zipW_next andW W O t
   rw [ha.out, hb.out] at h2
   rw [List.setIfInBounds_toArray, wdV_set, h2] at h1
   exact h1
  ·simp only [intOf]; show O.length - (((t + 1 : Nat) : Int)).toNat < O.length - ((t : Int)).toNat; omega
 ·have htl' : ¬ (t : Int) < (O.length : Int) := by omega
  have hte : t = O.length := by omega
  refine wp_seq_k fun K6 hK6 => rgn ?_
  refine VbF ?_
  refine WL.nil (hK6 _ _ ?_)
  refine wp_seq_k fun K7 hK7 => ?_
  refine wp_cond_false rfl ?_
  refine wp_exit ?_
  simp only [Exit.inBlock, Exit.then, eq_self, if_true]
  go_end0
  refine ⟨rfl, ?_, JG.out⟩
  have h1 := JB.out
  rw [hte] at h1
  exact h1
set_option maxRecDepth 8000 in
set_option maxHeartbeats 1000000 in
theorem drop_any (g h : Nat) (W O : List Nat) (w : World) (hW : Blk w g 93 (wdV W).toArray) (hO : Blk w h 93 (wdV O).toArray) (hgh : g ≠ h) (hl : O.length ≤ W.length) (hw : W.length ≤ 1000000) (hWw : Wds W) (hWo : Wds O) : Calls Tryz.prog 67 #[.slice (some ⟨g, 0, none⟩) W.length W.length, .slice (some ⟨h, 0, none⟩) O.length O.length] w fun e w' => e = .returned (.tuple #[]) ∧ Blk w' g 93 (wdV (zipW notW W O O.length)).toArray ∧ Grown w w' fun k => k = g := by
 have HW := Keep.mk hW
 have HO := Keep.mk hO
 have Hgh := Keep.mk hgh
 have Hl := Keep.mk hl
 have Hw := Keep.mk hw
 have HWw := Keep.mk hWw
 have HWo := Keep.mk hWo
 clear hW hO hgh hl hw hWw hWo
 go_enter Tryz.func67, Tryz.ntmps67
 refine wp_seq_k fun K1 hK1 => rgn ?_
 refine VlS (.slice (some ⟨h, 0, none⟩) O.length O.length) ?_
 refine VlS (.int .i64 (O.length : Int)) ?_
 refine VlS (.int .i64 0) ?_
 refine WL.nil (hK1 _ _ ?_)
 refine wp_block ?_
 refine wp_loop (fun ac wr => ∃ (t : Nat) (u4 u5 u9 u10 u11 u12 u13 u14 u15 u16 u17 u18 u19 u20 : Value), ac = { tmps := #[.slice (some ⟨g, 0, none⟩) W.length W.length, .slice (some ⟨h, 0, none⟩) O.length O.length, undef, undef, u4, u5, .slice (some ⟨h, 0, none⟩) O.length O.length, .int .i64 (O.length : Int), .int .i64 (t : Int), u9, u10, u11, u12, u13, u14, u15, u16, u17, u18, u19, u20], defers := [] } ∧ t ≤ O.length ∧ Blk wr g 93 (wdV (zipW notW W O t)).toArray ∧ Grown w wr fun k => k = g) (fun a _ => O.length - (intOf (a.tmps.getD 8 undef)).toNat) ⟨0, undef, undef, undef, undef, undef, undef, undef, undef, undef, undef, undef, undef, undef, undef, rfl, by omega, (by rw [zipW_zero]; exact HW.out), Grown.refl _ _⟩ ?_
 rintro ac wr ⟨t, u4, u5, u9, u10, u11, u12, u13, u14, u15, u16, u17, u18, u19, u20, rfl, ht, hB, hG⟩
 have JB := Keep.mk hB
 have JG := Keep.mk hG
 clear hB hG
 have HO' := Keep.mk (JG.out.blk HO.out (Ne.symm Hgh.out))
 by_cases htl : t < O.length
 ·have htl' : (t : Int) < (O.length : Int) := by omega
  have ht0 : (0 : Int) ≤ (t : Int) := by omega
  have htw : t < W.length := by have := Hl.out; omega
  have htw' : (t : Int) < (W.length : Int) := by omega
  have hwt : IntKind.i64.wrap ((t : Int) + 1) = ((t + 1 : Nat) : Int) := by rw [IntKind.wrap_i64]; have := Hw.out; omega
  obtain ⟨a, ha⟩ : ∃ a, Keep (W.getD t 0 = a) := ⟨_, ⟨rfl⟩⟩
  obtain ⟨b, hb⟩ : ∃ b, Keep (O.getD t 0 = b) := ⟨_, ⟨rfl⟩⟩
  have c1 : wr.cell? ⟨h, t, none⟩ = some (.int .u64 (b : Int)) := by rw [wd_cell HO'.out htl, hb.out]
  have c2 : wr.cell? ⟨g, t, none⟩ = some (.int .u64 (a : Int)) := by rw [wd_cell JB.out (by rw [zipW_len]; exact htw), zipW_get _ _ _ _ _ htw, if_neg (Nat.lt_irrefl t), ha.out]
  have f2 := JB.out.frozen t
  have hor : bits .andNot .u64 (a : Int) (b : Int) = ((notW a b : Nat) : Int) := u64_andNot_nat a b (by rw [← ha.out]; exact HWw.out t) (by rw [← hb.out]; exact HWo.out t)
  refine wp_seq_k fun K2 hK2 => rgn ?_
  refine VbT ?_
  refine WL.nil (hK2 _ _ ?_)
  refine wp_seq_k fun K3 hK3 => ?_
  refine wp_cond_true rfl ?_
  refine wp_skip ?_
  refine hK3 _ _ ?_
  refine wp_seq_k fun K4 hK4 => ?_
  refine wp_block ?_
  refine wp_seq_k fun K5 hK5 => rgn ?_
  refine VlS (.int .i64 (t : Int)) ?_
  refine VlS (.pointer (some ⟨h, t, none⟩)) ?_
  refine VlS (.int .u64 (b : Int)) ?_
  refine VlS (.int .i64 (t : Int)) ?_
  refine VlS (.int .u64 (b : Int)) ?_
  refine WL.nil (hK5 _ _ ?_)
  refine rgn ?_
  refine VlS (.slice (some ⟨g, 0, none⟩) W.length W.length) ?_
  refine VlS (.int .i64 (t : Int)) ?_
  refine VlS (.pointer (some ⟨g, t, none⟩)) ?_
  refine VlS (.int .u64 (a : Int)) ?_
  refine VlS (.int .u64 (b : Int)) ?_
  refine VlS (.int .u64 ((notW a b : Nat) : Int)) ?_
  refine VlS (.pointer (some ⟨g, t, none⟩)) ?_
  refine WL.cell (by kernel_rfl) (wr.setCell ⟨g, t, none⟩ (.int .u64 ((notW a b : Nat) : Int))) (by go_simp) ?_
  clear c1 c2 f2
  simp only [Act.put]
  refine WL.nil (hK4 _ _ ?_)
  refine rgn ?_
  refine VlS (.int .i64 ((t + 1 : Nat) : Int)) ?_
  refine VlS (.int .i64 ((t + 1 : Nat) : Int)) ?_
  refine WL.nil ?_
  refine ⟨⟨t + 1, .int .i64 (t : Int), .int .u64 (b : Int), .bool true, .int .i64 (t : Int), .pointer (some ⟨h, t, none⟩), .int .u64 (b : Int), .slice (some ⟨g, 0, none⟩) W.length W.length, .int .i64 (t : Int), .pointer (some ⟨g, t, none⟩), .int .u64 (a : Int), .int .u64 (b : Int), .int .u64 ((notW a b : Nat) : Int), .pointer (some ⟨g, t, none⟩), .int .i64 ((t + 1 : Nat) : Int), rfl, by omega, ?_, JG.out.trans (Grown.setCell _ _ _ _ fun _ => rfl)⟩, ?_⟩
  ·have h1 := JB.out.set t (.int .u64 ((notW a b : Nat) : Int))
   have h2 := zipW_next notW W O t
   rw [ha.out, hb.out] at h2
   rw [List.setIfInBounds_toArray, wdV_set, h2] at h1
   exact h1
  ·simp only [intOf]; show O.length - (((t + 1 : Nat) : Int)).toNat < O.length - ((t : Int)).toNat; omega
 ·have htl' : ¬ (t : Int) < (O.length : Int) := by omega
  have hte : t = O.length := by omega
  refine wp_seq_k fun K6 hK6 => rgn ?_
  refine VbF ?_
  refine WL.nil (hK6 _ _ ?_)
  refine wp_seq_k fun K7 hK7 => ?_
  refine wp_cond_false rfl ?_
  refine wp_exit ?_
  simp only [Exit.inBlock, Exit.then, eq_self, if_true]
  go_end0
  refine ⟨rfl, ?_, JG.out⟩
  have h1 := JB.out
  rw [hte] at h1
  exact h1
theorem Tryz.in58 (w : World) (vs : Array Value) : (callFunc 58 vs).run Tryz.prog w = .ok (.enter 58 vs) w := by kernel_rfl
theorem Tryz.in54 (w : World) (vs : Array Value) : (callFunc 54 vs).run Tryz.prog w = .ok (.enter 54 vs) w := by kernel_rfl
def hasW (W : List Nat) (i : Nat) : Bool := (W.getD (i / 64) 0).testBit (i % 64)
def addW (W : List Nat) (i : Nat) : List Nat := W.set (i / 64) (W.getD (i / 64) 0 ||| 2 ^ (i % 64))
theorem addW_len (W : List Nat) (i : Nat) : (addW W i).length = W.length := by simp [addW]
theorem addW_has (W : List Nat) (i j : Nat) (h : i / 64 < W.length) : hasW (addW W i) j = (hasW W j || decide (i = j)) := by
 simp only [hasW, addW, List.getD_eq_getElem?_getD, List.getElem?_set]
 by_cases e : i / 64 = j / 64
 ·rw [if_pos e, if_pos h, e]
  simp only [Option.getD_some, Nat.testBit_or, Nat.testBit_two_pow]
  by_cases e2 : i % 64 = j % 64
  ·have : i = j := by omega
   simp [e2, this]
  ·have : ¬ i = j := fun x => e2 (by rw [x])
   simp [e2, this]
 ·have : ¬ i = j := fun x => e (by rw [x])
  rw [if_neg e]; simp [this]
theorem Wds.add {W : List Nat} (h : Wds W) (i : Nat) : Wds (addW W i) := fun k => by
 simp only [addW, List.getD_eq_getElem?_getD, List.getElem?_set]
 split
 ·split
  ·simp only [Option.getD_some]
   exact Nat.or_lt_two_pow (n := 64) (by rw [← List.getD_eq_getElem?_getD]; exact h _) (Nat.pow_lt_pow_right (by decide) (Nat.mod_lt _ (by decide)))
  ·decide
 ·rw [← List.getD_eq_getElem?_getD]; exact h k
theorem hasW_far (W : List Nat) (i : Nat) (h : W.length ≤ i / 64) : hasW W i = false := by
 simp [hasW, List.getD_eq_getElem?_getD, List.getElem?_eq_none h]
set_option maxRecDepth 8000 in
set_option maxHeartbeats 1000000 in
theorem add_set (g i : Nat) (W : List Nat) (w : World) (hW : Blk w g 93 (wdV W).toArray) (hil : i / 64 < W.length) (hw : W.length ≤ 1000000) (hWw : Wds W) : Calls Tryz.prog 58 #[.slice (some ⟨g, 0, none⟩) W.length W.length, .int .i64 (i : Int)] w fun e w' => e = .returned (.tuple #[]) ∧ Blk w' g 93 (wdV (addW W i)).toArray ∧ Grown w w' fun k => k = g := by
 have HW := Keep.mk hW
 have Hw := Keep.mk hw
 have HWw := Keep.mk hWw
 have Hil := Keep.mk hil
 clear hW hw hWw hil
 obtain ⟨q, hq⟩ : ∃ q, Keep (q = i / 64) := ⟨_, ⟨rfl⟩⟩
 obtain ⟨r, hr⟩ : ∃ r, Keep (r = i % 64) := ⟨_, ⟨rfl⟩⟩
 obtain ⟨a, ha⟩ : ∃ a, Keep (W.getD q 0 = a) := ⟨_, ⟨rfl⟩⟩
 obtain ⟨p, hp⟩ : ∃ p, Keep (2 ^ r = p) := ⟨_, ⟨rfl⟩⟩
 have hib : i < 64000064 := by have := Hil.out; have := Hw.out; omega
 have hi0 : (0 : Int) ≤ (i : Int) := by omega
 have hq0 : (0 : Int) ≤ (q : Int) := by omega
 have hr0 : (0 : Int) ≤ (r : Int) := by omega
 have hr64 : (r : Int) ≤ 64 := by have := hr.out; omega
 have hdv : IntKind.i64.wrap ((i : Int).tdiv 64) = (q : Int) := by rw [IntKind.wrap_i64, Int.tdiv_eq_ediv_of_nonneg hi0]; have := hq.out; omega
 have hmd : (i : Int).tmod 64 = (r : Int) := by rw [Int.tmod_eq_emod_of_nonneg hi0]; have := hr.out; omega
 have hdv2 : IntKind.i64.wrap ((i : Int) / 64) = (q : Int) := by rw [IntKind.wrap_i64]; have := hq.out; omega
 have hmd2 : (i : Int) % 64 = (r : Int) := by have := hr.out; omega
 have hmw : IntKind.i64.wrap (r : Int) = (r : Int) := by rw [IntKind.wrap_i64]; omega
 have hp64 : p < 18446744073709551616 := by rw [← hp.out]; exact Nat.pow_lt_pow_right (n := 64) (a := 2) (by decide) (by have := hr.out; omega)
 have ha64 : a < 18446744073709551616 := by rw [← ha.out]; exact HWw.out q
 have hpp : (2 : Int) ^ r = (p : Int) := by rw [← hp.out]; push_cast; rfl
 have hql : (q : Int) < (W.length : Int) := by have := Hil.out; have := hq.out; omega
 have c2 : w.drew.cell? ⟨g, q, none⟩ = some (.int .u64 (a : Int)) := by rw [wd_cell HW.out.drew (by omega), ha.out]
 have hsl : IntKind.u64.wrap (p : Int) = (p : Int) := by rw [IntKind.wrap_u64]; omega
 have hor : bits .or .u64 (a : Int) (p : Int) = ((a ||| p : Nat) : Int) := u64_or_nat a p ha64 hp64
 go_enter Tryz.func58, Tryz.ntmps58
 have HWd := Keep.mk HW.out.drew
 have f2 := HWd.out.frozen q
 refine wp_region_held_drew (S := fun _ => True) (by kernel_rfl) (trivial) (fun hHeld => ?_)
 refine TkG (i := 0) (oi := ⟨some 4, Op.move (Operand.tmp 0), 100, _, _, none⟩) (v := .slice (some ⟨g, 0, none⟩) W.length W.length) rfl hHeld ?_
 refine TkG (i := 1) (oi := ⟨some 5, Op.move (Operand.tmp 1), 3, _, _, none⟩) (v := .int .i64 (i : Int)) rfl hHeld ?_
 refine TkG (i := 2) (oi := ⟨some 6, Op.binOp BinOp.quo 3 (Operand.tmp 5) (Operand.const (Value.int IntKind.i64 64)) 3, 3, _, _, none⟩) (v := .int .i64 (q : Int)) rfl hHeld ?_
 refine TkG (i := 3) (oi := ⟨some 7, Op.indexAddr 100 (Operand.tmp 4) (Operand.tmp 6), 0, _, _, none⟩) (v := .pointer (some ⟨g, q, none⟩)) rfl hHeld ?_
 refine TkG (i := 5) (oi := ⟨some 9, Op.move (Operand.tmp 1), 3, _, _, none⟩) (v := .int .i64 (i : Int)) rfl hHeld ?_
 refine TkG (i := 6) (oi := ⟨some 10, Op.binOp BinOp.rem 3 (Operand.tmp 9) (Operand.const (Value.int IntKind.i64 64)) 3, 3, _, _, none⟩) (v := .int .i64 (r : Int)) rfl hHeld ?_
 refine TkG (i := 7) (oi := ⟨some 11, Op.binOp BinOp.shl 93 (Operand.const (Value.int IntKind.u64 1)) (Operand.tmp 10) 3, 93, _, _, none⟩) (v := .int .u64 ((p : Nat) : Int)) rfl hHeld ?_
 refine wpAnyH_ready (rs := [4]) (by kernel_rfl) (by simp) ?_
 refine AllReadyH.cons (o := ⟨some 8, Op.load 93 (Operand.tmp 7), 93, _, _, none⟩) rfl (fun K hK => ?_) AllReadyH.nil
 rw [if_pos (by rfl)]
 refine wp_val (.int .u64 (a : Int)) (by go_simp) ?_
 refine hK _ _ trivial fun hH0 => ?_
 clear hK
 simp only [Act.put, pqA, pqB, pqC]
 refine TkG (i := 8) (oi := ⟨some 12, Op.binOp BinOp.or 93 (Operand.tmp 8) (Operand.tmp 11) 93, 93, _, _, none⟩) (v := .int .u64 ((a ||| p : Nat) : Int)) rfl hH0 ?_
 refine TkG (i := 9) (oi := ⟨some 13, Op.indexAddr 100 (Operand.tmp 4) (Operand.tmp 6), 0, _, _, none⟩) (v := .pointer (some ⟨g, q, none⟩)) rfl hH0 ?_
 refine wpAnyH_ready (rs := [10]) (by kernel_rfl) (by simp) ?_
 refine AllReadyH.cons (o := ⟨none, Op.store 93 (Operand.tmp 13) (Operand.tmp 12), 0, _, _, none⟩) rfl (fun K hK => ?_) AllReadyH.nil
 rw [if_pos (by rfl)]
 refine wp_cellS (w.drew.setCell ⟨g, q, none⟩ (.int .u64 ((a ||| p : Nat) : Int))) (by go_simp) ?_
 refine hK _ _ trivial fun hH1 => ?_
 clear hK
 simp only [Act.put, pqA, pqB, pqC]
 refine wpAnyH_done (by kernel_rfl) ?_ _
 go_end0
 refine ⟨rfl, ?_, (Grown.refl w _).drew.trans (Grown.setCell _ _ _ _ fun _ => rfl)⟩
 have h1 := HWd.out.set q (.int .u64 ((a ||| p : Nat) : Int))
 rw [List.setIfInBounds_toArray, wdV_set] at h1
 rw [addW, ← hq.out, ← hr.out, ha.out, hp.out]
 exact h1
set_option maxRecDepth 8000 in
set_option maxHeartbeats 1000000 in
theorem has_set (g i : Nat) (W : List Nat) (w : World) (hW : Blk w g 93 (wdV W).toArray) (hib : i < 64000064) (hw : W.length ≤ 1000000) (hWw : Wds W) : Calls Tryz.prog 54 #[.slice (some ⟨g, 0, none⟩) W.length W.length, .int .i64 (i : Int)] w fun e w' => e = .returned (.bool (hasW W i)) ∧ w' = w := by
 have HW := Keep.mk hW
 have Hw := Keep.mk hw
 have HWw := Keep.mk hWw
 clear hW hw hWw
 obtain ⟨q, hq⟩ : ∃ q, Keep (q = i / 64) := ⟨_, ⟨rfl⟩⟩
 obtain ⟨r, hr⟩ : ∃ r, Keep (r = i % 64) := ⟨_, ⟨rfl⟩⟩
 obtain ⟨a, ha⟩ : ∃ a, Keep (W.getD q 0 = a) := ⟨_, ⟨rfl⟩⟩
 obtain ⟨p, hp⟩ : ∃ p, Keep (2 ^ r = p) := ⟨_, ⟨rfl⟩⟩
 have hi0 : (0 : Int) ≤ (i : Int) := by omega
 have hq0 : (0 : Int) ≤ (q : Int) := by omega
 have hr0 : (0 : Int) ≤ (r : Int) := by omega
 have hr64 : (r : Int) ≤ 64 := by have := hr.out; omega
 have hdv : IntKind.i64.wrap ((i : Int).tdiv 64) = (q : Int) := by rw [IntKind.wrap_i64, Int.tdiv_eq_ediv_of_nonneg hi0]; have := hq.out; omega
 have hmd : (i : Int).tmod 64 = (r : Int) := by rw [Int.tmod_eq_emod_of_nonneg hi0]; have := hr.out; omega
 have hdv2 : IntKind.i64.wrap ((i : Int) / 64) = (q : Int) := by rw [IntKind.wrap_i64]; have := hq.out; omega
 have hmd2 : (i : Int) % 64 = (r : Int) := by have := hr.out; omega
 have hmw : IntKind.i64.wrap (r : Int) = (r : Int) := by rw [IntKind.wrap_i64]; omega
 have hp64 : p < 18446744073709551616 := by rw [← hp.out]; exact Nat.pow_lt_pow_right (n := 64) (a := 2) (by decide) (by have := hr.out; omega)
 have ha64 : a < 18446744073709551616 := by rw [← ha.out]; exact HWw.out q
 have hpp : (2 : Int) ^ r = (p : Int) := by rw [← hp.out]; push_cast; rfl
 obtain ⟨s, hs⟩ : ∃ s, Keep (a / p = s) := ⟨_, ⟨rfl⟩⟩
 obtain ⟨m, hm⟩ : ∃ m, Keep (s % 2 = m) := ⟨_, ⟨rfl⟩⟩
 have hs64 : s < 18446744073709551616 := by rw [← hs.out]; exact Nat.lt_of_le_of_lt (Nat.div_le_self _ _) ha64
 have hsp : (a : Int) / (p : Int) = (s : Int) := by rw [← hs.out]; exact (Int.natCast_ediv a p).symm
 have hor : bits .and .u64 (s : Int) 1 = (m : Int) := by have h := u64_and_nat s 1 hs64 (by decide); rw [Nat.and_one_is_mod, hm.out] at h; exact h
 go_enter Tryz.func54, Tryz.ntmps54
 refine wp_seq_k fun K1 hK1 => rgn ?_
 refine VbF ?_
 refine WL.nil (hK1 _ _ ?_)
 refine wp_seq_k fun K2 hK2 => rgn ?_
 refine VlS (.int .i64 (i : Int)) ?_
 refine VlS (.int .i64 (q : Int)) ?_
 refine VlS (.int .i64 (q : Int)) ?_
 refine WL.nil (hK2 _ _ ?_)
 refine wp_seq_k fun K3 hK3 => rgn ?_
 refine VlS (.int .i64 (q : Int)) ?_
 refine VlS (.slice (some ⟨g, 0, none⟩) W.length W.length) ?_
 refine VlS (.int .i64 (W.length : Int)) ?_
 by_cases h2_3 : (q : Int) < (W.length : Int)
 ·have c2 : w.cell? ⟨g, q, none⟩ = some (.int .u64 (a : Int)) := by rw [wd_cell HW.out (by omega), ha.out]
  refine VbT ?_
  refine VbT ?_
  refine VlS (.slice (some ⟨g, 0, none⟩) W.length W.length) ?_
  refine VlS (.int .i64 (q : Int)) ?_
  refine VlS (.pointer (some ⟨g, q, none⟩)) ?_
  refine VlS (.int .u64 (a : Int)) ?_
  refine VlS (.int .i64 (i : Int)) ?_
  refine VlS (.int .i64 (r : Int)) ?_
  refine VlS (.int .u64 (s : Int)) ?_
  refine VlS (.int .u64 (m : Int)) ?_
  by_cases h2_13 : (m : Int) = 1
  ·skip
   refine VbT ?_
   refine VbT ?_
   refine VbT ?_
   refine WL.nil (hK3 _ _ ?_)
   refine wp_ret ?_
   go_ret
   refine ⟨?_, rfl⟩
   rw [hasW, ← hq.out, ← hr.out, ha.out, Nat.testBit_eq_decide_div_mod_eq, hp.out, hs.out, hm.out, decide_eq_true (by omega)]
   rfl
  ·skip
   refine VbF ?_
   refine VbF ?_
   refine VbF ?_
   refine WL.nil (hK3 _ _ ?_)
   refine wp_ret ?_
   go_ret
   refine ⟨?_, rfl⟩
   rw [hasW, ← hq.out, ← hr.out, ha.out, Nat.testBit_eq_decide_div_mod_eq, hp.out, hs.out, hm.out, decide_eq_false (by omega)]
   rfl
 ·skip
  refine VbF ?_
  refine VbF ?_
  refine SkS ?_
  refine SkS ?_
  refine SkS ?_
  refine SkS ?_
  refine SkS ?_
  refine SkS ?_
  refine SkS ?_
  refine SkS ?_
  refine SkS ?_
  refine VbF ?_
  refine VbF ?_
  refine WL.nil (hK3 _ _ ?_)
  refine wp_ret ?_
  go_ret
  exact ⟨by rw [hasW_far W i (by have := hq.out; omega)]; rfl, rfl⟩
theorem Tryz.in57 (w : World) (vs : Array Value) : (callFunc 57 vs).run Tryz.prog w = .ok (.enter 57 vs) w := by kernel_rfl
theorem Tryz.info93z : (Tryz.prog.info? 93).map (fun i => (i.zero, i.size, i.bytes)) = some (some (.int .u64 0), 1, 8) := by kernel_rfl
theorem run_makeW (n : Nat) (hn : n ≤ 1000000) (w : World) : (Instr.makeSlice 100 (.int .i64 (n : Int)) (.int .i64 (n : Int))).run Tryz.prog w = .ok (.slice (some ⟨w.heap.size, 0, none⟩) n n) (w.alloc (.cells (madeCells #[.int .u64 0] n) 93)) := by
 obtain ⟨i, hi, hzz⟩ := Option.map_eq_some_iff.1 Tryz.info93z
 simp only [Prod.mk.injEq] at hzz
 obtain ⟨hz, hs, hb⟩ := hzz
 have hr := run_make (P := Tryz.prog) w 100 93 i _ Tryz.underlying100 hi hz .i64 .i64 (n : Int) (n : Int) (by omega) (by omega) (by rw [hb]; omega) (by omega)
 simp only [Int.toNat_natCast, hs, Value.cells, Nat.mul_one] at hr
 exact hr
theorem WL.mkS {ops : Array Oper} {rest : List Oper} {o : Oper} {a : Act} {w : World} {Q : Exit → Act → World → Prop} (hw : Region.wanted o (yielded ops a.tmps) = true) (t : TypeId) (x y : Operand) (ho : o.op = .makeSlice t x y) (vx vy : Value) (hx : a.eval x = vx) (hy : a.eval y = vy) (v : Value) (w' : World)
  (hr : (Instr.makeSlice t vx vy).run Tryz.prog w = .ok v w') (h : WL Tryz.prog ops Q rest (a.put o.dst v) w') : WL Tryz.prog ops Q (o :: rest) a w :=
 ⟨wpList_wanted hw fun K hK => by
  unfold Oper.wp
  simp only [execOp, ho, hx, hy, Sem.run_bind, hr, Result.andThen_ok]
  exact hK _ _ h.out⟩
theorem madeW (n : Nat) : madeCells #[.int .u64 0] n = (wdV (List.replicate n 0)).toArray := by
 apply Array.ext
 ·simp [size_madeCells, wdV]
 ·intro i h1 h2
  simp [madeCells, wdV, Nat.mod_one]
theorem room_has (n i : Nat) : hasW (List.replicate n 0) i = false := by
 simp only [hasW, List.getD_eq_getElem?_getD, List.getElem?_replicate]
 split <;> simp
theorem Wds.room (n : Nat) : Wds (List.replicate n 0) := fun i => by
 simp only [List.getD_eq_getElem?_getD, List.getElem?_replicate]
 split <;> simp
set_option maxRecDepth 8000 in
set_option maxHeartbeats 1000000 in
theorem room_set (n : Nat) (w : World) (hn : n ≤ 1000000) : Calls Tryz.prog 57 #[.int .i64 (n : Int)] w fun e w' => e = .returned (.slice (some ⟨w.heap.size, 0, none⟩) ((n + 63) / 64) ((n + 63) / 64)) ∧ Blk w' w.heap.size 93 (wdV (List.replicate ((n + 63) / 64) 0)).toArray ∧ Below w.heap.size w w' := by
 obtain ⟨q, hq⟩ : ∃ q, Keep (q = (n + 63) / 64) := ⟨_, ⟨rfl⟩⟩
 have h1 : IntKind.i64.wrap ((n : Int) + 64) = (n : Int) + 64 := by rw [IntKind.wrap_i64]; omega
 have h2 : IntKind.i64.wrap ((n : Int) + 64 - 1) = (n : Int) + 63 := by rw [IntKind.wrap_i64]; omega
 have h3 : IntKind.i64.wrap (((n : Int) + 63).tdiv 64) = (q : Int) := by rw [IntKind.wrap_i64, Int.tdiv_eq_ediv_of_nonneg (by omega)]; have := hq.out; omega
 have h4 : IntKind.i64.wrap (((n : Int) + 63) / 64) = (q : Int) := by rw [IntKind.wrap_i64]; have := hq.out; omega
 have h5 : (0 : Int) ≤ (n : Int) + 63 := by omega
 go_enter Tryz.func57, Tryz.ntmps57
 refine wp_seq_k fun K1 hK1 => rgn ?_
 refine VlS (.slice none 0 0) ?_
 refine WL.nil (hK1 _ _ ?_)
 refine wp_seq_k fun K2 hK2 => rgn ?_
 refine VlS (.int .i64 (n : Int)) ?_
 refine VlS (.int .i64 ((n : Int) + 64)) ?_
 refine VlS (.int .i64 ((n : Int) + 63)) ?_
 refine VlS (.int .i64 (q : Int)) ?_
 refine WL.mkS (by kernel_rfl) 100 (.tmp 6) (.tmp 6) rfl _ _ rfl rfl _ _ (run_makeW q (by have := hq.out; omega) w) ?_
 simp only [Act.put, pqA, pqB, pqC]
 refine VlS (.slice (some ⟨w.heap.size, 0, none⟩) q q) ?_
 refine WL.nil (hK2 _ _ ?_)
 refine wp_ret ?_
 go_ret
 refine ⟨by rw [← hq.out]; rfl, ?_, below_new _ _⟩
 rw [← hq.out, ← madeW]
 exact Blk.new w 93 _
section
variable {α : Type} {enc : α → List Value} {s : Nat}
theorem flat_len (hs : ∀ x, (enc x).length = s) : ∀ L : List α, (L.flatMap enc).length = L.length * s
 | [] => by simp
 | x :: L => by rw [List.flatMap_cons, List.length_append, hs, flat_len hs L, List.length_cons, Nat.add_mul, Nat.one_mul, Nat.add_comm]
theorem flat_get (hs : ∀ x, (enc x).length = s) : ∀ (L : List α) (i : Nat) (hi : i < L.length) (j : Nat), j < s → (L.flatMap enc)[i * s + j]? = (enc L[i])[j]?
 | x :: L, 0, _, j, hj => by rw [List.flatMap_cons, Nat.zero_mul, Nat.zero_add, List.getElem?_append_left (by rw [hs]; exact hj)]; rfl
 | x :: L, i + 1, hi, j, hj => by
  rw [List.flatMap_cons, List.getElem?_append_right (by rw [hs, Nat.add_mul]; omega), hs, show (i + 1) * s + j - s = i * s + j by rw [Nat.add_mul]; omega]
  exact flat_get hs L i (by simpa using hi) j hj
theorem flat_elem (hs : ∀ x, (enc x).length = s) {w : World} {b off : Nat} {L : List α} (h : w.rangeAt b off (L.flatMap enc)) (i : Nat) (hi : i < L.length) : w.rangeAt b (off + i * s) (enc L[i]) := fun j v hv => by
 have hj : j < s := by have := (List.getElem?_eq_some_iff.1 hv).1; rw [hs] at this; exact this
 have := h (i * s + j) v (by rw [flat_get hs L i hi j hj]; exact hv)
 rw [show off + (i * s + j) = off + i * s + j by omega] at this
 exact this
theorem flat_of_elems (hs : ∀ x, (enc x).length = s) {w : World} {b off : Nat} {L : List α} (h : ∀ i (hi : i < L.length), w.rangeAt b (off + i * s) (enc L[i])) : w.rangeAt b off (L.flatMap enc) := fun j v hv => by
 have hj := (List.getElem?_eq_some_iff.1 hv).1
 rw [flat_len hs] at hj
 have hs0 : 0 < s := by
  rcases Nat.eq_zero_or_pos s with h0 | h0
  ·rw [h0] at hj; omega
  ·exact h0
 have hi : j / s < L.length := by rw [Nat.div_lt_iff_lt_mul hs0]; exact hj
 have hm := Nat.mod_lt j hs0
 have he : j / s * s + j % s = j := by rw [Nat.mul_comm]; exact Nat.div_add_mod j s
 have hg := flat_get hs L (j / s) hi (j % s) hm
 rw [he, hv] at hg
 have := h (j / s) hi (j % s) v hg.symm
 rw [show off + j / s * s + j % s = off + j by omega] at this
 exact this
end
structure EX where
 id : Hs
 N : Nd.NodeV
def entA (c : Nat → Int) (au ck : Int) (p q : Value) : Array Value := bytesA 32 c ++ Nd.ndA au ck p q
theorem entA_size (c : Nat → Int) (au ck : Int) (p q : Value) : (entA c au ck p q).size = 36 := by simp [entA, bytesA_size, Nd.ndA]
theorem ent_au (c : Nat → Int) (au ck : Int) (p q : Value) : (entA c au ck p q)[32]? = some (.int .i64 au) := by simp [entA, Array.getElem?_append, bytesA_size, Nd.ndA]
theorem ent_ck (c : Nat → Int) (au ck : Int) (p q : Value) : (entA c au ck p q)[33]? = some (.int .i64 ck) := by simp [entA, Array.getElem?_append, bytesA_size, Nd.ndA]
theorem ent_ps (c : Nat → Int) (au ck : Int) (p q : Value) : (entA c au ck p q)[34]? = some p := by simp [entA, Array.getElem?_append, bytesA_size, Nd.ndA]
theorem ent_ops (c : Nat → Int) (au ck : Int) (p q : Value) : (entA c au ck p q)[35]? = some q := by simp [entA, Array.getElem?_append, bytesA_size, Nd.ndA]
theorem entA_one (c : Nat → Int) (au ck : Int) (p q : Value) (hp : p.oneCell' = true) (hq : q.oneCell' = true) : (entA c au ck p q).all (·.oneCell') = true := by
 have := bytesA_one 32 c
 simp only [entA, Array.all_append, this, Bool.true_and, Nd.ndA]
 have h1 : (Value.int IntKind.i64 au).oneCell' = true := rfl
 have h2 : (Value.int IntKind.i64 ck).oneCell' = true := rfl
 rw [← Array.all_toList]
 simp only [List.all_cons, List.all_nil, hp, hq, h1, h2, Bool.and_self]
theorem Tryz.size52 : (Tryz.prog.info? 52).map (·.size) = some 36 := by kernel_rfl
theorem sizeE (c : Nat → Int) (au ck : Int) (p q : Value) : (Tryz.prog.info? 52).map (·.size) = some (entA c au ck p q).size := by rw [entA_size]; exact Tryz.size52
theorem Tryz.new52 (w : World) : (Instr.alloc 52 true (.tuple #[])).run Tryz.prog w = .ok (.pointer (some ⟨w.heap.size, 0, none⟩)) (w.alloc (.cells (entA (fun _ => 0) 0 0 (.slice none 0 0) (.slice none 0 0)) 52)) := by kernel_rfl
abbrev EP := EX × Value × Value
def encE (q : EP) : List Value := (entA q.1.id.f q.1.N.au q.1.N.ck q.2.1 q.2.2).toList
theorem encE_len (q : EP) : (encE q).length = 36 := by rw [encE, Array.length_toList, entA_size]
def ESl (w : World) (v : Value) (L : List EP) : Prop :=
 (∃ a c, v = .slice a 0 c ∧ L = []) ∨ ∃ b off c, v = .slice (some ⟨b, off, none⟩) L.length c ∧ L.length ≤ c ∧ w.rangeAt b off (L.flatMap encE)
def EIn (w : World) (L : List EP) : Prop := ∀ q ∈ L, Nd.NdAt w q.1.N q.2.1 q.2.2
theorem ESl.form {w : World} {v : Value} {L : List EP} (h : ESl w v L) : ∃ a c, v = .slice a L.length c := by
 rcases h with ⟨a, c, rfl, rfl⟩ | ⟨b, off, c, rfl, _⟩
 ·exact ⟨a, c, rfl⟩
 ·exact ⟨_, c, rfl⟩
theorem ESl.at {w : World} {a : Option Addr} {n c : Nat} {L : List EP} (h : ESl w (.slice a n c) L) (hL : 0 < L.length) : ∃ b off, a = some ⟨b, off, none⟩ ∧ L.length ≤ c ∧ w.rangeAt b off (L.flatMap encE) := by
 rcases h with ⟨a, c, _, rfl⟩ | ⟨b, off, c, e, h1, h2⟩
 ·simp at hL
 ·injection e with e1 e2 e3
  subst e1 e3
  exact ⟨b, off, rfl, h1, h2⟩
theorem flatE_lt {w : World} {b off : Nat} {L : List EP} (h : w.rangeAt b off (L.flatMap encE)) (hL : 0 < L.length) : b < w.heap.size := by
 have h0 := flat_elem encE_len h 0 hL
 have h1 : (encE L[0])[32]? = some (.int .i64 L[0].1.N.au) := by rw [encE, Array.getElem?_toList, ent_au]
 exact cell_lt (h0 32 _ h1)
theorem ESl.grown {w w' : World} {v : Value} {L : List EP} {S : Nat → Prop} (h : ESl w v L) (hg : Grown w w' S) (hs : ∀ k, v.ownBlock = some k → k < w.heap.size → ¬ S k) : ESl w' v L := by
 rcases h with h1 | ⟨b, off, c, rfl, h2, h3⟩
 ·exact .inl h1
 ·by_cases h0 : 0 < L.length
  ·have hb := flatE_lt h3 h0
   exact .inr ⟨b, off, c, rfl, h2, fun j u hu => hg.cell (h3 j u hu) (hs b rfl hb)⟩
  ·have : L = [] := List.eq_nil_of_length_eq_zero (by omega)
   subst this
   exact .inl ⟨_, c, rfl, rfl⟩
theorem ESl.below {w w' : World} {v : Value} {L : List EP} (h : ESl w v L) (hb : Below w.heap.size w w') : ESl w' v L := h.grown (Grown.below (S := fun _ => False) hb) fun _ _ _ h => h
theorem EIn.below {w w' : World} {L : List EP} (h : EIn w L) (hb : Below w.heap.size w w') : EIn w' L := fun q hq => (h q hq).below hb
theorem esl_range {w : World} {a : Option Addr} {n c t : Nat} {L : List EP} (h : ESl w (.slice a n c) L) (ht : t < L.length) : ∃ b off, a = some ⟨b, off, none⟩ ∧ w.rangeAt b (off + t * 36) (encE L[t]) := by
 obtain ⟨b, off, e, h1, h2⟩ := h.at (by omega)
 exact ⟨b, off, e, flat_elem encE_len h2 t ht⟩
def ixH (l : List Hs) (x : Hs) : Nat := l.findIdx fun y => decide (x = y)
theorem ixH_lt {l : List Hs} {x : Hs} : ixH l x < l.length ↔ x ∈ l := by
 rw [ixH, List.findIdx_lt_length]
 constructor
 ·rintro ⟨y, hy, e⟩
  rw [of_decide_eq_true e]; exact hy
 ·exact fun h => ⟨x, h, by simp⟩
theorem ixH_get {l : List Hs} {x : Hs} (h : ixH l x < l.length) : l[ixH l x] = x := by
 have := List.findIdx_getElem (w := h)
 exact (of_decide_eq_true this).symm
theorem ixH_of {l : List Hs} (hn : l.Nodup) {i : Nat} (hi : i < l.length) : ixH l l[i] = i := by
 have hm : l[i] ∈ l := List.getElem_mem hi
 have h1 := ixH_lt.2 hm
 have h2 := ixH_get h1
 exact (List.getElem_inj hn).1 h2
theorem ixH_app {l : List Hs} {x : Hs} (h : x ∈ l) (m : List Hs) : ixH (l ++ m) x = ixH l x := by
 have := ixH_lt.2 h
 unfold ixH at this ⊢
 rw [List.findIdx_append, if_pos this]
def EntsI : Nat → List Hs → List MapEntry → Prop
 | _, [], [] => True
 | s, h :: l, e :: es => (e.key = .agg (bytesA 32 h.f) ∧ e.val = .int .i64 (s : Int)) ∧ EntsI (s + 1) l es
 | _, _, _ => False
def IxAt (w : World) (b : Nat) (l : List Hs) : Prop := ∃ es ck, w.heap[b]? = some (.map es ck) ∧ EntsI 0 l es.toList
theorem EntsI.app (h : Hs) (c : Nat) : ∀ {s : Nat} {l : List Hs} {es : List MapEntry}, EntsI s l es → EntsI s (l ++ [h]) (es ++ [⟨.agg (bytesA 32 h.f), .int .i64 ((s + l.length : Nat) : Int), c⟩])
 | s, [], [], _ => ⟨⟨rfl, by simp⟩, trivial⟩
 | s, _ :: l, _ :: _, k => ⟨k.1, by have := EntsI.app h c k.2; rw [List.length_cons, show s + (l.length + 1) = s + 1 + l.length by omega]; exact this⟩
 | _, [], _ :: _, h => h.elim
 | _, _ :: _, [], h => h.elim
theorem IxAt.lt {w : World} {b : Nat} {l : List Hs} (h : IxAt w b l) : b < w.heap.size := by
 obtain ⟨es, ck, h1, _⟩ := h
 exact (Array.getElem?_eq_some_iff.1 h1).1
theorem IxAt.grown {w w' : World} {b : Nat} {l : List Hs} {S : Nat → Prop} (h : IxAt w b l) (hg : Grown w w' S) (hb : ¬ S b) : IxAt w' b l := by
 obtain ⟨es, ck, h1, h2⟩ := h
 exact ⟨es, ck, by rw [hg.block b (Array.getElem?_eq_some_iff.1 h1).1 hb]; exact h1, h2⟩
theorem IxAt.below {w w' : World} {b : Nat} {l : List Hs} (h : IxAt w b l) (hb : Below w.heap.size w w') : IxAt w' b l := h.grown (Grown.below (S := fun _ => False) hb) fun h => h
theorem IxAt.ne {w : World} {b k : Nat} {l : List Hs} {T : TypeId} {cs : Array Value} (h : IxAt w b l) (hb : Blk w k T cs) : k ≠ b := by
 obtain ⟨es, ck, h1, _⟩ := h
 rintro rfl
 unfold Blk at hb
 rw [h1] at hb
 cases hb
theorem findI (x : Hs) : ∀ {s : Nat} {l : List Hs} {es : List MapEntry}, EntsI s l es → ∀ (wx : World) i,
  (Instr.findAsking 36 (.agg (bytesA 32 x.f)) es i).run Tryz.prog wx = .ok (if ixH l x < l.length then some (i + ixH l x, .int .i64 ((s + ixH l x : Nat) : Int)) else none) wx
 | _, [], [], _, wx, i => rfl
 | s, h :: l, e :: es, k, wx, i => by
  have hk : (Instr.findAsking 36 (.agg (bytesA 32 x.f)) (e :: es) i).run Tryz.prog wx = if decide (x = h) = true then .ok (some (i, e.val)) wx else (Instr.findAsking 36 (.agg (bytesA 32 x.f)) es (i + 1)).run Tryz.prog wx := by
   rw [Instr.findAsking, k.1.1, Sem.run_bind, Op_equal, Result.andThen_ok]
   show (if decide (x = h) = true then _ else _ : Sem _).run Tryz.prog wx = _
   split <;> rfl
  rw [hk]
  by_cases hx : x = h
  ·subst hx
   have : ixH (x :: l) x = 0 := by simp [ixH, List.findIdx_cons]
   rw [if_pos (by simp), this, if_pos (by simp), k.1.2]
   rfl
  ·have : ixH (h :: l) x = ixH l x + 1 := by simp [ixH, List.findIdx_cons, hx]
   rw [if_neg (by simp [hx]), findI x k.2, this]
   by_cases hl : ixH l x < l.length
   ·rw [if_pos hl, if_pos (by simp; exact hl), show i + 1 + ixH l x = i + (ixH l x + 1) by omega, show s + 1 + ixH l x = s + (ixH l x + 1) by omega]
   ·rw [if_neg hl, if_neg (by simp; omega)]
 | _, [], _ :: _, h, _, _ => h.elim
 | _, _ :: _, [], h, _, _ => h.elim
def ixV (l : List Hs) (x : Hs) : Nat := if ixH l x < l.length then ixH l x else 0
theorem lookI {w : World} {b : Nat} {l : List Hs} (h : IxAt w b l) (x : Hs) :
  (Instr.lookup 73 (.map (some b)) (.agg (bytesA 32 x.f)) true).run Tryz.prog w = .ok (.tuple #[.int .i64 ((ixV l x : Nat) : Int), .bool (decide (ixH l x < l.length))]) w ∧
  (Instr.lookup 73 (.map (some b)) (.agg (bytesA 32 x.f)) false).run Tryz.prog w = .ok (.int .i64 ((ixV l x : Nat) : Int)) w := by
 obtain ⟨es, ck, h1, h2⟩ := h
 have hf := findI x h2 w 0
 by_cases hl : ixH l x < l.length
 ·rw [if_pos hl] at hf
  simp only [Nat.zero_add] at hf
  refine ⟨?_, ?_⟩
  ·simp [Instr.lookup, run_underlying Tryz.underlying73, MapKept.run_getObj_map h1, Tryz.chk, findKey_eq, hf, Result.andThen, ixV, hl]
  ·simp [Instr.lookup, run_underlying Tryz.underlying73, MapKept.run_getObj_map h1, Tryz.chk, findKey_eq, hf, Result.andThen, ixV, hl]
 ·rw [if_neg hl] at hf
  refine ⟨?_, ?_⟩
  ·simp [Instr.lookup, run_underlying Tryz.underlying73, MapKept.run_getObj_map h1, Tryz.chk, findKey_eq, hf, Result.andThen, ixV, hl]
  ·simp [Instr.lookup, run_underlying Tryz.underlying73, MapKept.run_getObj_map h1, Tryz.chk, findKey_eq, hf, Result.andThen, ixV, hl]
theorem updI {w : World} {b : Nat} {l : List Hs} (h : IxAt w b l) (x : Hs) (hx : x ∉ l) (n : Nat) (hn : n = l.length) :
  ∃ w', (Instr.mapUpdate 73 (.map (some b)) (.agg (bytesA 32 x.f)) (.int .i64 (n : Int))).run Tryz.prog w = .ok () w' ∧ IxAt w' b (l ++ [x]) ∧ Grown w w' fun k => k = b := by
 subst hn
 obtain ⟨es, ck, h1, h2⟩ := h
 have hlt := (Array.getElem?_eq_some_iff.1 h1).1
 have hf := findI x h2 w 0
 rw [if_neg (fun c => hx (ixH_lt.1 c))] at hf
 have hg := grown_block h1 (.map (es.push ⟨.agg (bytesA 32 x.f), .int .i64 (l.length : Int), ck⟩) (ck + 1))
 refine ⟨{ w with heap := w.heap.setIfInBounds b (.map (es.push ⟨.agg (bytesA 32 x.f), .int .i64 (l.length : Int), ck⟩) (ck + 1)) }, ?_, ⟨_, _, by simp [hlt]; exact ⟨rfl, rfl⟩, ?_⟩, hg⟩
 ·simp [Instr.mapUpdate, run_underlying Tryz.underlying73, MapKept.run_getObj_map h1, Tryz.chk, findKey_eq, hf, MapKept.run_setObj_map _ h1, Result.andThen]
 ·rw [Array.toList_push]
  have := EntsI.app x ck h2
  rw [Nat.zero_add] at this
  exact this
theorem IxAt.new (w : World) : IxAt (w.alloc (.map #[] 0)) w.heap.size [] := ⟨#[], 0, by show (w.heap.push _)[w.heap.size]? = _; exact Array.getElem?_push_size, trivial⟩
def vxE (x : EX) : VX := ⟨x.id, x.N.ck, x.N.ps⟩
def idsE (L : List EX) : List Hs := L.map (·.id)
theorem idsE_len (L : List EX) : (idsE L).length = L.length := by simp [idsE]
theorem idsE_vx (L : List EX) : (L.map vxE).map (·.id) = idsE L := by simp [idsE, vxE]
def al1 (L : List EX) (i : Nat) : Int :=
 if 4096 ≤ i then 3 else match L[i]? with
 | none => 0
 | some x => if Nd.chkN x.N ≠ 0 then Nd.chkN x.N else if x.id ∈ idsE (L.take i) then 9 else 0
def tg1 (L : List EX) (i : Nat) : Int := match L[i]? with
 | none => 0
 | some x => if x.N.ps.all (hasB (L.map vxE)) = false then 6 else if x.N.ck ≠ mxC (L.map vxE) x.N.ps + 1 then 51 else 0
structure Good (L : List EX) : Prop where
 al : ∀ i, i < L.length → al1 L i = 0
 tg : ∀ i, i < L.length → tg1 L i = 0
theorem al1_ok {L : List EX} {i : Nat} (hi : i < L.length) (h : al1 L i = 0) : i < 4096 ∧ Nd.chkN L[i].N = 0 ∧ L[i].id ∉ idsE (L.take i) := by
 unfold al1 at h
 rw [List.getElem?_eq_getElem hi] at h
 split at h
 ·cases h
 ·refine ⟨by omega, ?_⟩
  simp only at h
  split at h
  ·rename_i h1; exact absurd h h1
  ·rename_i h1
   split at h
   ·cases h
   ·rename_i h2; exact ⟨Decidable.not_not.1 h1, h2⟩
theorem tg1_ok {L : List EX} {i : Nat} (hi : i < L.length) (h : tg1 L i = 0) : (∀ p ∈ L[i].N.ps, hasB (L.map vxE) p = true) ∧ L[i].N.ck = mxC (L.map vxE) L[i].N.ps + 1 := by
 unfold tg1 at h
 rw [List.getElem?_eq_getElem hi] at h
 simp only at h
 split at h
 ·cases h
 ·rename_i h1
  split at h
  ·cases h
  ·rename_i h2
   refine ⟨all_iff.1 (by simpa using h1), Decidable.not_not.1 h2⟩
theorem Good.len {L : List EX} (h : Good L) : L.length ≤ 4096 := by
 rcases Nat.eq_zero_or_pos L.length with h0 | h0
 ·omega
 ·have := (al1_ok (by omega) (h.al (L.length - 1) (by omega))).1
  omega
theorem nodup_of {l : List Hs} (h : ∀ i (hi : i < l.length), l[i] ∉ l.take i) : l.Nodup := by
 rw [List.Nodup, List.pairwise_iff_getElem]
 intro i j hi hj hij e
 apply h j hj
 rw [← e]
 exact List.mem_take_iff_getElem.2 ⟨i, by omega, rfl⟩
theorem Good.nd {L : List EX} (h : Good L) : (idsE L).Nodup := nodup_of fun i hi => by
 have hi' : i < L.length := by rwa [idsE_len] at hi
 have := (al1_ok hi' (h.al i hi')).2.2
 have e1 : (idsE L)[i] = L[i].id := by simp [idsE]
 have e2 : (idsE L).take i = idsE (L.take i) := by simp [idsE, List.map_take]
 rw [e1, e2]
 exact this
theorem Good.chk {L : List EX} (h : Good L) {x : EX} (hx : x ∈ L) : Nd.chkN x.N = 0 := by
 obtain ⟨i, hi, rfl⟩ := List.mem_iff_getElem.1 hx
 exact (al1_ok hi (h.al i hi)).2.1
theorem Good.par {L : List EX} (h : Good L) {x : EX} (hx : x ∈ L) : (∀ p ∈ x.N.ps, hasB (L.map vxE) p = true) ∧ x.N.ck = mxC (L.map vxE) x.N.ps + 1 := by
 obtain ⟨i, hi, rfl⟩ := List.mem_iff_getElem.1 hx
 exact tg1_ok hi (h.tg i hi)
theorem chkV_of {N : Nd.NodeV} (h : Nd.chkN N = 0) (id : Hs) : chkV ⟨id, N.ck, N.ps⟩ = 0 := by
 unfold Nd.chkN at h
 split at h
 ·rename_i h1; exact absurd h h1
 ·rename_i h1
  have h1 := Decidable.not_not.1 h1
  unfold Nd.headE at h1
  split at h1
  ·cases h1
  ·split at h1
   ·cases h1
   ·rename_i h2
    split at h1
    ·cases h1
    ·rename_i h3
     unfold chkV
     have h3' : ¬ (64 < N.ps.length ∨ risesB N.ps = false) := h3
     rw [if_neg h3', if_neg]
     intro hc
     apply h2
     rcases hc with hc | hc | hc
     ·exact .inl hc
     ·exact .inr (.inl hc)
     ·refine .inr (.inr ?_)
      have e1 : (N.ck == 1) = decide (N.ck = 1) := rfl
      have e2 : ((N.ps.length : Int) == 0) = decide (N.ps.length = 0) := by
       by_cases hz : N.ps.length = 0
       ·simp [hz]
       ·have : ¬ ((N.ps.length : Int) = 0) := by omega
        simp [hz, this]
      rw [e1, e2]
      by_cases a : N.ck = 1 <;> by_cases b : N.ps.length = 0 <;> simp [a, b] at hc ⊢
theorem ckOf_mem {l : List VX} (hn : (l.map (·.id)).Nodup) {v : VX} (hv : v ∈ l) : ckOf l v.id = v.ck := by
 unfold ckOf; rw [find_mem hn hv]
theorem mxC_ge {l : List VX} : ∀ (ps : List Hs) {p : Hs}, p ∈ ps → ckOf l p ≤ mxC l ps := by
 have H : ∀ (ps : List Hs) (m : Int), m ≤ ps.foldl (fun m h => if ckOf l h > m then ckOf l h else m) m ∧ ∀ p ∈ ps, ckOf l p ≤ ps.foldl (fun m h => if ckOf l h > m then ckOf l h else m) m := by
  intro ps
  induction ps with
  | nil => intro m; exact ⟨Int.le_refl _, fun p hp => by cases hp⟩
  | cons q ps ih =>
   intro m
   rw [List.foldl_cons]
   have := ih (if ckOf l q > m then ckOf l q else m)
   refine ⟨?_, fun p hp => ?_⟩
   ·refine Int.le_trans ?_ this.1
    split <;> omega
   ·rcases List.mem_cons.1 hp with rfl | hp
    ·refine Int.le_trans ?_ this.1
     split <;> omega
    ·exact this.2 p hp
 exact fun ps p hp => (H ps 0).2 p hp
theorem mxC_congr {l m : List VX} {ps : List Hs} (h : ∀ p ∈ ps, ckOf l p = ckOf m p) : mxC l ps = mxC m ps := by
 unfold mxC
 generalize (0 : Int) = z
 induction ps generalizing z with
 | nil => rfl
 | cons q ps ih =>
  rw [List.foldl_cons, List.foldl_cons, h q List.mem_cons_self]
  exact ih (fun p hp => h p (List.mem_cons_of_mem _ hp)) _
theorem feed_fit {L R : List EX} (hG : Good L) (hp : R.Perm L) (hs : R.Pairwise fun a b => a.N.ck ≤ b.N.ck) {t : Nat} (ht : t < R.length) {l m : List VX} (hh : l = (R.take t).map vxE) (hw : m = []) : fitV l m (vxE R[t]) = (2, 0) := by
 have hnL : ((L.map vxE).map (·.id)).Nodup := by rw [idsE_vx]; exact hG.nd
 have hnR : (idsE R).Nodup := (hp.map (fun x : EX => x.id)).nodup_iff.2 hG.nd
 have hnR' : ((R.map vxE).map (·.id)).Nodup := by rw [idsE_vx]; exact hnR
 have hxL : R[t] ∈ L := hp.subset (List.getElem_mem ht)
 have hsub : ∀ v ∈ l, v ∈ R.map vxE := fun v hv => by
  rw [hh, List.map_take] at hv
  exact List.mem_of_mem_take hv
 have hnl : (l.map (·.id)).Nodup := by
  rw [hh, List.map_take, List.map_take]
  exact hnR'.sublist (List.take_sublist _ _)
 obtain ⟨hpar, hck⟩ := hG.par hxL
 have hold : ∀ p ∈ R[t].N.ps, ∃ y, y ∈ R.take t ∧ y ∈ L ∧ y.id = p := fun p hpp => by
  obtain ⟨v, hv, hid⟩ := hasB_iff.1 (hpar p hpp)
  obtain ⟨y, hy, rfl⟩ := List.mem_map.1 hv
  have hcy : ckOf (L.map vxE) p = y.N.ck := by
   have := ckOf_mem hnL (List.mem_map.2 ⟨y, hy, rfl⟩ : vxE y ∈ L.map vxE)
   rw [hid] at this; exact this
  have hlt := mxC_ge (l := L.map vxE) R[t].N.ps hpp
  rw [hcy] at hlt
  obtain ⟨j, hj, ej⟩ := List.mem_iff_getElem.1 (hp.symm.subset hy)
  refine ⟨y, ?_, hy, hid⟩
  have hjt : j < t := by
   rcases Nat.lt_or_ge j t with h | h
   ·exact h
   ·exfalso
    rcases Nat.eq_or_lt_of_le h with h | h
    ·subst h
     rw [ej] at hck hlt
     omega
    ·have := (List.pairwise_iff_getElem.1 hs) t j ht hj h
     rw [ej] at this
     omega
  exact List.mem_take_iff_getElem.2 ⟨j, by omega, ej⟩
 have hno : hasB l R[t].id = false := by
  rw [hasB_no, hh]
  intro v hv e
  obtain ⟨y, hy, rfl⟩ := List.mem_map.1 hv
  obtain ⟨j, hj, ej⟩ := List.mem_take_iff_getElem.1 hy
  have e2 : (idsE R)[j]'(by rw [idsE_len]; omega) = (idsE R)[t]'(by rw [idsE_len]; omega) := by
   simp only [idsE, List.getElem_map]; rw [ej]; exact e
  have := (List.getElem_inj hnR).1 e2
  omega
 have hall : R[t].N.ps.all (hasB l) = true := all_iff.2 fun p hpp => by
  obtain ⟨y, hy, _, hid⟩ := hold p hpp
  exact hasB_iff.2 ⟨vxE y, by rw [hh]; exact List.mem_map.2 ⟨y, hy, rfl⟩, hid⟩
 have hmx : mxC l R[t].N.ps = mxC (L.map vxE) R[t].N.ps := mxC_congr fun p hpp => by
  obtain ⟨y, hy, hyL, rfl⟩ := hold p hpp
  have e1 := ckOf_mem hnL (List.mem_map.2 ⟨y, hyL, rfl⟩ : vxE y ∈ L.map vxE)
  have e2 := ckOf_mem hnl (by rw [hh]; exact List.mem_map.2 ⟨y, hy, rfl⟩ : vxE y ∈ l)
  exact e2.trans e1.symm
 have hlen : l.length < 4096 := by
  rw [hh, List.length_map, List.length_take]
  have := hG.len
  have := hp.length_eq
  omega
 have hcv : chkV (vxE R[t]) = 0 := chkV_of (hG.chk hxL) _
 have hnx : nextE l (vxE R[t]) = 0 := by
  unfold nextE
  rw [if_neg (by show ¬ R[t].N.ck ≠ mxC l R[t].N.ps + 1; rw [hmx]; exact fun h => h hck), if_neg (by omega)]
 unfold fitV
 rw [if_neg (by rw [hw]; show ¬ (hasB l R[t].id = true ∨ hasB [] R[t].id = true); rw [hno]; simp [hasB]), if_neg (fun h => h hcv), if_neg (by show ¬ R[t].N.ps.all (hasB l) = false; rw [hall]; decide), if_neg (fun h => h hnx)]
end Go.Proofs.YthlohkgdmfkpeaaGreat
