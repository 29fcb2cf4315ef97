import Derived.Test.YtogmdfhicbmplaaB04
import Derived.Test.YtogmdfhicbmplaaB06
import Derived.Test.YtogmdfhicbmplaaB02
namespace Go.Proofs.Ytogmdfhicbmplaa
open Go.RowKit
set_option linter.unusedSimpArgs false
set_option linter.unusedVariables false

/-- The length of a slice. -/
def lnV : Value → Nat
 | .slice _ n _ => n
 | _ => 0
set_option maxRecDepth 8000 in
set_option maxHeartbeats 1000000 in
theorem shed_one (d : Nat) (v0 : VX) (r : List VX) (Av : Nat → Prop) (g : DG) (w : World) (hD : DagAt w Av d g) (hQ : g.queue = g.wait.map (·.id)) (hW : g.wait = v0 :: r) (hR : g.room = (r.length : Int)) (hQl : g.queue.length ≤ 1000000000) : Calls Try.prog 60 #[ptr d] w fun e w' => ∃ u g', e = .returned u ∧ Ste w w' Av d g g' ∧ (g'.room = g.room ∧ g'.held = g.held ∧ g'.wait = r ∧ g'.queue = r.map (·.id) ∧ g'.order = g.order ∧ g'.heads = g.heads) ∧ OwnH w' u [v0.id] ∧ (∀ k, u.ownBlock = some k → w.heap.size ≤ k ∧ ¬ DgS d g' k) := by
 have HD := Keep.mk hD
 have HQ := Keep.mk hQ
 have HW := Keep.mk hW
 have HR := Keep.mk hR
 have HQl := Keep.mk hQl
 clear hD hQ hW hR hQl
 go_enter Try.func60, Try.ntmps60
 refine wp_seq_k fun K1 hK1 => rgn ?_
 refine VlS (.slice none 0 0) ?_
 refine WL.nil (hK1 _ _ ?_)
 refine wp_seq_k fun K2 hK2 => rgn ?_
 refine VlS (.slice none 0 0) ?_
 refine WL.nil (hK2 _ _ ?_)
 refine wp_seq_k fun K3 hK3 => ?_
 refine wp_block ?_
 refine wp_loop (fun ac wr => ∃ (t : Nat) (u3 u4 u5 u6 u7 u8 u9 u10 u11 u12 u13 u14 u15 u16 u17 u18 u19 u20 u21 u22 u23 u24 u25 u26 u27 : Value) (gr : DG), ac = { tmps := #[.pointer (some ⟨d, 0, none⟩), undef, .slice none 0 0, u3, u4, u5, u6, u7, u8, u9, u10, u11, u12, u13, u14, u15, u16, u17, u18, u19, u20, u21, u22, u23, u24, u25, u26, u27, undef], defers := [] } ∧ ((t = 0 ∧ w = wr ∧ g = gr ∧ .slice none 0 0 = u3) ∨ (t = 1 ∧ Ste w wr Av d g gr ∧ (gr.room = g.room ∧ gr.held = g.held ∧ gr.wait = r ∧ gr.queue = r.map (·.id) ∧ gr.order = g.order ∧ gr.heads = g.heads) ∧ OwnH wr u3 [v0.id] ∧ (∀ k, u3.ownBlock = some k → w.heap.size ≤ k ∧ ¬ DgS d gr k)))) (fun a _ => 1 - lnV (a.tmps.getD 3 undef)) ⟨0, .slice none 0 0, undef, undef, undef, undef, undef, undef, undef, undef, undef, undef, undef, undef, undef, undef, undef, undef, undef, undef, undef, undef, undef, undef, undef, undef, g, rfl, .inl ⟨rfl, rfl, rfl, rfl⟩⟩ ?_
 rintro ac wr ⟨t, u3, u4, u5, u6, u7, u8, u9, u10, u11, u12, u13, u14, u15, u16, u17, u18, u19, u20, u21, u22, u23, u24, u25, u26, u27, gr, rfl, hX⟩
 rcases hX with ⟨rfl, rfl, rfl, rfl⟩ | ⟨rfl, hS, hG, hO, hN⟩
 ·have JA := Keep.mk HD.out
  obtain ⟨qa, qc, hqv⟩ := JA.out.oq.sl
  have Hqv := Keep.mk hqv
  clear hqv
  have hql0 : 0 < g.queue.length := by rw [HQ.out, HW.out]; simp
  have hle : g.room < (g.queue.length : Int) := by rw [HR.out, HQ.out, HW.out]; simp; omega
  refine wp_seq_k fun K4 hK4 => ?_
  refine wp_seq_k fun K5 hK5 => ?_
  have hS0 : Keep (w.drew.cell? ⟨d, 5, none⟩ = some (.slice qa g.queue.length qc) ∧ w.drew.cell? ⟨d, 0, none⟩ = some (.int .i64 g.room)) := ⟨by have h := JA.out.blk.drew.c 5 (by rfl : (dgA g)[5]? = some g.qv); rw [Hqv.out] at h; exact h, JA.out.blk.drew.c 0 rfl⟩
  refine wp_region_held_drew (S := fun wx => wx.cell? ⟨d, 5, none⟩ = some (.slice qa g.queue.length qc) ∧ wx.cell? ⟨d, 0, none⟩ = some (.int .i64 g.room)) (by kernel_rfl) (hS0.out) (fun hHeld => ?_)
  refine tkS (i := 0) (oi := ⟨some 5, Op.move (Operand.tmp 0), 27, _, _, none⟩) (v := .pointer (some ⟨d, 0, none⟩)) rfl (Or.inl ⟨by rfl, fun w hS => by obtain ⟨hS1, hS2⟩ := hS; go_simp⟩) hHeld ?_
  refine tkS (i := 1) (oi := ⟨some 6, Op.nilCheck (Operand.tmp 5), 0, _, _, none⟩) (v := .pointer (some ⟨d, 0, none⟩)) rfl (Or.inl ⟨by rfl, fun w hS => by obtain ⟨hS1, hS2⟩ := hS; go_simp⟩) hHeld ?_
  refine tkS (i := 2) (oi := ⟨some 7, Op.fieldAddr 77 (Operand.tmp 6) 5, 0, _, _, none⟩) (v := .pointer (some ⟨d, 5, none⟩)) rfl (Or.inl ⟨by rfl, fun w hS => by obtain ⟨hS1, hS2⟩ := hS; go_simp⟩) hHeld ?_
  refine tkS (i := 3) (oi := ⟨some 8, Op.load 37 (Operand.tmp 7), 37, _, _, none⟩) (v := .slice qa g.queue.length qc) rfl (Or.inl ⟨by rfl, fun w hS => by obtain ⟨hS1, hS2⟩ := hS; go_simp⟩) hHeld ?_
  refine tkS (i := 4) (oi := ⟨some 9, Op.call { callee := Callee.builtin Builtin.len, args := #[Operand.tmp 8], argTypes := #[37] }, 3, _, _, none⟩) (v := .int .i64 (g.queue.length : Int)) rfl (Or.inl ⟨by rfl, fun w hS => by obtain ⟨hS1, hS2⟩ := hS; go_simp⟩) hHeld ?_
  refine tkS (i := 5) (oi := ⟨some 10, Op.move (Operand.tmp 0), 27, _, _, none⟩) (v := .pointer (some ⟨d, 0, none⟩)) rfl (Or.inl ⟨by rfl, fun w hS => by obtain ⟨hS1, hS2⟩ := hS; go_simp⟩) hHeld ?_
  refine tkS (i := 6) (oi := ⟨some 11, Op.nilCheck (Operand.tmp 10), 0, _, _, none⟩) (v := .pointer (some ⟨d, 0, none⟩)) rfl (Or.inl ⟨by rfl, fun w hS => by obtain ⟨hS1, hS2⟩ := hS; go_simp⟩) hHeld ?_
  refine tkS (i := 7) (oi := ⟨some 12, Op.fieldAddr 77 (Operand.tmp 11) 0, 0, _, _, none⟩) (v := .pointer (some ⟨d, 0, none⟩)) rfl (Or.inl ⟨by rfl, fun w hS => by obtain ⟨hS1, hS2⟩ := hS; go_simp⟩) hHeld ?_
  refine tkS (i := 8) (oi := ⟨some 13, Op.load 3 (Operand.tmp 12), 3, _, _, none⟩) (v := .int .i64 g.room) rfl (Or.inl ⟨by rfl, fun w hS => by obtain ⟨hS1, hS2⟩ := hS; go_simp⟩) hHeld ?_
  refine tkS (i := 9) (oi := ⟨some 14, Op.binOp BinOp.gtr 3 (Operand.tmp 9) (Operand.tmp 13) 3, 4, _, _, none⟩) (v := .bool true) rfl (Or.inl ⟨by rfl, fun w hS => by obtain ⟨hS1, hS2⟩ := hS; go_simp⟩) hHeld ?_
  refine wpAnyH_done (by kernel_rfl) ?_ _
  refine hK5 _ _ ?_
  refine wp_cond_true rfl ?_
  refine wp_skip ?_
  refine hK4 _ _ ?_
  refine wp_block ?_
  refine wp_seq_k fun K6 hK6 => ?_
  have B1 : Keep (Below w.heap.size w w.drew) := ⟨(Below.refl _ _).drew⟩
  have JB := Keep.mk (JA.out.below B1.out)
  clear hS0 hle
  generalize w.drew = ws at *
  obtain ⟨gp, op, hpa, _, _, hrg⟩ := (Hqv.out ▸ JB.out.oq.row : HRow ws (.slice qa g.queue.length qc) g.queue).at hql0
  have hel := rangeAt_elem hrg 0 hql0
  rw [Nat.zero_mul, Nat.add_zero, show g.queue[0] = v0.id by simp [HQ.out, HW.out]] at hel
  have Hel := Keep.mk hel
  subst hpa
  have hql' : (0 : Int) < (g.queue.length : Int) := by omega
  have c5 : ws.cell? ⟨d, 5, none⟩ = some (.slice (some ⟨gp, op, none⟩) g.queue.length qc) := by have h := JB.out.blk.c 5 (by rfl : (dgA g)[5]? = some g.qv); rw [Hqv.out] at h; exact h
  clear hrg hel
  refine rgn ?_
  refine VlS (.pointer (some ⟨d, 0, none⟩)) ?_
  refine VlS (.pointer (some ⟨d, 0, none⟩)) ?_
  refine VlS (.pointer (some ⟨d, 5, none⟩)) ?_
  refine VlS (.slice (some ⟨gp, op, none⟩) g.queue.length qc) ?_
  refine VlS (.pointer (some ⟨gp, op, none⟩)) ?_
  refine WL.mid (by kernel_rfl) 36 (.tmp 19) rfl gp op rfl (encH v0.id) _ Hel.out Try.underlying36 rfl (Try.size36L v0.id) ?_
  rw [enc_load]
  simp only [Act.put, pqA, pqB, pqC]
  refine WL.new (by kernel_rfl) 36 rfl _ Try.new36 ?_
  simp only [Act.put, pqA, pqB, pqC]
  refine WL.storeR (by kernel_rfl) 36 (.tmp 4) (.tmp 20) rfl ws.heap.size (bytesA 32 v0.id.f) rfl rfl 36 (bytesA 32 fun _ => 0) (Blk.new ws 36 _) (Try.size36B _) (bytesA_sizes _ _ _) (bytesA_one _ _) ?_
  have HY := Keep.mk ((Blk.new ws 36 (bytesA 32 fun _ => 0)).setRow (bytesA 32 v0.id.f))
  have BY : Keep (Below ws.heap.size ws ((ws.alloc (.cells (bytesA 32 fun _ => 0) 36)).setRow ws.heap.size (bytesA 32 v0.id.f))) := ⟨below_setRow (below_new ws _) (Nat.le_refl _) _⟩
  generalize (ws.alloc (.cells (bytesA 32 fun _ => 0) 36)).setRow ws.heap.size (bytesA 32 v0.id.f) = wy at *
  have JC := Keep.mk (JB.out.below BY.out)
  have B2 : Keep (Below w.heap.size w wy) := ⟨belowT B1.out BY.out⟩
  have NY : Keep (∀ k, DgS d g k → k ≠ ws.heap.size) := ⟨fun k hk e => by have := JB.out.lt k (JB.out.av k hk); omega⟩
  generalize hbb : ws.heap.size = bb at *
  clear Hel c5
  simp only [Act.put]
  refine WL.nil (hK6 _ _ ?_)
  refine wp_seq_k fun K7 hK7 => rgn ?_
  refine VlS (.pointer (some ⟨d, 0, none⟩)) ?_
  refine WL.row (by kernel_rfl) 36 (.tmp 4) rfl bb rfl 36 (bytesA 32 v0.id.f) _ HY.out Try.underlying36 rfl (Try.size36B _) ?_
  simp only [Act.put, pqA, pqB, pqC]
  have Hqm : Keep (g.queue = v0.id :: r.map (·.id)) := ⟨by rw [HQ.out, HW.out]; rfl⟩
  have hfg := forget_any d v0.id Av g wy JC.out (fun _ => ⟨0, by rw [Hqm.out]; simp, by rw [Hqm.out]; exact ix_head _ _⟩) HQl.out
  refine WL.callF (by kernel_rfl) 43 _ _ rfl Try.in43 #[ptr d, .agg (bytesA 32 v0.id.f)] (by simp [Act.eval]) ?_
  refine (hfg.mono (R' := fun e w' => e = .returned (.bool true) ∧ ∃ g', Ste wy w' Av d g g' ∧ g'.room = g.room ∧ g'.held = g.held ∧ g'.wait = r ∧ g'.queue = r.map (·.id) ∧ g'.order = g.order ∧ g'.heads = g.heads) (fun e w' h => h.elim (fun h => by have h1 := h.1; rw [HW.out, hasB_head] at h1; cases h1) fun ⟨_, h2, i, h3, h4, g', h5, h6, h7, h8, h9, h10, h11⟩ => ⟨h2, g', h5, h6, h7, by rw [h8, HW.out, erase_head], by rw [Hqm.out, ix_head] at h4; have h4 := Int.ofNat_inj.1 h4; subst h4; rw [h9, Hqm.out]; rfl, h10, h11⟩)).mono ?_
  rintro e wz ⟨rfl, g2, hs2, hg2⟩
  refine ⟨_, rfl, ?_⟩
  clear hfg
  have HS3 : Keep (Ste w wz Av d g g2) := ⟨⟨hs2.at', (Grown.below (S := DgS d g) B2.out).trans hs2.grown, fun k hk => (hs2.sub k hk).imp id fun h => Nat.le_trans B2.out.size h⟩⟩
  have HY3 := Keep.mk (hs2.grown.blk HY.out fun e => NY.out _ e rfl)
  have JG3 := Keep.mk hg2
  clear hs2 hg2
  simp only [Act.put, pqA, pqB, pqC]
  refine WL.nil (hK7 _ _ ?_)
  refine rgn ?_
  refine VlS (.slice none 0 0) ?_
  refine WL.row (by kernel_rfl) 36 (.tmp 4) rfl bb rfl 36 (bytesA 32 v0.id.f) _ HY3.out Try.underlying36 rfl (Try.size36B _) ?_
  simp only [Act.put, pqA, pqB, pqC]
  refine WL.bs (by kernel_rfl) 37 1 _ rfl #[(0, .agg (bytesA 32 v0.id.f))] (by simp [Act.eval]) _ _ (bsH v0.id wz) ?_
  have HGy := Keep.mk (Blk.new wz 36 (bytesA 32 v0.id.f))
  have B5 := Keep.mk (below_new wz (.cells (bytesA 32 v0.id.f) 36))
  generalize wz.alloc (.cells (bytesA 32 v0.id.f) 36) = w5 at *
  have HS5 := Keep.mk (HS3.out.more B5.out)
  generalize hgy : wz.heap.size = gy at *
  simp only [Act.put, pqA, pqB, pqC]
  refine WL.appH (by kernel_rfl) (.tmp 24) (.tmp 26) rfl _ [] gy v0.id rfl rfl (ownH_nil _) HGy.out (by simp) fun v6 w6 h1 h2 h3 => ?_
  have B6 : Keep (Below w5.heap.size w5 w6) := ⟨h2.to_below (fun k _ e => by cases e) (Nat.le_refl _)⟩
  have HS6 := Keep.mk (HS5.out.more B6.out)
  have JN5 : Keep (∀ k, v6.ownBlock = some k → w.heap.size ≤ k ∧ ¬ DgS d g2 k) := ⟨fun k hk => h3.elim (fun e => by rw [hk] at e; cases e) fun ⟨q, e, hq⟩ => by rw [hk] at e; have := Option.some.inj e; subst this; exact ⟨Nat.le_trans HS5.out.grown.size hq, fun e => by have := HS5.out.at'.lt k (.inr e); omega⟩⟩
  have JO6 : Keep (OwnH w6 v6 [v0.id]) := ⟨h1⟩
  clear h1 h2 h3
  simp only [Act.put, pqA, pqB, pqC]
  refine VlS (v6) ?_
  refine WL.nil ?_
  obtain ⟨a6, c6, e6⟩ := JO6.out.sl
  refine ⟨⟨1, v6, .pointer (some ⟨bb, 0, none⟩), .pointer (some ⟨d, 0, none⟩), .pointer (some ⟨d, 0, none⟩), .pointer (some ⟨d, 5, none⟩), .slice (some ⟨gp, op, none⟩) g.queue.length qc, .int .i64 (g.queue.length : Int), .pointer (some ⟨d, 0, none⟩), .pointer (some ⟨d, 0, none⟩), .pointer (some ⟨d, 0, none⟩), .int .i64 g.room, .bool true, .pointer (some ⟨d, 0, none⟩), .pointer (some ⟨d, 0, none⟩), .pointer (some ⟨d, 5, none⟩), .slice (some ⟨gp, op, none⟩) g.queue.length qc, .pointer (some ⟨gp, op, none⟩), .agg (bytesA 32 v0.id.f), .pointer (some ⟨d, 0, none⟩), .agg (bytesA 32 v0.id.f), .bool true, .slice none 0 0, .agg (bytesA 32 v0.id.f), .slice (some ⟨gy, 0, none⟩) 1 1, v6, g2, rfl, .inr ⟨rfl, HS6.out, JG3.out, JO6.out, JN5.out⟩⟩, ?_⟩
  subst e6
  exact Nat.zero_lt_one
 ·have JS := Keep.mk hS
  have JG := Keep.mk hG
  have JO := Keep.mk hO
  have JN := Keep.mk hN
  clear hS hG hO hN
  obtain ⟨qa, qc, hqv⟩ := JS.out.at'.oq.sl
  have Hqv := Keep.mk hqv
  clear hqv
  have hle : ¬ gr.room < (gr.queue.length : Int) := by rw [JG.out.1, HR.out, JG.out.2.2.2.1, List.length_map]; omega
  refine wp_seq_k fun K8 hK8 => ?_
  refine wp_seq_k fun K9 hK9 => ?_
  have hS0 : Keep (wr.drew.cell? ⟨d, 5, none⟩ = some (.slice qa gr.queue.length qc) ∧ wr.drew.cell? ⟨d, 0, none⟩ = some (.int .i64 gr.room)) := ⟨by have h := JS.out.at'.blk.drew.c 5 (by rfl : (dgA gr)[5]? = some gr.qv); rw [Hqv.out] at h; exact h, JS.out.at'.blk.drew.c 0 rfl⟩
  refine wp_region_held_drew (S := fun wx => wx.cell? ⟨d, 5, none⟩ = some (.slice qa gr.queue.length qc) ∧ wx.cell? ⟨d, 0, none⟩ = some (.int .i64 gr.room)) (by kernel_rfl) (hS0.out) (fun hHeld => ?_)
  refine tkS (i := 0) (oi := ⟨some 5, Op.move (Operand.tmp 0), 27, _, _, none⟩) (v := .pointer (some ⟨d, 0, none⟩)) rfl (Or.inl ⟨by rfl, fun w hS => by obtain ⟨hS1, hS2⟩ := hS; go_simp⟩) hHeld ?_
  refine tkS (i := 1) (oi := ⟨some 6, Op.nilCheck (Operand.tmp 5), 0, _, _, none⟩) (v := .pointer (some ⟨d, 0, none⟩)) rfl (Or.inl ⟨by rfl, fun w hS => by obtain ⟨hS1, hS2⟩ := hS; go_simp⟩) hHeld ?_
  refine tkS (i := 2) (oi := ⟨some 7, Op.fieldAddr 77 (Operand.tmp 6) 5, 0, _, _, none⟩) (v := .pointer (some ⟨d, 5, none⟩)) rfl (Or.inl ⟨by rfl, fun w hS => by obtain ⟨hS1, hS2⟩ := hS; go_simp⟩) hHeld ?_
  refine tkS (i := 3) (oi := ⟨some 8, Op.load 37 (Operand.tmp 7), 37, _, _, none⟩) (v := .slice qa gr.queue.length qc) rfl (Or.inl ⟨by rfl, fun w hS => by obtain ⟨hS1, hS2⟩ := hS; go_simp⟩) hHeld ?_
  refine tkS (i := 4) (oi := ⟨some 9, Op.call { callee := Callee.builtin Builtin.len, args := #[Operand.tmp 8], argTypes := #[37] }, 3, _, _, none⟩) (v := .int .i64 (gr.queue.length : Int)) rfl (Or.inl ⟨by rfl, fun w hS => by obtain ⟨hS1, hS2⟩ := hS; go_simp⟩) hHeld ?_
  refine tkS (i := 5) (oi := ⟨some 10, Op.move (Operand.tmp 0), 27, _, _, none⟩) (v := .pointer (some ⟨d, 0, none⟩)) rfl (Or.inl ⟨by rfl, fun w hS => by obtain ⟨hS1, hS2⟩ := hS; go_simp⟩) hHeld ?_
  refine tkS (i := 6) (oi := ⟨some 11, Op.nilCheck (Operand.tmp 10), 0, _, _, none⟩) (v := .pointer (some ⟨d, 0, none⟩)) rfl (Or.inl ⟨by rfl, fun w hS => by obtain ⟨hS1, hS2⟩ := hS; go_simp⟩) hHeld ?_
  refine tkS (i := 7) (oi := ⟨some 12, Op.fieldAddr 77 (Operand.tmp 11) 0, 0, _, _, none⟩) (v := .pointer (some ⟨d, 0, none⟩)) rfl (Or.inl ⟨by rfl, fun w hS => by obtain ⟨hS1, hS2⟩ := hS; go_simp⟩) hHeld ?_
  refine tkS (i := 8) (oi := ⟨some 13, Op.load 3 (Operand.tmp 12), 3, _, _, none⟩) (v := .int .i64 gr.room) rfl (Or.inl ⟨by rfl, fun w hS => by obtain ⟨hS1, hS2⟩ := hS; go_simp⟩) hHeld ?_
  refine tkS (i := 9) (oi := ⟨some 14, Op.binOp BinOp.gtr 3 (Operand.tmp 9) (Operand.tmp 13) 3, 4, _, _, none⟩) (v := .bool false) rfl (Or.inl ⟨by rfl, fun w hS => by obtain ⟨hS1, hS2⟩ := hS; go_simp⟩) hHeld ?_
  refine wpAnyH_done (by kernel_rfl) ?_ _
  refine hK9 _ _ ?_
  refine wp_cond_false rfl ?_
  refine wp_exit ?_
  refine hK3 _ _ ?_
  refine wp_seq_k fun K10 hK10 => rgn ?_
  refine VlS (u3) ?_
  refine VlS (u3) ?_
  refine WL.nil (hK10 _ _ ?_)
  refine wp_ret ?_
  go_ret
  exact ⟨_, gr, rfl, JS.out.more (Below.refl _ _).drew, JG.out, JO.out.below (Below.refl _ _).drew, JN.out⟩
set_option maxRecDepth 8000 in
set_option maxHeartbeats 1000000 in
theorem add_waitsG (d : Nat) (v : VX) (p : Value) (Av : Nat → Prop) (g : DG) (w : World) (X : DG → Prop) (ol : List Hs) (hD : DagAt w Av d g) (hr : HRow w p v.ps) (hM : ∀ v ∈ g.held, 0 ≤ v.ck ∧ v.ck ≤ 4096) (hL : (v.ps.length : Int) ≤ 9223372036854775806) (hL2 : v.ps.length ≤ 4398046511104) (hFt : fitV g.held g.wait v = (3, 0)) (hW : g.wait.find? (isV v.id) = none) (hQl : g.queue.length ≤ 1000000000)
  (hSh : ∀ (w1 : World) (Av1 : Nat → Prop) (g1 : DG), DagAt w1 Av1 d g1 → (g1.room = g.room ∧ g1.held = g.held ∧ g1.wait = g.wait ++ [v] ∧ g1.queue = g.queue ++ [v.id] ∧ g1.order = g.order ∧ g1.heads = g.heads) → Calls Try.prog 60 #[ptr d] w1 fun e w' => ∃ u g', e = .returned u ∧ Ste w1 w' Av1 d g1 g' ∧ X g' ∧ OwnH w' u ol ∧ (∀ k, u.ownBlock = some k → w1.heap.size ≤ k ∧ ¬ DgS d g' k)) :
  Calls Try.prog 17 #[ptr d, .agg (vtx v.id.f v.ck p)] w fun e w' => ∃ u g', e = .returned (.tuple #[.int .i64 3, u, .int .i64 0]) ∧ Ste w w' Av d g g' ∧ X g' ∧ OwnH w' u ol ∧ (∀ k, u.ownBlock = some k → w.heap.size ≤ k ∧ ¬ DgS d g' k) := by
 obtain ⟨pa, pc, rfl⟩ := hr.form
 obtain ⟨vv, hvv⟩ : ∃ a : Array Value, Keep (a = vtx v.id.f v.ck (.slice pa v.ps.length pc)) := ⟨_, ⟨rfl⟩⟩
 rw [← hvv.out]
 have HD := Keep.mk hD
 have HR := Keep.mk hr
 have HM := Keep.mk hM
 have HL := Keep.mk hL
 have HL2 := Keep.mk hL2
 have HFt := Keep.mk hFt
 have HW := Keep.mk hW
 have HQl := Keep.mk hQl
 have HSh := Keep.mk hSh
 obtain ⟨qa, qc, hqv⟩ := hD.oq.sl
 have Hqv := Keep.mk hqv
 clear hD hr hM hL hL2 hFt hW hQl hqv hSh
 go_enter Try.func17, Try.ntmps17
 refine wp_seq_k fun K1 hK1 => rgn ?_
 refine WL.box (by kernel_rfl) 39 (.tmp 1) rfl (vv) rfl ?_
 obtain ⟨w1, hwn⟩ : ∃ wx, Keep (wx = w.alloc (.cells (vv) 39)) := ⟨_, ⟨rfl⟩⟩
 rw [← hwn.out]
 have HX1 : Keep (Blk w1 w.heap.size 39 (vv)) := ⟨by rw [hwn.out]; exact Blk.new _ _ _⟩
 have LB1 : Keep (Below w.heap.size w w1) := ⟨by rw [hwn.out]; exact below_new _ _⟩
 clear hwn
 have HD1 := Keep.mk (HD.out.below LB1.out)
 have HR1 := Keep.mk (HR.out.below LB1.out)
 simp only [Act.put, pqA, pqB, pqC]
 refine VlS (.int .i64 0) ?_
 refine VlS (.slice none 0 0) ?_
 refine VlS (.int .i64 0) ?_
 refine WL.nil (hK1 _ _ ?_)
 refine wp_seq_k fun K2 hK2 => rgn ?_
 refine VlS (.pointer (some ⟨d, 0, none⟩)) ?_
 refine WL.row (by kernel_rfl) 39 (.tmp 3) rfl w.heap.size rfl 39 vv _ HX1.out Try.underlying39 rfl (by rw [hvv.out]; exact Try.info39s _ _ _) ?_
 simp only [Act.put, pqA, pqB, pqC]
 have hft := fit_any d v _ Av g w1 HD1.out HR1.out HM.out HL.out
 rw [← hvv.out, HFt.out] at hft
 refine WL.callF (by kernel_rfl) 28 _ _ rfl Try.in28 #[ptr d, .agg vv] (by simp [Act.eval]) ?_
 refine (hft).mono ?_
 rintro e w2 ⟨rfl, hz⟩
 refine ⟨_, rfl, ?_⟩
 clear hft
 have HX2 := Keep.mk (HX1.out.below hz HX1.out.lt)
 have LB2 := Keep.mk (belowT LB1.out hz)
 have HD2 := Keep.mk (HD1.out.below hz)
 have HR2 := Keep.mk (HR1.out.below hz)
 clear hz HX1 HD1 HR1
 simp only [Act.put, pqA, pqB, pqC]
 refine VlS (.tuple #[.int .i64 3, .int .i64 0]) ?_
 refine VlS (.int .i64 3) ?_
 refine VlS (.int .i64 0) ?_
 refine VlS (.int .i64 3) ?_
 refine VlS (.int .i64 0) ?_
 refine WL.nil (hK2 _ _ ?_)
 refine wp_seq_k fun K3 hK3 => ?_
 refine wp_seq_k fun K4 hK4 => rgn ?_
 refine VlS (.int .i64 3) ?_
 refine WL.nil (hK4 _ _ ?_)
 refine wp_block ?_
 refine wp_seq_k fun K5 hK5 => rgn ?_
 refine VlS (.bool false) ?_
 refine VlS (.bool false) ?_
 refine WL.nil (hK5 _ _ ?_)
 refine wp_cond_false rfl ?_
 refine wp_seq_k fun K6 hK6 => rgn ?_
 refine VlS (.bool true) ?_
 refine VlS (.bool true) ?_
 refine WL.nil (hK6 _ _ ?_)
 refine wp_cond_true rfl ?_
 refine wp_seq_k fun K7 hK7 => ?_
 have hS0 : Keep ((fun wx => wx.cell? ⟨d, 4, none⟩ = some (.map (some g.wb)) ∧ wx.rangeAt w.heap.size 0 (bytesA 32 v.id.f).toList ∧ wx.rangeAt w.heap.size 0 vv.toList) w2.drew) := ⟨⟨HD2.out.blk.drew.c 4 rfl, vtx_rng (hvv.out ▸ HX2.out.drew), blk_rng HX2.out.drew⟩⟩
 refine wp_region_held_drew (S := fun wx => wx.cell? ⟨d, 4, none⟩ = some (.map (some g.wb)) ∧ wx.rangeAt w.heap.size 0 (bytesA 32 v.id.f).toList ∧ wx.rangeAt w.heap.size 0 vv.toList) (by kernel_rfl) (hS0.out) (fun hHeld => ?_)
 refine tkS (i := 0) (oi := ⟨some 22, Op.move (Operand.tmp 0), 27, _, _, none⟩) (v := .pointer (some ⟨d, 0, none⟩)) rfl (Or.inl ⟨by rfl, fun w hS => by obtain ⟨hS1, hS2, hS3⟩ := hS; go_simp⟩) hHeld ?_
 refine tkS (i := 1) (oi := ⟨some 23, Op.nilCheck (Operand.tmp 22), 0, _, _, none⟩) (v := .pointer (some ⟨d, 0, none⟩)) rfl (Or.inl ⟨by rfl, fun w hS => by obtain ⟨hS1, hS2, hS3⟩ := hS; go_simp⟩) hHeld ?_
 refine tkS (i := 2) (oi := ⟨some 24, Op.fieldAddr 77 (Operand.tmp 23) 4, 0, _, _, none⟩) (v := .pointer (some ⟨d, 4, none⟩)) rfl (Or.inl ⟨by rfl, fun w hS => by obtain ⟨hS1, hS2, hS3⟩ := hS; go_simp⟩) hHeld ?_
 refine tkS (i := 3) (oi := ⟨some 25, Op.load 75 (Operand.tmp 24), 75, _, _, none⟩) (v := .map (some g.wb)) rfl (Or.inl ⟨by rfl, fun w hS => by obtain ⟨hS1, hS2, hS3⟩ := hS; go_simp⟩) hHeld ?_
 refine tkS (i := 4) (oi := ⟨some 26, Op.fieldAddr 39 (Operand.tmp 3) 0, 0, _, _, none⟩) (v := .pointer (some ⟨w.heap.size, 0, none⟩)) rfl (Or.inl ⟨by rfl, fun w hS => by obtain ⟨hS1, hS2, hS3⟩ := hS; go_simp⟩) hHeld ?_
 refine tkS (i := 5) (oi := ⟨some 27, Op.load 36 (Operand.tmp 26), 36, _, _, none⟩) (v := .agg (bytesA 32 v.id.f)) rfl (yieldsIf_ld (by rfl) (Operand.tmp 26) 36 rfl w.heap.size 0 rfl (bytesA 32 v.id.f) _ Try.underlying36 rfl (size36A _) fun w hS => hS.2.1) hHeld ?_
 refine tkS (i := 6) (oi := ⟨some 28, Op.load 39 (Operand.tmp 3), 39, _, _, none⟩) (v := .agg vv) rfl (yieldsIf_ld (by rfl) (Operand.tmp 3) 39 rfl w.heap.size 0 rfl vv _ Try.underlying39 rfl (by rw [hvv.out]; exact Try.info39s _ _ _) fun w hS => hS.2.2) hHeld ?_
 refine wpAnyH_ready (rs := [7]) (by kernel_rfl) (by simp) ?_
 refine AllReadyH.cons (o := ⟨some 29, Op.call { callee := Callee.value (Operand.func 59), args := #[Operand.tmp 28], argTypes := #[39] }, 39, _, _, none⟩) rfl (fun K hK => ?_) AllReadyH.nil
 rw [if_pos (by rfl)]
 have how := own_any v _ w2.drew (HR2.out.below (Below.refl _ _).drew) (by have := HL2.out; omega)
 rw [← hvv.out] at how
 refine wp_callF 59 _ _ rfl Try.in59 #[.agg vv] (by simp [Act.eval]) (fun u wx => ∃ p3, u = .agg (vtx v.id.f v.ck p3) ∧ Fresh w2.drew wx p3 v.ps) (how.mono fun e w' ⟨p3, h1, h2⟩ => ⟨_, h1, p3, rfl, h2⟩) ?_
 clear how
 rintro _ w3 ⟨p3, rfl, hf⟩
 have HF3 := Keep.mk hf
 have B3 : Keep (Below w2.heap.size w2 w3) := ⟨belowT (Below.refl _ w2).drew hf.bel⟩
 have HX3 := Keep.mk (HX2.out.below B3.out HX2.out.lt)
 have HD3 := Keep.mk (HD2.out.below B3.out)
 have LB3 := Keep.mk (belowT LB2.out B3.out)
 obtain ⟨vq, hvq⟩ : ∃ a : Array Value, Keep (a = vtx v.id.f v.ck p3) := ⟨_, ⟨rfl⟩⟩
 rw [← hvq.out]
 refine hK _ _ ⟨HD3.out.blk.c 4 rfl, vtx_rng (hvv.out ▸ HX3.out), blk_rng HX3.out⟩ fun hH1 => ?_
 clear hK hf
 simp only [Act.put, pqA, pqB, pqC]
 refine wpAnyH_ready (rs := [8]) (by kernel_rfl) (by simp) ?_
 refine AllReadyH.cons (o := ⟨none, Op.mapUpdate 75 (Operand.tmp 25) (Operand.tmp 27) (Operand.tmp 29), 0, _, _, none⟩) rfl (fun K hK => ?_) AllReadyH.nil
 rw [if_pos (by rfl)]
 obtain ⟨w4, hr4, hm4, hg4⟩ := upd_new HD3.out.wait (HD3.out.av _ (.inr (.inr (.inl rfl)))) v HW.out p3 HF3.out.own.row fun k hk => ⟨HF3.out.own.lt k hk, fun ha => by have h1 : w2.heap.size ≤ k := HF3.out.new k hk; have := HD2.out.lt k ha; omega⟩
 rw [← hvq.out] at hr4
 refine wp_upd (Operand.tmp 25) (Operand.tmp 27) (Operand.tmp 29) rfl _ _ _ rfl rfl rfl w4 hr4 ?_
 have HX4 := Keep.mk (hg4.blk HX3.out fun e => HD3.out.wait.ne HX3.out e)
 have HD4 := Keep.mk (HD3.out.addWait hm4 hg4)
 have G4 : Keep (Grown w w4 (DgS d g)) := ⟨(Grown.below (S := DgS d g) LB3.out).next (T := fun k => k = g.wb) hg4 fun i _ e => e ▸ .inr (.inr (.inl rfl))⟩
 refine hK _ _ ⟨HD4.out.blk.c 4 rfl, vtx_rng (hvv.out ▸ HX4.out), blk_rng HX4.out⟩ fun hH2 => ?_
 clear hK hr4 hm4 hg4 hS0 HX3 HX2 HD3 HD2 HR2
 simp only [Act.put, pqA, pqB, pqC]
 refine wpAnyH_done (by kernel_rfl) ?_ _
 refine hK7 _ _ ?_
 refine wp_seq_k fun K8 hK8 => ?_
 have c5k : Keep (∀ wx, Below w4.heap.size w4 wx → (fun wx => True ∧ wx.rangeAt w.heap.size 0 (bytesA 32 v.id.f).toList ∧ wx.rangeAt w.heap.size 0 vv.toList) wx) := ⟨fun wx hb => ⟨trivial, vtx_rng (hvv.out ▸ HX4.out.below hb HX4.out.lt), blk_rng (HX4.out.below hb HX4.out.lt)⟩⟩
 have B2 : Keep (Below w4.heap.size w4 w4.drew) := ⟨(Below.refl _ _).drew⟩
 refine wp_region_held_drew (S := fun wx => True ∧ wx.rangeAt w.heap.size 0 (bytesA 32 v.id.f).toList ∧ wx.rangeAt w.heap.size 0 vv.toList) (by kernel_rfl) (c5k.out _ B2.out) (fun hHeld => ?_)
 refine tkS (i := 0) (oi := ⟨some 30, Op.move (Operand.tmp 0), 27, _, _, none⟩) (v := .pointer (some ⟨d, 0, none⟩)) rfl (Or.inl ⟨by rfl, fun w hS => by obtain ⟨hS1, hS2, hS3⟩ := hS; go_simp⟩) hHeld ?_
 refine tkS (i := 1) (oi := ⟨some 31, Op.move (Operand.tmp 0), 27, _, _, none⟩) (v := .pointer (some ⟨d, 0, none⟩)) rfl (Or.inl ⟨by rfl, fun w hS => by obtain ⟨hS1, hS2, hS3⟩ := hS; go_simp⟩) hHeld ?_
 refine tkS (i := 2) (oi := ⟨some 32, Op.nilCheck (Operand.tmp 31), 0, _, _, none⟩) (v := .pointer (some ⟨d, 0, none⟩)) rfl (Or.inl ⟨by rfl, fun w hS => by obtain ⟨hS1, hS2, hS3⟩ := hS; go_simp⟩) hHeld ?_
 refine tkS (i := 3) (oi := ⟨some 33, Op.fieldAddr 77 (Operand.tmp 32) 5, 0, _, _, none⟩) (v := .pointer (some ⟨d, 5, none⟩)) rfl (Or.inl ⟨by rfl, fun w hS => by obtain ⟨hS1, hS2, hS3⟩ := hS; go_simp⟩) hHeld ?_
 refine tkS (i := 5) (oi := ⟨some 35, Op.fieldAddr 39 (Operand.tmp 3) 0, 0, _, _, none⟩) (v := .pointer (some ⟨w.heap.size, 0, none⟩)) rfl (Or.inl ⟨by rfl, fun w hS => by obtain ⟨hS1, hS2, hS3⟩ := hS; go_simp⟩) hHeld ?_
 refine tkS (i := 6) (oi := ⟨some 36, Op.load 36 (Operand.tmp 35), 36, _, _, none⟩) (v := .agg (bytesA 32 v.id.f)) rfl (yieldsIf_ld (by rfl) (Operand.tmp 35) 36 rfl w.heap.size 0 rfl (bytesA 32 v.id.f) _ Try.underlying36 rfl (size36A _) fun w hS => hS.2.1) hHeld ?_
 refine wpAnyH_ready (rs := [4, 7]) (by kernel_rfl) (by simp) ?_
 refine AllReadyH.cons (o := ⟨some 34, Op.load 37 (Operand.tmp 33), 37, _, _, none⟩) rfl (fun K hK => ?_) (AllReadyH.cons (o := ⟨some 37, Op.buildSlice 37 1 #[(0, Operand.tmp 36)], 37, _, _, none⟩) rfl (fun K hK => ?_) AllReadyH.nil)
 all_goals rw [if_pos (by rfl)]
 ·have c_o : w4.drew.cell? ⟨d, 5, none⟩ = some (.slice qa g.queue.length qc) := by have h := (HD4.out.blk.below B2.out HD4.out.blk.lt).c 5 (by rfl : (dgA { g with wait := g.wait ++ [v] })[5]? = some g.qv); rw [Hqv.out] at h; exact h
  refine wp_val (.slice qa g.queue.length qc) (by go_simp) ?_
  clear c_o
  refine hK _ _ (c5k.out _ B2.out) fun hR1 => ?_
  clear hK
  simp only [Act.put, pqA, pqB, pqC]
  refine wpAnyH_ready (rs := [7]) (by kernel_rfl) (by simp) ?_
  refine AllReadyH.cons (o := ⟨some 37, Op.buildSlice 37 1 #[(0, Operand.tmp 36)], 37, _, _, none⟩) rfl (fun K hK => ?_) AllReadyH.nil
  rw [if_pos (by rfl)]
  refine wp_bs 37 1 _ rfl #[(0, .agg (bytesA 32 v.id.f))] (by simp [Act.eval]) _ _ (bsH v.id _) ?_
  have HGy := Keep.mk (Blk.new w4.drew 36 (bytesA 32 v.id.f))
  have BB2 := Keep.mk (belowT B2.out (below_new w4.drew (.cells (bytesA 32 v.id.f) 36)))
  generalize w4.drew.alloc (.cells (bytesA 32 v.id.f) 36) = wb2 at *
  generalize w4.drew.heap.size = gy at *
  refine hK _ _ (c5k.out _ BB2.out) fun hR2 => ?_
  clear hK
  simp only [Act.put, pqA, pqB, pqC]
  refine wpAnyH_ready (rs := [8]) (by kernel_rfl) (by simp) ?_
  refine AllReadyH.cons (o := ⟨some 38, Op.call { callee := Callee.builtin Builtin.append, args := #[Operand.tmp 34, Operand.tmp 37], argTypes := #[37, 37] }, 37, _, _, none⟩) rfl (fun K hK => ?_) AllReadyH.nil
  rw [if_pos (by rfl)]
  refine wp_apH (Operand.tmp 34) (Operand.tmp 37) rfl _ g.queue gy v.id rfl rfl (Hqv.out ▸ (HD4.out.below BB2.out).oq) HGy.out (by have := HQl.out; omega) fun v5 w5 h5 => ?_
  have HN5 := Keep.mk h5
  have HX5 := Keep.mk (h5.2.1.blk (HX4.out.below BB2.out HX4.out.lt) fun e => by have := (((HD4.out.below BB2.out).oq).typ (by show g.qv.ownBlock = _; rw [Hqv.out]; exact e)).one (HX4.out.below BB2.out HX4.out.lt).typ; revert this; decide)
  have HB5 := Keep.mk (h5.2.1.blk (HD4.out.below BB2.out).blk fun e => by have := (((HD4.out.below BB2.out).oq).typ (by show g.qv.ownBlock = _; rw [Hqv.out]; exact e)).one (HD4.out.below BB2.out).blk.typ; revert this; decide)
  refine hK _ _ ⟨trivial, vtx_rng (hvv.out ▸ HX5.out), blk_rng HX5.out⟩ fun hH5 => ?_
  obtain ⟨a5, c5, e5⟩ := h5.1.sl
  subst e5
  clear hK h5
  simp only [Act.put, pqA, pqB, pqC]
  refine tkS (i := 9) (oi := ⟨some 39, Op.nilCheck (Operand.tmp 30), 0, _, _, none⟩) (v := .pointer (some ⟨d, 0, none⟩)) rfl (Or.inl ⟨by rfl, fun w hS => by obtain ⟨hS1, hS2, hS3⟩ := hS; go_simp⟩) hH5 ?_
  refine tkS (i := 10) (oi := ⟨some 40, Op.fieldAddr 77 (Operand.tmp 39) 5, 0, _, _, none⟩) (v := .pointer (some ⟨d, 5, none⟩)) rfl (Or.inl ⟨by rfl, fun w hS => by obtain ⟨hS1, hS2, hS3⟩ := hS; go_simp⟩) hH5 ?_
  refine wpAnyH_ready (rs := [11]) (by kernel_rfl) (by simp) ?_
  refine AllReadyH.cons (o := ⟨none, Op.store 37 (Operand.tmp 40) (Operand.tmp 38), 0, _, _, none⟩) rfl (fun K hK => ?_) AllReadyH.nil
  rw [if_pos (by rfl)]
  have f_o := HB5.out.frozen 5
  have c_o : w5.cell? ⟨d, 5, none⟩ = some (.slice qa g.queue.length qc) := by have h := HB5.out.c 5 (by rfl : (dgA { g with wait := g.wait ++ [v] })[5]? = some g.qv); rw [Hqv.out] at h; exact h
  obtain ⟨n5, hn5⟩ : ∃ n, n = (g.queue ++ [v.id]).length := ⟨_, rfl⟩
  rw [← hn5] at HN5 ⊢
  refine wp_cellS (w5.setCell ⟨d, 5, none⟩ (.slice a5 n5 c5)) (by go_simp) ?_
  clear f_o c_o
  have HD6 := Keep.mk ((HD4.out.below BB2.out).setQ HN5.out.1 (by show Grown _ _ fun k => g.qv.ownBlock = some k; rw [Hqv.out]; exact HN5.out.2.1) (by show Moved _ g.qv _; rw [Hqv.out]; exact HN5.out.2.2))
  have HX6 := Keep.mk (HX5.out.set_ne (b' := d) (j := 5) (fun e => by subst e; have := HX5.out.typ.one HB5.out.typ; revert this; decide) (.slice a5 n5 c5))
  have G6 : Keep (Grown w (w5.setCell ⟨d, 5, none⟩ (.slice a5 n5 c5)) (DgS d g)) := ⟨((G4.out.trans (Grown.below BB2.out)).next HN5.out.2.1 fun i _ e => .inr (.inr (.inr (.inr (.inr (by rw [Hqv.out]; exact e)))))).next (Grown.setCell w5 d 5 _ (S := fun k => k = d) fun _ => rfl) fun i _ e => .inl e⟩
  have M6 : Keep (Moved w g.qv (.slice a5 n5 c5)) := ⟨by rw [Hqv.out]; exact HN5.out.2.2.imp id fun ⟨q, e, h⟩ => ⟨q, e, Nat.le_trans G4.out.size (Nat.le_trans BB2.out.size h)⟩⟩
  generalize w5.setCell ⟨d, 5, none⟩ (.slice a5 n5 c5) = w6 at *
  obtain ⟨v6, hv6⟩ : ∃ u : Value, u = .slice a5 n5 c5 := ⟨_, rfl⟩
  rw [← hv6] at HD6 M6
  refine hK _ _ ⟨trivial, vtx_rng (hvv.out ▸ HX6.out), blk_rng HX6.out⟩ fun hH6 => ?_
  rw [hn5]
  clear hK hH5 hH6 HB5 HX5 HN5 c5k hv6 hn5
  simp only [Act.put, pqA, pqB, pqC]
  refine wpAnyH_done (by kernel_rfl) ?_ _
  refine hK8 _ _ ?_
  refine rgn ?_
  refine VlS (.pointer (some ⟨d, 0, none⟩)) ?_
  have hsh := HSh.out w6 _ { { g with wait := g.wait ++ [v] } with qv := v6, queue := g.queue ++ [v.id] } HD6.out ⟨rfl, rfl, rfl, rfl, rfl, rfl⟩
  refine WL.callF (by kernel_rfl) 60 _ _ rfl Try.in60 #[ptr d] (by simp [Act.eval]) ?_
  refine (hsh).mono ?_
  rintro e w7 ⟨u7, g7, rfl, hs, hx, ho, hn⟩
  refine ⟨_, rfl, ?_⟩
  clear hsh
  have HS7 := Keep.mk hs
  have HX7 := Keep.mk hx
  have HO7 := Keep.mk ho
  have HN7 := Keep.mk hn
  clear hs hx ho hn
  simp only [Act.put, pqA, pqB, pqC]
  refine VlS (u7) ?_
  refine WL.nil (hK3 _ _ ?_)
  refine wp_seq_k fun K9 hK9 => rgn ?_
  refine VlS (.int .i64 3) ?_
  refine VlS (u7) ?_
  refine VlS (.int .i64 0) ?_
  refine VlS (.int .i64 3) ?_
  refine VlS (u7) ?_
  refine VlS (.int .i64 0) ?_
  refine WL.nil (hK9 _ _ ?_)
  refine wp_ret ?_
  go_ret3
  refine ⟨u7, g7, rfl, ⟨HS7.out.at'.avInto (fun k hk => hk.elim (fun e => .inl (.inl e)) .inr) (fun k hk => .inr hk), G6.out.next HS7.out.grown (fun i hi e => (DagAt.setQS (g := { g with wait := g.wait ++ [v] }) M6.out e).elim id fun h => by omega), fun k hk => (HS7.out.sub k hk).elim (fun h => DagAt.setQS (g := { g with wait := g.wait ++ [v] }) M6.out h) fun h => .inr (Nat.le_trans G6.out.size h)⟩, HX7.out, HO7.out, fun k hk => ⟨Nat.le_trans G6.out.size (HN7.out k hk).1, (HN7.out k hk).2⟩⟩
 ·refine wp_bs 37 1 _ rfl #[(0, .agg (bytesA 32 v.id.f))] (by simp [Act.eval]) _ _ (bsH v.id _) ?_
  have HGy := Keep.mk (Blk.new w4.drew 36 (bytesA 32 v.id.f))
  have BB1 := Keep.mk (belowT B2.out (below_new w4.drew (.cells (bytesA 32 v.id.f) 36)))
  generalize w4.drew.alloc (.cells (bytesA 32 v.id.f) 36) = wb1 at *
  generalize w4.drew.heap.size = gy at *
  refine hK _ _ (c5k.out _ BB1.out) fun hR1 => ?_
  clear hK
  simp only [Act.put, pqA, pqB, pqC]
  refine wpAnyH_ready (rs := [4]) (by kernel_rfl) (by simp) ?_
  refine AllReadyH.cons (o := ⟨some 34, Op.load 37 (Operand.tmp 33), 37, _, _, none⟩) rfl (fun K hK => ?_) AllReadyH.nil
  rw [if_pos (by rfl)]
  have c_o : wb1.cell? ⟨d, 5, none⟩ = some (.slice qa g.queue.length qc) := by have h := (HD4.out.blk.below BB1.out HD4.out.blk.lt).c 5 (by rfl : (dgA { g with wait := g.wait ++ [v] })[5]? = some g.qv); rw [Hqv.out] at h; exact h
  refine wp_val (.slice qa g.queue.length qc) (by go_simp) ?_
  clear c_o
  refine hK _ _ (c5k.out _ BB1.out) fun hR2 => ?_
  clear hK
  simp only [Act.put, pqA, pqB, pqC]
  refine wpAnyH_ready (rs := [8]) (by kernel_rfl) (by simp) ?_
  refine AllReadyH.cons (o := ⟨some 38, Op.call { callee := Callee.builtin Builtin.append, args := #[Operand.tmp 34, Operand.tmp 37], argTypes := #[37, 37] }, 37, _, _, none⟩) rfl (fun K hK => ?_) AllReadyH.nil
  rw [if_pos (by rfl)]
  refine wp_apH (Operand.tmp 34) (Operand.tmp 37) rfl _ g.queue gy v.id rfl rfl (Hqv.out ▸ (HD4.out.below BB1.out).oq) HGy.out (by have := HQl.out; omega) fun v5 w5 h5 => ?_
  have HN5 := Keep.mk h5
  have HX5 := Keep.mk (h5.2.1.blk (HX4.out.below BB1.out HX4.out.lt) fun e => by have := (((HD4.out.below BB1.out).oq).typ (by show g.qv.ownBlock = _; rw [Hqv.out]; exact e)).one (HX4.out.below BB1.out HX4.out.lt).typ; revert this; decide)
  have HB5 := Keep.mk (h5.2.1.blk (HD4.out.below BB1.out).blk fun e => by have := (((HD4.out.below BB1.out).oq).typ (by show g.qv.ownBlock = _; rw [Hqv.out]; exact e)).one (HD4.out.below BB1.out).blk.typ; revert this; decide)
  refine hK _ _ ⟨trivial, vtx_rng (hvv.out ▸ HX5.out), blk_rng HX5.out⟩ fun hH5 => ?_
  obtain ⟨a5, c5, e5⟩ := h5.1.sl
  subst e5
  clear hK h5
  simp only [Act.put, pqA, pqB, pqC]
  refine tkS (i := 9) (oi := ⟨some 39, Op.nilCheck (Operand.tmp 30), 0, _, _, none⟩) (v := .pointer (some ⟨d, 0, none⟩)) rfl (Or.inl ⟨by rfl, fun w hS => by obtain ⟨hS1, hS2, hS3⟩ := hS; go_simp⟩) hH5 ?_
  refine tkS (i := 10) (oi := ⟨some 40, Op.fieldAddr 77 (Operand.tmp 39) 5, 0, _, _, none⟩) (v := .pointer (some ⟨d, 5, none⟩)) rfl (Or.inl ⟨by rfl, fun w hS => by obtain ⟨hS1, hS2, hS3⟩ := hS; go_simp⟩) hH5 ?_
  refine wpAnyH_ready (rs := [11]) (by kernel_rfl) (by simp) ?_
  refine AllReadyH.cons (o := ⟨none, Op.store 37 (Operand.tmp 40) (Operand.tmp 38), 0, _, _, none⟩) rfl (fun K hK => ?_) AllReadyH.nil
  rw [if_pos (by rfl)]
  have f_o := HB5.out.frozen 5
  have c_o : w5.cell? ⟨d, 5, none⟩ = some (.slice qa g.queue.length qc) := by have h := HB5.out.c 5 (by rfl : (dgA { g with wait := g.wait ++ [v] })[5]? = some g.qv); rw [Hqv.out] at h; exact h
  obtain ⟨n5, hn5⟩ : ∃ n, n = (g.queue ++ [v.id]).length := ⟨_, rfl⟩
  rw [← hn5] at HN5 ⊢
  refine wp_cellS (w5.setCell ⟨d, 5, none⟩ (.slice a5 n5 c5)) (by go_simp) ?_
  clear f_o c_o
  have HD6 := Keep.mk ((HD4.out.below BB1.out).setQ HN5.out.1 (by show Grown _ _ fun k => g.qv.ownBlock = some k; rw [Hqv.out]; exact HN5.out.2.1) (by show Moved _ g.qv _; rw [Hqv.out]; exact HN5.out.2.2))
  have HX6 := Keep.mk (HX5.out.set_ne (b' := d) (j := 5) (fun e => by subst e; have := HX5.out.typ.one HB5.out.typ; revert this; decide) (.slice a5 n5 c5))
  have G6 : Keep (Grown w (w5.setCell ⟨d, 5, none⟩ (.slice a5 n5 c5)) (DgS d g)) := ⟨((G4.out.trans (Grown.below BB1.out)).next HN5.out.2.1 fun i _ e => .inr (.inr (.inr (.inr (.inr (by rw [Hqv.out]; exact e)))))).next (Grown.setCell w5 d 5 _ (S := fun k => k = d) fun _ => rfl) fun i _ e => .inl e⟩
  have M6 : Keep (Moved w g.qv (.slice a5 n5 c5)) := ⟨by rw [Hqv.out]; exact HN5.out.2.2.imp id fun ⟨q, e, h⟩ => ⟨q, e, Nat.le_trans G4.out.size (Nat.le_trans BB1.out.size h)⟩⟩
  generalize w5.setCell ⟨d, 5, none⟩ (.slice a5 n5 c5) = w6 at *
  obtain ⟨v6, hv6⟩ : ∃ u : Value, u = .slice a5 n5 c5 := ⟨_, rfl⟩
  rw [← hv6] at HD6 M6
  refine hK _ _ ⟨trivial, vtx_rng (hvv.out ▸ HX6.out), blk_rng HX6.out⟩ fun hH6 => ?_
  rw [hn5]
  clear hK hH5 hH6 HB5 HX5 HN5 c5k hv6 hn5
  simp only [Act.put, pqA, pqB, pqC]
  refine wpAnyH_done (by kernel_rfl) ?_ _
  refine hK8 _ _ ?_
  refine rgn ?_
  refine VlS (.pointer (some ⟨d, 0, none⟩)) ?_
  have hsh := HSh.out w6 _ { { g with wait := g.wait ++ [v] } with qv := v6, queue := g.queue ++ [v.id] } HD6.out ⟨rfl, rfl, rfl, rfl, rfl, rfl⟩
  refine WL.callF (by kernel_rfl) 60 _ _ rfl Try.in60 #[ptr d] (by simp [Act.eval]) ?_
  refine (hsh).mono ?_
  rintro e w7 ⟨u7, g7, rfl, hs, hx, ho, hn⟩
  refine ⟨_, rfl, ?_⟩
  clear hsh
  have HS7 := Keep.mk hs
  have HX7 := Keep.mk hx
  have HO7 := Keep.mk ho
  have HN7 := Keep.mk hn
  clear hs hx ho hn
  simp only [Act.put, pqA, pqB, pqC]
  refine VlS (u7) ?_
  refine WL.nil (hK3 _ _ ?_)
  refine wp_seq_k fun K10 hK10 => rgn ?_
  refine VlS (.int .i64 3) ?_
  refine VlS (u7) ?_
  refine VlS (.int .i64 0) ?_
  refine VlS (.int .i64 3) ?_
  refine VlS (u7) ?_
  refine VlS (.int .i64 0) ?_
  refine WL.nil (hK10 _ _ ?_)
  refine wp_ret ?_
  go_ret3
  refine ⟨u7, g7, rfl, ⟨HS7.out.at'.avInto (fun k hk => hk.elim (fun e => .inl (.inl e)) .inr) (fun k hk => .inr hk), G6.out.next HS7.out.grown (fun i hi e => (DagAt.setQS (g := { g with wait := g.wait ++ [v] }) M6.out e).elim id fun h => by omega), fun k hk => (HS7.out.sub k hk).elim (fun h => DagAt.setQS (g := { g with wait := g.wait ++ [v] }) M6.out h) fun h => .inr (Nat.le_trans G6.out.size h)⟩, HX7.out, HO7.out, fun k hk => ⟨Nat.le_trans G6.out.size (HN7.out k hk).1, (HN7.out k hk).2⟩⟩
end Go.Proofs.Ytogmdfhicbmplaa
namespace Go.Proofs.Ytogmdfhicbmplaa
open Go.RowKit
set_option linter.unusedSimpArgs false
set_option linter.unusedVariables false

/-! ### The calls of a Dag of which DI holds. -/
theorem DI.ol {g : DG} (h : DI g) : g.order.length = g.held.length := by
 have hp : g.order.Perm (g.held.map (·.id)) := (List.perm_ext_iff_of_nodup h.oo.nd h.hn).2 fun x => by
  rw [h.om, hasB_iff, List.mem_map]
 rw [hp.length_eq, List.length_map]
theorem DI.hdl {g : DG} (h : DI g) : g.heads.length ≤ g.held.length := by
 have : g.heads ⊆ g.order := fun x hx => (h.om x).2 ((h.hm x).1 hx).1
 have := (pw_nodup h.hd).length_le_of_subset this
 rw [h.ol] at this; exact this
theorem DI.hM {g : DG} (h : DI g) : ∀ v ∈ g.held, 0 ≤ v.ck ∧ v.ck ≤ 4096 := fun v hv => by have := chk_ok (h.hc v hv); omega
theorem DI.wl {g : DG} (h : DI g) : g.wait.length ≤ 64 := by have := h.ql; have := h.room; omega
theorem DI.qlen {g : DG} (h : DI g) : g.queue.length = g.wait.length := by rw [h.q, List.length_map]
theorem take_any (d : Nat) (v : VX) (p : Value) (Av : Nat → Prop) (g : DG) (w : World) (hD : DagAt w Av d g) (hI : DI g) (hr : HRow w p v.ps) (hk : ∀ k, p.ownBlock = some k → k < w.heap.size ∧ ¬ Av k) (hF : hasB g.held v.id = false) (hc : chkV v = 0) :
  Calls Try.prog 58 #[ptr d, .agg (vtx v.id.f v.ck p)] w fun e w' => e = .returned (.tuple #[]) ∧ ∃ g', Ste w w' Av d g g' ∧ tookG g v g' := by
 have hv := chk_ok hc
 have hol := hI.ol
 have hhl := hI.hdl
 have hl := hI.hl
 have hfl : (g.heads.filter (outB v.ps)).length ≤ g.heads.length := List.length_filter_le _ _
 refine (take_gen d v p Av g w (plc v g.order g.order.length g.order.length) (insL g.order (plc v g.order g.order.length g.order.length) v.id) (g.heads.filter (outB v.ps)) (hdsOf g.heads v) hD hr hk (find_none hF) ?_ (insOk_any _ _ _ (plc_spec v g.order).1 (by omega)) (delOk_any _ _ (pw_inc hv.2.1) (by omega) (by omega)) (pw_inc (hI.hd.filter _)) (by omega) ?_).mono ?_
 ·intro w1 Av1 p1 g1 h1 h2 h3
  have := place_any d v p1 Av1 g1 w1 h1 h3 (pw_inc hv.2.1) (by omega) (by rw [h2]; omega)
  rw [h2] at this
  exact this
 ·intro i hi h1 h2
  unfold hdsOf
  rw [cnt_at hi h1 h2]
  exact insOk_any _ _ _ hi (by omega)
 ·rintro e w' ⟨h1, g', h2, h3⟩
  exact ⟨h1, g', h2, h3⟩
theorem fit_cases (l m : List VX) (v : VX) :
  ((hasB l v.id = true ∨ hasB m v.id = true) ∧ fitV l m v = (1, 0)) ∨ (hasB l v.id = false ∧ hasB m v.id = false ∧ chkV v ≠ 0 ∧ fitV l m v = (0, chkV v)) ∨
  (hasB l v.id = false ∧ hasB m v.id = false ∧ chkV v = 0 ∧ v.ps.all (hasB l) = false ∧ fitV l m v = (3, 0)) ∨ (hasB l v.id = false ∧ hasB m v.id = false ∧ chkV v = 0 ∧ v.ps.all (hasB l) = true ∧ nextE l v ≠ 0 ∧ fitV l m v = (0, nextE l v)) ∨
  (hasB l v.id = false ∧ hasB m v.id = false ∧ chkV v = 0 ∧ v.ps.all (hasB l) = true ∧ nextE l v = 0 ∧ fitV l m v = (2, 0)) := by
 unfold fitV
 by_cases h1 : hasB l v.id = true ∨ hasB m v.id = true
 ·rw [if_pos h1]; exact .inl ⟨h1, rfl⟩
 ·rw [if_neg h1]
  rw [not_or, Bool.not_eq_true, Bool.not_eq_true] at h1
  by_cases h2 : chkV v ≠ 0
  ·rw [if_pos h2]; exact .inr (.inl ⟨h1.1, h1.2, h2, rfl⟩)
  ·rw [if_neg h2]
   have h2 := Classical.not_not.1 h2
   by_cases h3 : v.ps.all (hasB l) = false
   ·rw [if_pos h3]; exact .inr (.inr (.inl ⟨h1.1, h1.2, h2, h3, rfl⟩))
   ·rw [if_neg h3]
    have h3 : v.ps.all (hasB l) = true := by simpa using h3
    by_cases h4 : nextE l v ≠ 0
    ·rw [if_pos h4]; exact .inr (.inr (.inr (.inl ⟨h1.1, h1.2, h2, h3, h4, rfl⟩)))
    ·rw [if_neg h4]; exact .inr (.inr (.inr (.inr ⟨h1.1, h1.2, h2, h3, Classical.not_not.1 h4, rfl⟩)))
/-- What Add makes of a Dag; ol: those that wait no more. -/
def addG (g : DG) (v : VX) (ol : List Hs) (g' : DG) : Prop :=
 (fitV g.held g.wait v = (2, 0) ∧ tookG g v g' ∧ ol = []) ∨
 (fitV g.held g.wait v = (3, 0) ∧ (g.wait.length : Int) + 1 ≤ g.room ∧ (g'.room = g.room ∧ g'.held = g.held ∧ g'.wait = g.wait ++ [v] ∧ g'.order = g.order ∧ g'.heads = g.heads) ∧ ol = []) ∨
 (fitV g.held g.wait v = (3, 0) ∧ g.room < (g.wait.length : Int) + 1 ∧ ∃ v0, g.wait ++ [v] = v0 :: g'.wait ∧ (g'.room = g.room ∧ g'.held = g.held ∧ g'.order = g.order ∧ g'.heads = g.heads) ∧ ol = [v0.id]) ∨
 ((fitV g.held g.wait v).1 ≠ 2 ∧ (fitV g.held g.wait v).1 ≠ 3 ∧ g' = g ∧ ol = [])
theorem all_iff {l : List VX} {ps : List Hs} : ps.all (hasB l) = true ↔ ∀ p ∈ ps, hasB l p = true := List.all_eq_true
theorem DI.sheds {g g' : DG} {v v0 : VX} (h : DI g) (hc : chkV v = 0) (h1 : hasB g.held v.id = false) (h2 : hasB g.wait v.id = false) (hw : g.wait ++ [v] = v0 :: g'.wait) (hq : g'.queue = g'.wait.map (·.id)) (t : g'.room = g.room ∧ g'.held = g.held ∧ g'.order = g.order ∧ g'.heads = g.heads) : DI g' := by
 obtain ⟨e1, e2, e5, e6⟩ := t
 have hmem : ∀ u ∈ g'.wait, u ∈ g.wait ∨ u = v := fun u hu => by
  have : u ∈ g.wait ++ [v] := by rw [hw]; exact List.mem_cons_of_mem _ hu
  rcases List.mem_append.1 this with h | h
  ·exact .inl h
  ·exact .inr (List.mem_singleton.1 h)
 have hlen : g'.wait.length = g.wait.length := by
  have := congrArg List.length hw
  simp only [List.length_append, List.length_cons, List.length_nil] at this
  omega
 have hnd : ((g.wait ++ [v]).map (·.id)).Nodup := by
  rw [List.map_append, List.nodup_append]
  refine ⟨h.wn, by simp, fun a ha b hb => ?_⟩
  simp only [List.map_cons, List.map_nil, List.mem_singleton] at hb
  subst hb
  obtain ⟨u, hu, rfl⟩ := List.mem_map.1 ha
  exact hasB_no.1 h2 u hu
 refine ⟨by rw [e1]; exact h.room, by rw [e2]; exact h.hl, by rw [e2]; exact h.hn, ?_, ?_, by rw [e2]; exact h.hc, ?_, hq, by rw [hlen, e1]; exact h.ql, by rw [e2]; exact h.ck, by rw [e2]; exact h.cl, by rw [e5, e2]; exact h.om, by rw [e5, e2]; exact h.oo, by rw [e6]; exact h.hd, by rw [e6, e2]; exact h.hm⟩
 ·rw [hw, List.map_cons, List.nodup_cons] at hnd; exact hnd.2
 ·rw [e2]
  intro u hu
  rcases hmem u hu with hu | rfl
  ·exact h.dj u hu
  ·exact h1
 ·intro u hu
  rcases hmem u hu with hu | rfl
  ·exact h.wc u hu
  ·exact hc
theorem add_any (d : Nat) (v : VX) (p : Value) (Av : Nat → Prop) (g : DG) (w : World) (hD : DagAt w Av d g) (hI : DI g) (hr : HRow w p v.ps) (hL : (v.ps.length : Int) ≤ 9223372036854775806) :
  Calls Try.prog 17 #[ptr d, .agg (vtx v.id.f v.ck p)] w fun e w' => ∃ u g' ol, e = .returned (.tuple #[.int .i64 (fitV g.held g.wait v).1, u, .int .i64 (fitV g.held g.wait v).2]) ∧ Ste w w' Av d g g' ∧ DI g' ∧ addG g v ol g' ∧ OwnH w' u ol ∧ (∀ k, u.ownBlock = some k → w.heap.size ≤ k ∧ ¬ DgS d g' k) := by
 have hql := hI.qlen
 have hwl := hI.wl
 have hother : ∀ hw ee, fitV g.held g.wait v = (hw, ee) → ¬ hw = 2 → ¬ hw = 3 → Calls Try.prog 17 #[ptr d, .agg (vtx v.id.f v.ck p)] w fun e w' => ∃ u g' ol, e = .returned (.tuple #[.int .i64 (fitV g.held g.wait v).1, u, .int .i64 (fitV g.held g.wait v).2]) ∧ Ste w w' Av d g g' ∧ DI g' ∧ addG g v ol g' ∧ OwnH w' u ol ∧ (∀ k, u.ownBlock = some k → w.heap.size ≤ k ∧ ¬ DgS d g' k) := by
  intro hw ee hf h1 h2
  refine (add_other d v p Av g w hw ee hD hr hI.hM hL hf ⟨h1, h2⟩).mono ?_
  rintro e w' ⟨rfl, hb⟩
  rw [hf]
  exact ⟨_, g, [], rfl, Ste.refl hD hb, hI, .inr (.inr (.inr ⟨by rw [hf]; exact h1, by rw [hf]; exact h2, rfl, rfl⟩)), ownH_nil _, fun k hk => by cases hk⟩
 rcases fit_cases g.held g.wait v with ⟨_, hf⟩ | ⟨_, _, _, hf⟩ | ⟨h1, h2, h3, h4, hf⟩ | ⟨_, _, _, _, _, hf⟩ | ⟨h1, h2, h3, h4, h5, hf⟩
 ·exact hother _ _ hf (by decide) (by decide)
 ·exact hother _ _ hf (by decide) (by decide)
 ·have hv := chk_ok h3
  by_cases hroom : (g.wait.length : Int) + 1 ≤ g.room
  ·refine (add_waits d v p Av g w hD hr hI.hM hL (by omega) hf (find_none h2) (by rw [hql]; exact hroom) (by omega)).mono ?_
   rintro e w' ⟨rfl, g', hs, hg⟩
   rw [hf]
   exact ⟨_, g', [], rfl, hs, hI.waits h3 h1 h2 hroom hg, .inr (.inl ⟨hf, hroom, ⟨hg.1, hg.2.1, hg.2.2.1, hg.2.2.2.2⟩, rfl⟩), ownH_nil _, fun k hk => by cases hk⟩
  ·have hre : g.room = (g.wait.length : Int) := by have := hI.ql; omega
   obtain ⟨v0, r, hvr⟩ : ∃ v0 r, g.wait ++ [v] = v0 :: r := by cases hg : g.wait with
    | nil => exact ⟨v, [], rfl⟩
    | cons a b => exact ⟨a, b ++ [v], rfl⟩
   have hrl : r.length = g.wait.length := by
    have := congrArg List.length hvr
    simp only [List.length_append, List.length_cons, List.length_nil] at this
    omega
   refine (add_waitsG d v p Av g w (fun g' => g'.room = g.room ∧ g'.held = g.held ∧ g'.wait = r ∧ g'.queue = r.map (·.id) ∧ g'.order = g.order ∧ g'.heads = g.heads) [v0.id] hD hr hI.hM hL (by omega) hf (find_none h2) (by omega) ?_).mono ?_
   ·rintro w1 Av1 g1 hD1 ⟨e1, e2, e3, e4, e5, e6⟩
    refine (shed_one d v0 r Av1 g1 w1 hD1 (by rw [e4, e3, hI.q, List.map_append]; rfl) (by rw [e3, hvr]) (by rw [e1, hre, hrl]) (by rw [e4, List.length_append]; simp; omega)).mono ?_
    rintro e w' ⟨u, g', rfl, hs, ⟨f1, f2, f3, f4, f5, f6⟩, ho, hn⟩
    exact ⟨u, g', rfl, hs, ⟨f1.trans e1, f2.trans e2, f3, f4, f5.trans e5, f6.trans e6⟩, ho, hn⟩
   ·rintro e w' ⟨u, g', rfl, hs, ⟨f1, f2, f3, f4, f5, f6⟩, ho, hn⟩
    rw [hf]
    exact ⟨u, g', [v0.id], rfl, hs, hI.sheds h3 h1 h2 (by rw [f3]; exact hvr) (by rw [f3, f4]) ⟨f1, f2, f5, f6⟩, .inr (.inr (.inl ⟨hf, by omega, v0, by rw [f3]; exact hvr, ⟨f1, f2, f5, f6⟩, rfl⟩)), ho, hn⟩
 ·exact hother _ _ hf (by decide) (by decide)
 ·have hv := chk_ok h3
  refine (add_took d v p Av g w (tookG g v) hD hr hI.hM hL (by omega) hf ?_).mono ?_
  ·intro w1 p1 h6 h7 h8
   exact take_any d v p1 Av g w1 h6 hI h7 h8 h1 h3
  ·rintro e w' ⟨rfl, g', hs, ht⟩
   rw [hf]
   exact ⟨_, g', [], rfl, hs, hI.took h3 h1 h2 (all_iff.1 h4) h5 ht, .inl ⟨hf, ht, rfl⟩, ownH_nil _, fun k hk => by cases hk⟩
/-- What Settle makes of a Dag. -/
def setG (g : DG) (x : Hs) (g' : DG) : Prop :=
 ((rdyE g.held g.wait x = 6 ∨ rdyE g.held g.wait x = 9) ∧ g' = g) ∨
 (rdyE g.held g.wait x = 0 ∧ ∃ v, g.wait.find? (isV x) = some v ∧ g'.room = g.room ∧ g'.held = g.held ++ [v] ∧ g'.wait = g.wait.eraseP (isV x) ∧ g'.order = insL g.order (plc v g.order g.order.length g.order.length) v.id ∧ g'.heads = hdsOf g.heads v) ∨
 ((rdyE g.held g.wait x = 3 ∨ rdyE g.held g.wait x = 51) ∧ ∃ v, g.wait.find? (isV x) = some v ∧ g'.room = g.room ∧ g'.held = g.held ∧ g'.wait = g.wait.eraseP (isV x) ∧ g'.order = g.order ∧ g'.heads = g.heads)
theorem rdy_cases (l m : List VX) (x : Hs) :
  (m.find? (isV x) = none ∧ rdyE l m x = 6) ∨ ∃ v, m.find? (isV x) = some v ∧ ((v.ps.all (hasB l) = false ∧ rdyE l m x = 9) ∨ (v.ps.all (hasB l) = true ∧ rdyE l m x = nextE l v ∧ (nextE l v = 0 ∨ nextE l v = 3 ∨ nextE l v = 51))) := by
 unfold rdyE
 cases h : m.find? (isV x) with
 | none => exact .inl ⟨rfl, rfl⟩
 | some v =>
  refine .inr ⟨v, rfl, ?_⟩
  by_cases h1 : v.ps.all (hasB l) = true
  ·refine .inr ⟨h1, by simp only [h1, if_true], ?_⟩
   unfold nextE
   split
   ·exact .inr (.inr rfl)
   ·split
    ·exact .inr (.inl rfl)
    ·exact .inl rfl
  ·exact .inl ⟨by simpa using h1, by simp only [h1]; rfl⟩
theorem settle_any (d : Nat) (x : Hs) (Av : Nat → Prop) (g : DG) (w : World) (hD : DagAt w Av d g) (hI : DI g) :
  Calls Try.prog 29 #[ptr d, .agg (bytesA 32 x.f)] w fun e w' => ∃ g', e = .returned (.tuple #[.int .i64 (if rdyE g.held g.wait x = 0 then 2 else 0), .int .i64 (rdyE g.held g.wait x)]) ∧ Ste w w' Av d g g' ∧ DI g' ∧ setG g x g' := by
 have hL : ∀ v, g.wait.find? (isV x) = some v → v.ps.length ≤ 4398046511104 := fun v hv => by have := chk_ok (hI.wc v (List.mem_of_find?_eq_some hv)); omega
 have hQl : g.queue.length ≤ 1000000000 := by have := hI.qlen; have := hI.wl; omega
 rcases rdy_cases g.held g.wait x with ⟨h1, h2⟩ | ⟨v, h1, ⟨h2, h3⟩ | ⟨h2, h3, h4⟩⟩
 ·refine (settle_absent d x Av g w hD hI.hM hL h2).mono ?_
  rintro e w' ⟨rfl, hb⟩
  rw [h2]
  exact ⟨g, rfl, Ste.refl hD hb, hI, .inl ⟨.inl h2, rfl⟩⟩
 ·refine (settle_state d x Av g w hD hI.hM hL h3).mono ?_
  rintro e w' ⟨rfl, hb⟩
  rw [h3]
  exact ⟨g, rfl, Ste.refl hD hb, hI, .inl ⟨.inr h3, rfl⟩⟩
 ·have hx : v.id = x := isV_iff.1 (List.find?_some h1)
  have hwx : hasB g.wait x = true := by unfold hasB; rw [h1]; rfl
  have hvm : v ∈ g.wait := List.mem_of_find?_eq_some h1
  rcases h4 with h4 | h4
  ·rw [h4] at h3
   refine (settle_took d x Av g w (fun g' => DI g' ∧ setG g x g') hD hI.hM hL v h1 (hI.ix x) hQl h3 ?_).mono ?_
   ·intro w1 p1 Av1 g1 hD1 i hi hg1 hr1 hk1
    have hI1 := hI.forgets hwx hi hg1
    obtain ⟨e1, e2, e3, e4, e5, e6⟩ := hg1
    have hF : hasB g1.held v.id = false := by rw [e2]; exact hI.dj v hvm
    have hW : hasB g1.wait v.id = false := by
     rw [e3, hasB_no, hx]
     exact fun u hu => ((erase_mem hI.wn).1 hu).2
    refine (take_any d v p1 Av1 g1 w1 hD1 hI1 hr1 hk1 hF (hI.wc v hvm)).mono ?_
    rintro e w' ⟨h, g', hs, ht⟩
    refine ⟨h, g', hs, hI1.took (hI.wc v hvm) hF hW (by rw [e2]; exact all_iff.1 h2) (by rw [e2]; exact h4) ht, .inr (.inl ⟨h3, v, h1, ?_⟩)⟩
    obtain ⟨f1, f2, f3, f4, f5, f6⟩ := ht
    exact ⟨f1.trans e1, by rw [f2, e2], by rw [f3, e3], by rw [f5, e5], by rw [f6, e6]⟩
   ·rintro e w' ⟨rfl, g', hs, hx⟩
    rw [h3]
    exact ⟨g', rfl, hs, hx.1, hx.2⟩
  ·have h5 : nextE g.held v ≠ 6 ∧ nextE g.held v ≠ 9 ∧ nextE g.held v ≠ 0 := by rcases h4 with h4 | h4 <;> rw [h4] <;> decide
   refine (settle_goes d x Av g w (nextE g.held v) hD hI.hM hL v h1 (hI.ix x) hQl h3 h5).mono ?_
   rintro e w' ⟨rfl, i, g', hi, hs, hg⟩
   rw [h3, if_neg h5.2.2]
   exact ⟨g', rfl, hs, hI.forgets hwx hi hg, .inr (.inr ⟨by rw [h3]; exact h4, v, h1, hg.1, hg.2.1, hg.2.2.1, hg.2.2.2.2⟩)⟩
/-- What Forget makes of a Dag. -/
def fgtG (g : DG) (x : Hs) (g' : DG) : Prop := (hasB g.wait x = false ∧ g' = g) ∨ (hasB g.wait x = true ∧ g'.room = g.room ∧ g'.held = g.held ∧ g'.wait = g.wait.eraseP (isV x) ∧ g'.order = g.order ∧ g'.heads = g.heads)
theorem forgets_any (d : Nat) (x : Hs) (Av : Nat → Prop) (g : DG) (w : World) (hD : DagAt w Av d g) (hI : DI g) :
  Calls Try.prog 43 #[ptr d, .agg (bytesA 32 x.f)] w fun e w' => ∃ g', e = .returned (.bool (hasB g.wait x)) ∧ Ste w w' Av d g g' ∧ DI g' ∧ fgtG g x g' := by
 have hQl : g.queue.length ≤ 1000000000 := by have := hI.qlen; have := hI.wl; omega
 refine (forget_any d x Av g w hD (hI.ix x) hQl).mono ?_
 rintro e w' (⟨h1, rfl, hb⟩ | ⟨h1, rfl, i, _, hi, g', hs, hg⟩)
 ·rw [h1]; exact ⟨g, rfl, Ste.refl hD hb, hI, .inl ⟨h1, rfl⟩⟩
 ·rw [h1]; exact ⟨g', rfl, hs, hI.forgets h1 hi hg, .inr ⟨h1, hg.1, hg.2.1, hg.2.2.1, hg.2.2.2.2⟩⟩
/-! ### A Dag that lies above B. -/
structure DS (B : Nat) (w : World) (d : Nat) (g : DG) : Prop where
 at' : DagAt w (DgS d g) d g
 di : DI g
 lo : ∀ k, DgS d g k → B ≤ k
theorem DS.below {B : Nat} {w w' : World} {d : Nat} {g : DG} (h : DS B w d g) (hb : Below w.heap.size w w') : DS B w' d g := ⟨h.at'.below hb, h.di, h.lo⟩
theorem new_ds (r : Int) (w : World) : Calls Try.prog 10 #[.int .i64 r] w fun e w' =>
  ((r < 0 ∨ 64 < r) ∧ e = .returned (.tuple #[.pointer none, .int .i64 1]) ∧ Below w.heap.size w w') ∨ (0 ≤ r ∧ r ≤ 64 ∧ ∃ d g, e = .returned (.tuple #[.pointer (some ⟨d, 0, none⟩), .int .i64 0]) ∧ DS w.heap.size w' d g ∧ Below w.heap.size w w' ∧ g.room = r ∧ g.held = [] ∧ g.wait = [] ∧ g.order = [] ∧ g.heads = []) := by
 refine (new_any r w).mono ?_
 rintro e w' (⟨h, rfl, rfl⟩ | ⟨h, d, g, rfl, hD, h1, h2, h3, h4, h5, h6, hB, hl⟩)
 ·exact .inl ⟨h, rfl, Below.refl _ _⟩
 ·refine .inr ⟨by omega, by omega, d, g, rfl, ⟨hD, ?_, hl⟩, hB, h1, h2, h3, h5, h4⟩
  refine ⟨by rw [h1]; omega, by rw [h2]; simp, by rw [h2]; simp, by rw [h3]; simp, by rw [h3]; simp, by rw [h2]; simp, by rw [h3]; simp, by rw [h6, h3]; rfl, by rw [h3, h1]; simp; omega, by rw [h2]; simp, by rw [h2]; simp, by rw [h5, h2]; simp [hasB], ?_, by rw [h4]; simp, by rw [h4, h2]; simp [hasB]⟩
  rw [h5]
  exact ⟨List.nodup_nil, by simp, by simp, by simp⟩
end Go.Proofs.Ytogmdfhicbmplaa
namespace Go.Proofs.Ytogmdfhicbmplaa
open Go.RowKit
set_option linter.unusedSimpArgs false
set_option linter.unusedVariables false

/-! ### Vertices that came, each followed by all that could be settled then. -/
end Go.Proofs.Ytogmdfhicbmplaa
namespace Go.Proofs.Ytogmdfhicbmplaa
open Go.RowKit
set_option linter.unusedSimpArgs false
set_option linter.unusedVariables false

/-! ### Lists of things of s cells. -/
section
variable {α : Type} {enc : α → List Value} {s : Nat}
theorem flat_len (hs : ∀ x, (enc x).length = s) : ∀ L : List α, (L.flatMap enc).length = L.length * s
 | [] => by simp
 | x :: L => by rw [List.flatMap_cons, List.length_append, hs, flat_len hs L, List.length_cons, Nat.add_mul, Nat.one_mul, Nat.add_comm]
theorem flat_get (hs : ∀ x, (enc x).length = s) : ∀ (L : List α) (i : Nat) (hi : i < L.length) (j : Nat), j < s → (L.flatMap enc)[i * s + j]? = (enc L[i])[j]?
 | x :: L, 0, _, j, hj => by rw [List.flatMap_cons, Nat.zero_mul, Nat.zero_add, List.getElem?_append_left (by rw [hs]; exact hj)]; rfl
 | x :: L, i + 1, hi, j, hj => by
  rw [List.flatMap_cons, List.getElem?_append_right (by rw [hs, Nat.add_mul]; omega), hs, show (i + 1) * s + j - s = i * s + j by rw [Nat.add_mul]; omega]
  exact flat_get hs L i (by simpa using hi) j hj
theorem flat_take (hs : ∀ x, (enc x).length = s) : ∀ (L : List α) (k : Nat), (L.flatMap enc).take (k * s) = (L.take k).flatMap enc
 | L, 0 => by simp
 | [], k + 1 => by simp
 | x :: L, k + 1 => by
  rw [List.flatMap_cons, List.take_succ_cons, List.flatMap_cons, List.take_append, hs, List.take_of_length_le (by rw [hs, Nat.add_mul]; omega), show (k + 1) * s - s = k * s by rw [Nat.add_mul]; omega, flat_take hs L k]
theorem flat_drop (hs : ∀ x, (enc x).length = s) : ∀ (L : List α) (k : Nat), (L.flatMap enc).drop (k * s) = (L.drop k).flatMap enc
 | L, 0 => by simp
 | [], k + 1 => by simp
 | x :: L, k + 1 => by
  rw [List.flatMap_cons, List.drop_succ_cons, List.drop_append, hs, List.drop_of_length_le (by rw [hs, Nat.add_mul]; omega), List.nil_append, show (k + 1) * s - s = k * s by rw [Nat.add_mul]; omega, flat_drop hs L k]
theorem flat_elem (hs : ∀ x, (enc x).length = s) {w : World} {b off : Nat} {L : List α} (h : w.rangeAt b off (L.flatMap enc)) (i : Nat) (hi : i < L.length) : w.rangeAt b (off + i * s) (enc L[i]) := fun j v hv => by
 have hj : j < s := by have := (List.getElem?_eq_some_iff.1 hv).1; rw [hs] at this; exact this
 have := h (i * s + j) v (by rw [flat_get hs L i hi j hj]; exact hv)
 rw [show off + (i * s + j) = off + i * s + j by omega] at this
 exact this
theorem flat_of_elems (hs : ∀ x, (enc x).length = s) {w : World} {b off : Nat} {L : List α} (h : ∀ i (hi : i < L.length), w.rangeAt b (off + i * s) (enc L[i])) : w.rangeAt b off (L.flatMap enc) := fun j v hv => by
 have hj := (List.getElem?_eq_some_iff.1 hv).1
 rw [flat_len hs] at hj
 have hs0 : 0 < s := by
  rcases Nat.eq_zero_or_pos s with h0 | h0
  ·rw [h0] at hj; omega
  ·exact h0
 have hi : j / s < L.length := by rw [Nat.div_lt_iff_lt_mul hs0]; exact hj
 have hm := Nat.mod_lt j hs0
 have he : j / s * s + j % s = j := by rw [Nat.mul_comm]; exact Nat.div_add_mod j s
 have hg := flat_get hs L (j / s) hi (j % s) hm
 rw [he, hv] at hg
 have := h (j / s) hi (j % s) v hg.symm
 rw [show off + j / s * s + j % s = off + j by omega] at this
 exact this
end
/-! ### Lists of vertices. -/
/-- A vertex and its parents' slice. -/
abbrev VP := VX × Value
def encV (q : VP) : List Value := (vtx q.1.id.f q.1.ck q.2).toList
theorem encV_len (q : VP) : (encV q).length = 34 := by rw [encV, Array.length_toList, vtx_size]
/-- v is a slice of these vertices. -/
def VRow (w : World) (v : Value) (L : List VP) : Prop :=
 ((∃ a c, v = .slice a 0 c ∧ L = []) ∨ ∃ b off c, v = .slice (some ⟨b, off, none⟩) L.length c ∧ L.length ≤ c ∧ w.rangeAt b off (L.flatMap encV)) ∧ ∀ q ∈ L, HRow w q.2 q.1.ps ∧ q.1.ps.length ≤ 4398046511104
theorem VRow.form {w : World} {v : Value} {L : List VP} (h : VRow w v L) : ∃ a c, v = .slice a L.length c := by
 rcases h.1 with ⟨a, c, rfl, rfl⟩ | ⟨b, off, c, rfl, _⟩
 ·exact ⟨a, c, rfl⟩
 ·exact ⟨_, c, rfl⟩
theorem VRow.at {w : World} {a : Option Addr} {n c : Nat} {L : List VP} (h : VRow w (.slice a n c) L) (hL : 0 < L.length) : ∃ b off, a = some ⟨b, off, none⟩ ∧ L.length ≤ c ∧ w.rangeAt b off (L.flatMap encV) := by
 rcases h.1 with ⟨a, c, _, rfl⟩ | ⟨b, off, c, e, h1, h2⟩
 ·simp at hL
 ·injection e with e1 e2 e3
  subst e1 e3
  exact ⟨b, off, rfl, h1, h2⟩
theorem flatV_lt {w : World} {b off : Nat} {L : List VP} (h : w.rangeAt b off (L.flatMap encV)) (hL : 0 < L.length) : b < w.heap.size := by
 have h0 := flat_elem encV_len h 0 hL
 have h1 : (encV L[0])[32]? = some (.int .i64 L[0].1.ck) := by rw [encV, Array.getElem?_toList, vtx_ck]
 exact cell_lt (h0 32 _ h1)
theorem VRow.below {w w' : World} {v : Value} {L : List VP} (h : VRow w v L) (hb : Below w.heap.size w w') : VRow w' v L := by
 refine ⟨?_, fun q hq => ⟨(h.2 q hq).1.below hb, (h.2 q hq).2⟩⟩
 rcases h.1 with h1 | ⟨b, off, c, rfl, h2, h3⟩
 ·exact .inl h1
 ·by_cases h0 : 0 < L.length
  ·exact .inr ⟨b, off, c, rfl, h2, rangeAt_below h3 hb (flatV_lt h3 h0)⟩
  ·have : L = [] := List.eq_nil_of_length_eq_zero (by omega)
   subst this
   exact .inl ⟨_, c, rfl, rfl⟩
/-! ### Below a mark. -/
end Go.Proofs.Ytogmdfhicbmplaa
namespace Go.Proofs.Ytogmdfhicbmplaa
open Go.RowKit
set_option linter.unusedSimpArgs false
set_option linter.unusedVariables false

theorem Try.in19 (w : World) (vs : Array Value) : (callFunc 19 vs).run Try.prog w = .ok (.enter 19 vs) w := by kernel_rfl
theorem Try.in62 (w : World) (vs : Array Value) : (callFunc 62 vs).run Try.prog w = .ok (.enter 62 vs) w := by kernel_rfl
theorem Try.in12 (w : World) (vs : Array Value) : (callFunc 12 vs).run Try.prog w = .ok (.enter 12 vs) w := by kernel_rfl
theorem smH_any (v1 v2 : Value) (L M : List Hs) (w : World) (h1 : HRow w v1 L) (h2 : HRow w v2 M) (hn : (L.length : Int) ≤ 9223372036854775807) : Calls Try.prog 19 #[v1, v2] w fun e w' => e = .returned (.bool (decide (L = M))) ∧ Below w.heap.size w w' := by
 have H1 := Keep.mk h1
 have H2 := Keep.mk h2
 have HN := Keep.mk hn
 clear h1 h2 hn
 go_enter Try.func19, Try.ntmps19
 refine wp_seq_k fun K1 hK1 => rgn ?_
 refine VlS (.bool false) ?_
 refine WL.nil (hK1 _ _ ?_)
 refine wp_seq_k fun K2 hK2 => rgn ?_
 refine VlS (v1) ?_
 refine VlS (v2) ?_
 refine WL.callF (by kernel_rfl) 62 _ _ rfl Try.in62 #[v1, v2] (by simp [Act.eval]) ?_
 refine (same_any v1 v2 L M w H1.out H2.out HN.out).mono ?_
 rintro e w1 ⟨rfl, q, hq⟩
 refine ⟨_, rfl, ?_⟩
 have B1 : Keep (Below w.heap.size w w1) := ⟨by rw [hq]; exact ⟨rfl, rfl, rfl, Nat.le_refl _, fun _ _ => rfl⟩⟩
 clear hq
 simp only [Act.put, pqA, pqB, pqC]
 refine VlS (.bool (decide (L = M))) ?_
 refine WL.nil (hK2 _ _ ?_)
 refine wp_ret ?_
 go_ret
 exact ⟨rfl, B1.out⟩
set_option maxRecDepth 8000 in
theorem plN_any (i : Int) (n : Nat) (w : World) (hn : 0 < n) (hm : (n : Int) ≤ 9223372036854775807) : Calls Try.prog 12 #[.int .i64 i, .int .i64 (n : Int)] w fun e w' => ∃ k : Nat, k < n ∧ e = .returned (.int .i64 (k : Int)) ∧ w' = w := by
 have hn0 : ¬ (n : Int) = 0 := by omega
 have hn1 : ¬ n = 0 := by omega
 have hlo : -(n : Int) < i.tmod (n : Int) := by have := Int.tmod_lt_of_pos (-i) (b := (n : Int)) (by omega); rw [Int.neg_tmod] at this; omega
 have hhi : i.tmod (n : Int) < (n : Int) := Int.tmod_lt_of_pos i (by omega)
 have hw0 : IntKind.i64.wrap (i.tmod (n : Int)) = i.tmod (n : Int) := by rw [IntKind.wrap_i64]; omega
 have hw1 : i.tmod (n : Int) < 0 → IntKind.i64.wrap (i.tmod (n : Int) + (n : Int)) = i.tmod (n : Int) + (n : Int) := fun h => by rw [IntKind.wrap_i64]; omega
 go_enter Try.func12, Try.ntmps12
 refine wp_seq_k fun K1 hK1 => rgn ?_
 refine VlS (.int .i64 0) ?_
 refine WL.nil (hK1 _ _ ?_)
 refine wp_seq_k fun K2 hK2 => rgn ?_
 refine VlS (.int .i64 i) ?_
 refine VlS (.int .i64 (n : Int)) ?_
 refine VlS (.int .i64 (i.tmod (n : Int))) ?_
 refine VlS (.int .i64 (i.tmod (n : Int))) ?_
 refine WL.nil (hK2 _ _ ?_)
 refine wp_seq_k fun K3 hK3 => ?_
 refine wp_seq_k fun K4 hK4 => rgn ?_
 refine VlS (.int .i64 (i.tmod (n : Int))) ?_
 by_cases h2_1 : i.tmod (n : Int) < 0
 ·skip
  refine VlS (.bool true) ?_
  refine WL.nil (hK4 _ _ ?_)
  refine wp_cond_true rfl ?_
  refine rgn ?_
  refine VlS (.int .i64 (i.tmod (n : Int))) ?_
  refine VlS (.int .i64 (n : Int)) ?_
  refine VlS (.int .i64 (i.tmod (n : Int) + (n : Int))) ?_
  refine VlS (.int .i64 (i.tmod (n : Int) + (n : Int))) ?_
  refine WL.nil (hK3 _ _ ?_)
  refine wp_seq_k fun K5 hK5 => rgn ?_
  refine VlS (.int .i64 (i.tmod (n : Int) + (n : Int))) ?_
  refine VlS (.int .i64 (i.tmod (n : Int) + (n : Int))) ?_
  refine WL.nil (hK5 _ _ ?_)
  refine wp_ret ?_
  go_ret
  exact ⟨(i.tmod (n : Int) + (n : Int)).toNat, by omega, by rw [Int.toNat_of_nonneg (by omega)]; rfl, rfl⟩
 ·skip
  refine VlS (.bool false) ?_
  refine WL.nil (hK4 _ _ ?_)
  refine wp_cond_false rfl ?_
  refine wp_skip ?_
  refine hK3 _ _ ?_
  refine wp_seq_k fun K6 hK6 => rgn ?_
  refine VlS (.int .i64 (i.tmod (n : Int))) ?_
  refine VlS (.int .i64 (i.tmod (n : Int))) ?_
  refine WL.nil (hK6 _ _ ?_)
  refine wp_ret ?_
  go_ret
  exact ⟨(i.tmod (n : Int)).toNat, by omega, by rw [Int.toNat_of_nonneg (by omega)]; rfl, rfl⟩
end Go.Proofs.Ytogmdfhicbmplaa
namespace Go.Proofs.Ytogmdfhicbmplaa
open Go.RowKit
set_option linter.unusedSimpArgs false
set_option linter.unusedVariables false

end Go.Proofs.Ytogmdfhicbmplaa
namespace Go.Proofs.Ytogmdfhicbmplaa
open Go.RowKit Go.Sort

/-- What a Sort tells. -/
def SortPost (L : List Hs) (w : World) (e : Ending) (w' : World) : Prop :=
 ∃ v' L', e = .returned v' ∧ w'.ownsRow w.heap.size 36 32 v' L'.length (flatH L') ∧ L'.Pairwise Lt ∧ (∀ x, x ∈ L' ↔ x ∈ L) ∧ L'.length ≤ L.length ∧ Below w.heap.size w w'

theorem short_rising : ∀ (L : List Hs), L.length < 2 → L.Pairwise Lt
 | [], _ => by simp
 | [_], _ => by simp
 | _ :: _ :: _, h => by simp only [List.length_cons] at h; omega

set_option maxRecDepth 8000 in
set_option maxHeartbeats 1000000 in
theorem refSort_short (v : Value) (L : List Hs) (w : World) (h : HRow w v L) (hl : L.length < 2) : Calls Try.prog 16 #[v] w (SortPost L w) := by
 have HR : Keep (HRow w v L) := ⟨h⟩
 obtain ⟨a, c, hv⟩ := h.form
 have HV : Keep (v = .slice a L.length c) := ⟨hv⟩
 have hl' : ((L.length : Nat) : Int) < 2 := by omega
 rw [hv]
 clear h hv
 go_enter Try.func16, Try.ntmps16
 go_wp2_with (refine wpList_appH rfl (.const (.slice none 0 0)) (.tmp 10) rfl w.heap.size (.slice none 0 0) v [] L rfl (by rw [HV.out]; rfl) (ownsH_nil _ _) HR.out (by simp; omega) (Nat.le_refl _) ?_; intro v5 w5 hown5 hgr5)
 go_ret
 exact ⟨_, L, rfl, hown5, short_rising L hl, fun x => Iff.rfl, Nat.le_refl _, (Below.refl _ _).grown hgr5 (Nat.le_refl _) (fun k hk => by cases hk)⟩

/-- A slice's length. -/
def lenV : Value → Nat
 | .slice _ n _ => n
 | _ => 0
theorem HRow.tail {w : World} {b off c : Nat} {x : Hs} {A : List Hs} (hc : (x :: A).length ≤ c) (h : w.rangeAt b off (flatH (x :: A))) : HRow w (.slice (if c = 1 then some ⟨b, off, none⟩ else some ⟨b, off + 32, none⟩) A.length (c - 1)) A := by
 simp only [List.length_cons] at hc
 by_cases h1 : c = 1
 ·rw [if_pos h1]
  have : A = [] := List.eq_nil_of_length_eq_zero (by omega)
  subst this
  exact .inl ⟨_, _, rfl, rfl, fun h => by cases h⟩
 ·rw [if_neg h1]
  have h2 := rangeAt_drop h 1 (by simp)
  rw [Nat.one_mul] at h2
  exact HRow.mk rfl (by omega) h2

set_option maxRecDepth 8000 in
set_option maxHeartbeats 1000000 in
set_option maxRecDepth 20000 in
theorem refSort_step (n b off cap : Nat) (L : List Hs) (w : World) (hL : L.length = n) (h : w.rangeAt b off (flatH L)) (h2 : 2 ≤ n) (hn : n ≤ 4398046511104) (hc : n ≤ cap)
  (ih : ∀ (v : Value) (M : List Hs) (w : World), M.length < n → HRow w v M → Calls Try.prog 16 #[v] w (SortPost M w)) :
  Calls Try.prog 16 #[.slice (some ⟨b, off, none⟩) n cap] w (SortPost L w) := by
 have HL : Keep (L.length = n) := ⟨hL⟩
 have HX : Keep (w.rangeAt b off (flatH L)) := ⟨h⟩
 have HI : Keep (∀ (v : Value) (M : List Hs) (w : World), M.length < n → HRow w v M → Calls Try.prog 16 #[v] w (SortPost M w)) := ⟨ih⟩
 have hblt := rangeAt_lt h (by omega)
 clear hL h ih
 obtain ⟨k, hk⟩ : ∃ k, Keep (n / 2 = k) := ⟨_, ⟨rfl⟩⟩
 have hkn : k < n := by have := hk.out; omega
 have hk0 : 0 < k := by have := hk.out; omega
 have q1 : (n : Int) / 2 = (k : Int) := by have := hk.out; omega
 have q2 : IntKind.i64.wrap (k : Int) = (k : Int) := by rw [IntKind.wrap_i64]; omega
 have q3 : (k : Int) ≤ (cap : Int) := by omega
 have q4 : ¬ ((n : Int) < 2) := by omega
 have q5 : (k : Int) ≤ (n : Int) := by omega
 have q6 : (n : Int) ≤ (cap : Int) := by omega
 go_enter Try.func16, Try.ntmps16
 go_wp2_with fail
 refine (HI.out _ (L.take k) w (by rw [List.length_take]; omega) (HRow.mk (by rw [List.length_take, HL.out]; omega) (by omega) (rangeAt_take HX.out k))).mono ?_
 rintro e w1 ⟨va, A0, rfl, hoA, hpA, hmA, hlA, hb1⟩
 have hrA := HRow.of_owns hoA
 clear hoA
 have hX1 := rangeAt_below HX.out hb1 hblt
 rw [List.length_take, HL.out, Nat.min_eq_left (by omega)] at hlA
 go_wp2_with fail
 refine (HI.out _ (L.drop k) w1 (by rw [List.length_drop, HL.out]; omega) (HRow.mk (by rw [List.length_drop, HL.out]) (by omega) (rangeAt_drop hX1 k (by rw [HL.out]; omega)))).mono ?_
 rintro e w2 ⟨vb, B0, rfl, hoB, hpB, hmB, hlB, hb2⟩
 have hrB := HRow.of_owns hoB
 clear hoB
 rw [List.length_drop, HL.out] at hlB
 have hrA2 := hrA.below hb2
 have hb12 : Below w.heap.size w w2 := hb1.trans (hb2.mono hb1.size)
 have HFin : Keep ((mrg A0 B0).Pairwise Lt ∧ (∀ x, x ∈ mrg A0 B0 ↔ x ∈ L) ∧ (mrg A0 B0).length ≤ n) := ⟨mrg_rising A0 B0 hpA hpB, fun x => by
  rw [mrg_mem, hmA, hmB]
  conv => rhs; rw [← List.take_append_drop k L, List.mem_append], by have := mrg_length A0 B0; omega⟩
 obtain ⟨F, hF⟩ : ∃ F, Keep (F = mrg A0 B0) := ⟨_, ⟨rfl⟩⟩
 rw [← hF.out] at HFin
 have HA0 : Keep (HRow w2 va A0) := ⟨hrA2⟩
 have HB0 : Keep (HRow w2 vb B0) := ⟨hrB⟩
 have hsum : A0.length + B0.length ≤ n := by omega
 have HB12 : Keep (Below w.heap.size w w2) := ⟨hb12⟩
 have hown0 : (w2.alloc (.cells #[] 36)).ownsRow w2.heap.size 36 32 (.slice (some ⟨w2.heap.size, 0, none⟩) 0 0) ([] : List Hs).length (flatH []) :=
  ⟨rfl, .inr ⟨w2.heap.size, 0, #[], rfl, Nat.le_refl _, heap_alloc_new w2 _, Nat.le_refl _, by unfold maxLen; omega, rfl, rfl⟩⟩
 have hBel0 := below_new w2 (.cells #[] 36)
 clear hrA hrB hrA2 hpA hpB hmA hmB hb1 hb2 hb12 hX1 hlA hlB
 go_wp2_with (refine wpList_bs rfl 37 0 #[] rfl #[] rfl _ _ (Try.bs0 _) ?_)
 generalize w2.alloc (.cells #[] 36) = w3 at *
 go_loopw [3, 4, 5, 6] (fun a b vo _ wr => ∃ A B O : List Hs, HRow w2 a A ∧ HRow w2 b B ∧ wr.ownsRow w2.heap.size 36 32 vo O.length (flatH O) ∧ O ++ mrg A B = F ∧ O.length + A.length + B.length ≤ n ∧ Below w2.heap.size w2 wr) (fun a b _ _ _ => lenV a + lenV b)
 case atStart => exact ⟨A0, B0, [], HA0.out, HB0.out, hown0, by rw [hF.out]; rfl, by simp only [List.length_nil]; omega, hBel0⟩
 case round =>
  clear hown0 hBel0 HA0 HB0 hsum hF
  obtain ⟨A, B, O, hrA, hrB, hown, hm, hlen, hBel⟩ := hrel
  have hsz := hBel.size
  have HM : Keep (O ++ mrg A B = F) := ⟨hm⟩
  have HRA : Keep (HRow w2 u3 A) := ⟨hrA⟩
  have HRB : Keep (HRow w2 u4 B) := ⟨hrB⟩
  obtain ⟨pa, ca, hua⟩ := hrA.form
  obtain ⟨pb, cb, hub⟩ := hrB.form
  clear hrA hrB hm
  by_cases hAB : A = [] ∨ B = []
  ·have HM2 : Keep (O ++ A ++ B = F) := ⟨by
    rw [← HM.out, List.append_assoc]
    rcases hAB with rfl | rfl
    ·rw [mrg]; rfl
    ·rw [mrg_nil, List.append_nil]⟩
   have HO : Keep (wr.ownsRow w2.heap.size 36 32 u5 O.length (flatH O)) := ⟨hown⟩
   have hblk := ownsH_block hown
   have HBel : Keep (Below w2.heap.size w2 wr) := ⟨hBel⟩
   have HUA : Keep (u3 = .slice pa A.length ca) := ⟨hua⟩
   have HUB : Keep (u4 = .slice pb B.length cb) := ⟨hub⟩
   rw [hua, hub]
   have fin : ∀ v5 w5, w5.ownsRow w2.heap.size 36 32 v5 (O ++ A).length (flatH (O ++ A)) → wr.grownBy w5 u5.ownBlock → Below w2.heap.size w2 w5 ∧ HRow w5 u4 B ∧ w2.heap.size ≤ w5.heap.size ∧ ∀ k, v5.ownBlock = some k → w2.heap.size ≤ k := fun v5 w5 h1 h2 => by
    have h3 := HBel.out.grown h2 hsz hblk
    exact ⟨h3, HRB.out.below h3, h3.size, ownsH_block h1⟩
   have HFN : Keep (∀ v5 w5, w5.ownsRow w2.heap.size 36 32 v5 (O ++ A).length (flatH (O ++ A)) → wr.grownBy w5 u5.ownBlock → Below w2.heap.size w2 w5 ∧ HRow w5 u4 B ∧ w2.heap.size ≤ w5.heap.size ∧ ∀ k, v5.ownBlock = some k → w2.heap.size ≤ k) := ⟨fin⟩
   have hRA2 : HRow wr u3 A := HRA.out.below hBel
   have HRA2 : Keep (HRow wr u3 A) := ⟨hRA2⟩
   clear fin hRA2 hua hub hown hBel
   have hz : ¬ (0 < A.length ∧ 0 < B.length) := by rcases hAB with rfl | rfl <;> simp
   have END : ∀ v5 w5 v7 w7, w5.ownsRow w2.heap.size 36 32 v5 (O ++ A).length (flatH (O ++ A)) → wr.grownBy w5 u5.ownBlock → w7.ownsRow w2.heap.size 36 32 v7 (O ++ A ++ B).length (flatH (O ++ A ++ B)) → w5.grownBy w7 v5.ownBlock → SortPost L w (.returned v7) w7 := fun v5 w5 v7 w7 g1 g2 g3 g4 => by
    obtain ⟨f1, f2, f3, f4⟩ := HFN.out v5 w5 g1 g2
    rw [HM2.out] at g3
    exact ⟨v7, F, rfl, ownsH_mono g3 HB12.out.size, HFin.out.1, HFin.out.2.1, by rw [HL.out]; exact HFin.out.2.2, HB12.out.trans ((f1.grown g4 f3 f4).mono HB12.out.size)⟩
   have HEND : Keep (∀ v5 w5 v7 w7, w5.ownsRow w2.heap.size 36 32 v5 (O ++ A).length (flatH (O ++ A)) → wr.grownBy w5 u5.ownBlock → w7.ownsRow w2.heap.size 36 32 v7 (O ++ A ++ B).length (flatH (O ++ A ++ B)) → w5.grownBy w7 v5.ownBlock → SortPost L w (.returned v7) w7) := ⟨END⟩
   clear END
   by_cases hA0 : A.length = 0
   ·have z1 : ¬ (0 < ((A.length : Nat) : Int)) := by omega
    go_wp2_with (first | (refine wpList_appH rfl (.tmp 60) (.tmp 61) rfl w2.heap.size u5 u3 O A rfl (by rw [HUA.out]; rfl) HO.out HRA2.out (by omega) hsz ?_; intro v5 w5 hown5 hgr5) | (refine wpList_appH rfl (.tmp 63) (.tmp 64) rfl w2.heap.size v5 u4 (O ++ A) B rfl (by rw [HUB.out]; rfl) hown5 (HFN.out v5 w5 hown5 hgr5).2.1 (by rw [List.length_append]; omega) (HFN.out v5 w5 hown5 hgr5).2.2.1 ?_; intro v7 w7 hown7 hgr7))
    go_ret
    exact HEND.out v5 w5 v7 w7 hown5 hgr5 hown7 hgr7
   ·have z1 : (0 < ((A.length : Nat) : Int)) := by omega
    have z2 : ¬ (0 < ((B.length : Nat) : Int)) := by omega
    go_wp2_with (first | (refine wpList_appH rfl (.tmp 60) (.tmp 61) rfl w2.heap.size u5 u3 O A rfl (by rw [HUA.out]; rfl) HO.out HRA2.out (by omega) hsz ?_; intro v5 w5 hown5 hgr5) | (refine wpList_appH rfl (.tmp 63) (.tmp 64) rfl w2.heap.size v5 u4 (O ++ A) B rfl (by rw [HUB.out]; rfl) hown5 (HFN.out v5 w5 hown5 hgr5).2.1 (by rw [List.length_append]; omega) (HFN.out v5 w5 hown5 hgr5).2.2.1 ?_; intro v7 w7 hown7 hgr7))
    go_ret
    exact HEND.out v5 w5 v7 w7 hown5 hgr5 hown7 hgr7
  ·obtain ⟨x, A, rfl⟩ : ∃ x A', A = x :: A' := by cases A with | nil => simp at hAB | cons x A' => exact ⟨x, A', rfl⟩
   obtain ⟨y, B, rfl⟩ : ∃ y B', B = y :: B' := by cases B with | nil => simp at hAB | cons y B' => exact ⟨y, B', rfl⟩
   clear hAB
   subst hua hub
   obtain ⟨ba, oa, rfl, _, hca, rA⟩ := HRA.out.at (by simp)
   obtain ⟨bb, ob, rfl, _, hcb, rB⟩ := HRB.out.at (by simp)
   have HS : Keep (∀ wx, Below wr.heap.size wr wx → wx.rangeAt ba oa (encH x) ∧ wx.rangeAt bb ob (encH y)) := ⟨fun wx hx => by
    have hb := hBel.trans (hx.mono hsz)
    have e1 := rangeAt_below (rangeAt_elem rA 0 (by simp)) hb (rangeAt_lt rA (by simp))
    have e2 := rangeAt_below (rangeAt_elem rB 0 (by simp)) hb (rangeAt_lt rB (by simp))
    rw [Nat.zero_mul, Nat.add_zero] at e1 e2
    exact ⟨e1, e2⟩⟩
   have HTA : Keep (HRow w2 (.slice (if ca = 1 then some ⟨ba, oa, none⟩ else some ⟨ba, oa + 32, none⟩) A.length (ca - 1)) A) := ⟨HRow.tail hca rA⟩
   have HTB : Keep (HRow w2 (.slice (if cb = 1 then some ⟨bb, ob, none⟩ else some ⟨bb, ob + 32, none⟩) B.length (cb - 1)) B) := ⟨HRow.tail hcb rB⟩
   clear rA rB
   have HC : Keep (∀ w, Calls Try.prog 57 #[.agg (encH x).toArray, .agg (encH y).toArray] w fun e w' => e = .returned (.int .i64 (cf x y)) ∧ Below w.heap.size w w') := ⟨fun w => by
    rw [encH_arr, encH_arr]
    refine (refCompare_any _ _ w).mono fun e w' h => ⟨h.1, ?_⟩
    obtain ⟨q, os, rfl⟩ := h.2
    exact grown_below w q os⟩
   have hi1 := Try.size36L x
   have hi2 := Try.size36L y
   have hu := Try.underlying36
   have hbsA : ∀ w, (Instr.buildSlice 37 1 #[(0, .agg (encH x).toArray)]).run Try.prog w = .ok (.slice (some ⟨w.heap.size, 0, none⟩) 1 1) (w.alloc (.cells (encH x).toArray 36)) := fun w => by rw [encH_arr]; exact Try.bs1 _ w
   have hbsB : ∀ w, (Instr.buildSlice 37 1 #[(0, .agg (encH y).toArray)]).run Try.prog w = .ok (.slice (some ⟨w.heap.size, 0, none⟩) 1 1) (w.alloc (.cells (encH y).toArray 36)) := fun w => by rw [encH_arr]; exact Try.bs1 _ w
   have hone : ∀ (z : Hs) (w : World), HRow (w.alloc (.cells (encH z).toArray 36)) (.slice (some ⟨w.heap.size, 0, none⟩) 1 1) [z] := fun z w => HRow.mk rfl (Nat.le_refl _) fun j v hv => by
    rw [Nat.zero_add, (Blk.new w 36 _).cell]; simpa [flatH] using hv
   have HOA : Keep (∀ w : World, HRow (w.alloc (.cells (encH x).toArray 36)) (.slice (some ⟨w.heap.size, 0, none⟩) 1 1) [x]) := ⟨hone x⟩
   have HOB : Keep (∀ w : World, HRow (w.alloc (.cells (encH y).toArray 36)) (.slice (some ⟨w.heap.size, 0, none⟩) 1 1) [y]) := ⟨hone y⟩
   obtain ⟨r, hr⟩ : ∃ r, Keep (r = cf x y) := ⟨_, ⟨rfl⟩⟩
   rw [← hr.out] at HC
   have HM1 : Keep (r < 0 → O ++ [x] ++ mrg A (y :: B) = F) := ⟨fun h => by rw [← HM.out, mrg, if_pos (by rw [← hr.out]; exact h)]; simp⟩
   have HM2 : Keep (r = 0 → O ++ [x] ++ mrg A B = F) := ⟨fun h => by rw [← HM.out, mrg, if_neg (by rw [← hr.out]; omega), if_pos (by rw [← hr.out]; exact h)]; simp⟩
   have HM3 : Keep (0 < r → O ++ [y] ++ mrg (x :: A) B = F) := ⟨fun h => by rw [← HM.out, mrg, if_neg (by rw [← hr.out]; omega), if_neg (by rw [← hr.out]; omega)]; simp⟩
   simp only [List.length_cons] at hca hcb hlen
   generalize encH x = CA at *
   generalize encH y = CB at *
   clear hone hr HM
   have HBel : Keep (Below w2.heap.size w2 wr) := ⟨hBel⟩
   have hD0 : Below wr.heap.size wr wr.drew := (Below.refl _ _).drew
   have HO5 : Keep (∀ w5 o, Below wr.heap.size wr w5 → (w5.alloc o).ownsRow w2.heap.size 36 32 u5 O.length (flatH O)) := ⟨fun w5 o h => World.ownsRow.alloc (w := w5) (ownsH_below hown h) o⟩
   have hblk := ownsH_block hown
   clear hown hBel
   simp only [List.length_cons]
   have p1 : (0 : Int) < ((A.length + 1 : Nat) : Int) := by omega
   have p2 : (0 : Int) < ((B.length + 1 : Nat) : Int) := by omega
   have p3 : (1 : Int) ≤ ((A.length + 1 : Nat) : Int) := by omega
   have p4 : (1 : Int) ≤ ((B.length + 1 : Nat) : Int) := by omega
   go_wp2
   refine wp_region_held_drew (S := fun w' => w'.rangeAt ba oa CA ∧ w'.rangeAt bb ob CB) (by kernel_rfl) (HS.out _ hD0) (fun hHeld => ?_)
   refine tkS (i := 0) (oi := ⟨some 33, Op.move (Operand.tmp 3), 37, _, _, none⟩) (v := Value.slice (some ⟨ba, oa, none⟩) (A.length + 1) ca) rfl (Or.inl ⟨by rfl, fun w hS => by go_simp⟩) hHeld ?_
   refine tkS (i := 1) (oi := ⟨some 34, Op.indexAddr 37 (Operand.tmp 33) (Operand.const (Value.int IntKind.i64 0)), 0, _, _, none⟩) (v := .pointer (some ⟨ba, oa, none⟩)) rfl (Or.inl ⟨by rfl, fun w hS => by go_simp⟩) hHeld ?_
   refine tkS (i := 2) (oi := ⟨some 35, Op.load 36 (Operand.tmp 34), 36, _, _, none⟩) (v := .agg (CA).toArray) rfl (yieldsIf_load_mid (by rfl) 36 (Operand.tmp 34) rfl ba oa rfl CA _ (fun w hS => hS.1) hu rfl hi1) hHeld ?_
   refine tkS (i := 3) (oi := ⟨some 36, Op.move (Operand.tmp 4), 37, _, _, none⟩) (v := Value.slice (some ⟨bb, ob, none⟩) (B.length + 1) cb) rfl (Or.inl ⟨by rfl, fun w hS => by go_simp⟩) hHeld ?_
   refine tkS (i := 4) (oi := ⟨some 37, Op.indexAddr 37 (Operand.tmp 36) (Operand.const (Value.int IntKind.i64 0)), 0, _, _, none⟩) (v := .pointer (some ⟨bb, ob, none⟩)) rfl (Or.inl ⟨by rfl, fun w hS => by go_simp⟩) hHeld ?_
   refine tkS (i := 5) (oi := ⟨some 38, Op.load 36 (Operand.tmp 37), 36, _, _, none⟩) (v := .agg (CB).toArray) rfl (yieldsIf_load_mid (by rfl) 36 (Operand.tmp 37) rfl bb ob rfl CB _ (fun w hS => hS.2) hu rfl hi2) hHeld ?_
   refine wpAnyH_ready (rs := [6]) (by kernel_rfl) (by simp) ?_
   refine AllReadyH.cons (o := ⟨some 39, Op.call { callee := Callee.value (Operand.func 57), args := #[Operand.tmp 35, Operand.tmp 38], argTypes := #[36, 36] }, 3, _, _, none⟩) rfl (fun K hK => ?_) AllReadyH.nil
   rw [if_pos (by rfl)]
   refine wp_callF 57 #[.tmp 35, .tmp 38] #[36, 36] rfl Try.enter57 #[.agg CA.toArray, .agg CB.toArray] (by simp [Act.eval]) (fun v w' => v = .int .i64 r ∧ Below wr.drew.heap.size wr.drew w') ((HC.out wr.drew).mono fun e w' h => ⟨_, h.1, rfl, h.2⟩) ?_
   rintro v w5 ⟨rfl, hb5⟩
   have hB5 : Below wr.heap.size wr w5 := hD0.trans (hb5.mono hD0.size)
   refine hK.out _ _ (HS.out _ hB5) fun hHeld5 => ?_
   clear hK
   simp only [Act.put, pqA, pqB, pqC]
   refine tkS (i := 7) (oi := ⟨some 6, Op.assign (Operand.tmp 39), 3, _, _, none⟩) (v := .int .i64 r) rfl (Or.inl ⟨by rfl, fun w hS => by go_simp⟩) hHeld5 ?_
   refine wpAnyH_done (by kernel_rfl) ?_ _
   have HZ : Keep (∀ o, w2.heap.size ≤ (w5.alloc o).heap.size) := ⟨fun o => by have := hB5.size; simp; omega⟩
   have HBE : Keep (∀ o w7, (w5.alloc o).grownBy w7 u5.ownBlock → Below w2.heap.size w2 w7) := ⟨fun o w7 hg => by
    have h5 := HBel.out.trans (hB5.mono hsz)
    exact (h5.alloc h5.size o).grown hg (HZ.out o) hblk⟩
   rcases Int.lt_trichotomy r 0 with hr | hr | hr
   ·have m1 := HM1.out hr
    have HMM : Keep (O ++ [x] ++ mrg A (y :: B) = F) := ⟨m1⟩
    clear HM1 HM2 HM3 m1
    have d1 : r ≤ 0 := by omega
    have d2 : ¬ (0 ≤ r) := by omega
    go_wp2_with (first | (refine wpList_load_mid rfl 36 (.tmp 44) rfl ba oa rfl CA (.array 32 5) (HS.out _ hB5).1 hu rfl hi1 ?_; refine wpList_bs rfl 37 1 #[(0, .tmp 45)] rfl #[(0, .agg CA.toArray)] (by simp [Act.eval, Act.put]) _ _ (hbsA _) ?_; refine wpList_appH rfl (.tmp 42) (.tmp 46) rfl w2.heap.size u5 _ O [x] rfl rfl (HO5.out _ _ hB5) (HOA.out _) (by simp only [List.length_cons, List.length_nil]; omega) (HZ.out _) ?_; intro v7 w7 hown7 hgr7))
    refine ⟨⟨A, y :: B, O ++ [x], HTA.out, HRB.out, hown7, HMM.out, (by simp only [List.length_append, List.length_cons, List.length_nil]; omega), (HBE.out _ _ hgr7)⟩, by simp only [lenV]; omega⟩
   ·have m1 := HM2.out hr
    have HMM : Keep (O ++ [x] ++ mrg A B = F) := ⟨m1⟩
    clear HM1 HM2 HM3 m1
    have d1 : r ≤ 0 := by omega
    have d2 : 0 ≤ r := by omega
    clear hr
    go_wp2_with (first | (refine wpList_load_mid rfl 36 (.tmp 44) rfl ba oa rfl CA (.array 32 5) (HS.out _ hB5).1 hu rfl hi1 ?_; refine wpList_bs rfl 37 1 #[(0, .tmp 45)] rfl #[(0, .agg CA.toArray)] (by simp [Act.eval, Act.put]) _ _ (hbsA _) ?_; refine wpList_appH rfl (.tmp 42) (.tmp 46) rfl w2.heap.size u5 _ O [x] rfl rfl (HO5.out _ _ hB5) (HOA.out _) (by simp only [List.length_cons, List.length_nil]; omega) (HZ.out _) ?_; intro v7 w7 hown7 hgr7))
    refine ⟨⟨A, B, O ++ [x], HTA.out, HTB.out, hown7, HMM.out, (by simp only [List.length_append, List.length_cons, List.length_nil]; omega), (HBE.out _ _ hgr7)⟩, by simp only [lenV]; omega⟩
   ·have m1 := HM3.out hr
    have HMM : Keep (O ++ [y] ++ mrg (x :: A) B = F) := ⟨m1⟩
    clear HM1 HM2 HM3 m1
    have d1 : ¬ (r ≤ 0) := by omega
    have d2 : 0 ≤ r := by omega
    go_wp2_with (first | (refine wpList_load_mid rfl 36 (.tmp 52) rfl bb ob rfl CB (.array 32 5) (HS.out _ hB5).2 hu rfl hi2 ?_; refine wpList_bs rfl 37 1 #[(0, .tmp 53)] rfl #[(0, .agg CB.toArray)] (by simp [Act.eval, Act.put]) _ _ (hbsB _) ?_; refine wpList_appH rfl (.tmp 50) (.tmp 54) rfl w2.heap.size u5 _ O [y] rfl rfl (HO5.out _ _ hB5) (HOB.out _) (by simp only [List.length_cons, List.length_nil]; omega) (HZ.out _) ?_; intro v7 w7 hown7 hgr7))
    refine ⟨⟨x :: A, B, O ++ [y], HRA.out, HTB.out, hown7, HMM.out, (by simp only [List.length_append, List.length_cons, List.length_nil]; omega), (HBE.out _ _ hgr7)⟩, by simp only [lenV]; omega⟩

/-- The document's Sort. -/
theorem refSort_any : ∀ (n : Nat) (v : Value) (L : List Hs) (w : World), L.length = n → HRow w v L → n ≤ 4398046511104 → Calls Try.prog 16 #[v] w (SortPost L w) := by
 intro n
 induction n using Nat.strongRecOn with
 | _ n ih =>
  intro v L w hL hr hn
  by_cases h2 : L.length < 2
  ·exact refSort_short v L w hr h2
  ·obtain ⟨a, c, rfl⟩ := hr.form
   obtain ⟨b, off, rfl, _, hc, hx⟩ := hr.at (by omega)
   subst hL
   exact refSort_step L.length b off c L w rfl hx (by omega) hn hc fun v M w hM hr => ih M.length hM v M w rfl hr (by omega)
end Go.Proofs.Ytogmdfhicbmplaa
