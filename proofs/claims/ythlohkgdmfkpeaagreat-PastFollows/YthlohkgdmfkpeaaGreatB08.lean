import Derived.Test.YthlohkgdmfkpeaaGreatB07
import Derived.Test.YthlohkgdmfkpeaaGreatB06
import Derived.Test.YthlohkgdmfkpeaaGreatB05
namespace Go.Proofs.YthlohkgdmfkpeaaGreat
open Go.RowKit
set_option linter.unusedSimpArgs false
set_option linter.unusedVariables false

theorem Tryz.in99 (w : World) (vs : Array Value) : (callFunc 99 vs).run Tryz.prog w = .ok (.enter 99 vs) w := by kernel_rfl
set_option maxRecDepth 8000 in
theorem shed_none (d : Nat) (Av : Nat → Prop) (g : DG) (w : World) (hD : DagAt w Av d g) (hQ : (g.queue.length : Int) ≤ g.room) : Calls Tryz.prog 99 #[ptr d] w fun e w' => e = .returned (.slice none 0 0) ∧ Below w.heap.size w w' := by
 obtain ⟨qa, qc, hqv⟩ := hD.oq.sl
 have Hqv := Keep.mk hqv
 have HD := Keep.mk hD
 have HQ := Keep.mk hQ
 clear hD hQ hqv
 go_enter Tryz.func99, Tryz.ntmps99
 refine wp_seq_k fun K1 hK1 => rgn ?_
 refine VlS (.slice none 0 0) ?_
 refine WL.nil (hK1 _ _ ?_)
 refine wp_seq_k fun K2 hK2 => rgn ?_
 refine VlS (.slice none 0 0) ?_
 refine WL.nil (hK2 _ _ ?_)
 refine wp_seq_k fun K3 hK3 => ?_
 refine wp_block ?_
 refine wp_loop (fun ac wr => ∃ (t : Nat) (u4 u5 u6 u7 u8 u9 u10 u11 u12 u13 u14 u15 u16 u17 u18 u19 u20 u21 u22 u23 u24 u25 u26 u27 : Value), ac = { tmps := #[.pointer (some ⟨d, 0, none⟩), undef, .slice none 0 0, .slice none 0 0, u4, u5, u6, u7, u8, u9, u10, u11, u12, u13, u14, u15, u16, u17, u18, u19, u20, u21, u22, u23, u24, u25, u26, u27, undef], defers := [] } ∧ w = wr) (fun a _ => 0) ⟨0, undef, undef, undef, undef, undef, undef, undef, undef, undef, undef, undef, undef, undef, undef, undef, undef, undef, undef, undef, undef, undef, undef, undef, undef, rfl, rfl⟩ ?_
 rintro ac wr ⟨t, u4, u5, u6, u7, u8, u9, u10, u11, u12, u13, u14, u15, u16, u17, u18, u19, u20, u21, u22, u23, u24, u25, u26, u27, rfl, hW⟩
 obtain rfl := hW
 refine wp_seq_k fun K4 hK4 => ?_
 refine wp_seq_k fun K5 hK5 => ?_
 have hS0 : Keep (w.drew.cell? ⟨d, 5, none⟩ = some (.slice qa g.queue.length qc) ∧ w.drew.cell? ⟨d, 0, none⟩ = some (.int .i64 g.room)) := ⟨by have h := HD.out.blk.drew.c 5 (by rfl : (dgA g)[5]? = some g.qv); rw [Hqv.out] at h; exact h, HD.out.blk.drew.c 0 rfl⟩
 have hle : ¬ g.room < (g.queue.length : Int) := by have := HQ.out; omega
 refine wp_region_held_drew (S := fun wx => wx.cell? ⟨d, 5, none⟩ = some (.slice qa g.queue.length qc) ∧ wx.cell? ⟨d, 0, none⟩ = some (.int .i64 g.room)) (by kernel_rfl) (hS0.out) (fun hHeld => ?_)
 refine tkS (i := 0) (oi := ⟨some 5, Op.move (Operand.tmp 0), 133, _, _, none⟩) (v := .pointer (some ⟨d, 0, none⟩)) rfl (Or.inl ⟨by rfl, fun w hS => by obtain ⟨hS1, hS2⟩ := hS; go_simp⟩) hHeld ?_
 refine tkS (i := 1) (oi := ⟨some 6, Op.nilCheck (Operand.tmp 5), 0, _, _, none⟩) (v := .pointer (some ⟨d, 0, none⟩)) rfl (Or.inl ⟨by rfl, fun w hS => by obtain ⟨hS1, hS2⟩ := hS; go_simp⟩) hHeld ?_
 refine tkS (i := 2) (oi := ⟨some 7, Op.fieldAddr 152 (Operand.tmp 6) 5, 0, _, _, none⟩) (v := .pointer (some ⟨d, 5, none⟩)) rfl (Or.inl ⟨by rfl, fun w hS => by obtain ⟨hS1, hS2⟩ := hS; go_simp⟩) hHeld ?_
 refine tkS (i := 3) (oi := ⟨some 8, Op.load 24 (Operand.tmp 7), 24, _, _, none⟩) (v := .slice qa g.queue.length qc) rfl (Or.inl ⟨by rfl, fun w hS => by obtain ⟨hS1, hS2⟩ := hS; go_simp⟩) hHeld ?_
 refine tkS (i := 4) (oi := ⟨some 9, Op.call { callee := Callee.builtin Builtin.len, args := #[Operand.tmp 8], argTypes := #[24] }, 3, _, _, none⟩) (v := .int .i64 (g.queue.length : Int)) rfl (Or.inl ⟨by rfl, fun w hS => by obtain ⟨hS1, hS2⟩ := hS; go_simp⟩) hHeld ?_
 refine tkS (i := 5) (oi := ⟨some 10, Op.move (Operand.tmp 0), 133, _, _, none⟩) (v := .pointer (some ⟨d, 0, none⟩)) rfl (Or.inl ⟨by rfl, fun w hS => by obtain ⟨hS1, hS2⟩ := hS; go_simp⟩) hHeld ?_
 refine tkS (i := 6) (oi := ⟨some 11, Op.nilCheck (Operand.tmp 10), 0, _, _, none⟩) (v := .pointer (some ⟨d, 0, none⟩)) rfl (Or.inl ⟨by rfl, fun w hS => by obtain ⟨hS1, hS2⟩ := hS; go_simp⟩) hHeld ?_
 refine tkS (i := 7) (oi := ⟨some 12, Op.fieldAddr 152 (Operand.tmp 11) 0, 0, _, _, none⟩) (v := .pointer (some ⟨d, 0, none⟩)) rfl (Or.inl ⟨by rfl, fun w hS => by obtain ⟨hS1, hS2⟩ := hS; go_simp⟩) hHeld ?_
 refine tkS (i := 8) (oi := ⟨some 13, Op.load 3 (Operand.tmp 12), 3, _, _, none⟩) (v := .int .i64 g.room) rfl (Or.inl ⟨by rfl, fun w hS => by obtain ⟨hS1, hS2⟩ := hS; go_simp⟩) hHeld ?_
 refine tkS (i := 9) (oi := ⟨some 14, Op.binOp BinOp.gtr 3 (Operand.tmp 9) (Operand.tmp 13) 3, 4, _, _, none⟩) (v := .bool false) rfl (Or.inl ⟨by rfl, fun w hS => by obtain ⟨hS1, hS2⟩ := hS; go_simp⟩) hHeld ?_
 refine wpAnyH_done (by kernel_rfl) ?_ _
 refine hK5 _ _ ?_
 refine wp_cond_false rfl ?_
 refine wp_exit ?_
 refine hK3 _ _ ?_
 refine wp_seq_k fun K6 hK6 => rgn ?_
 refine VlS (.slice none 0 0) ?_
 refine VlS (.slice none 0 0) ?_
 refine WL.nil (hK6 _ _ ?_)
 refine wp_ret ?_
 go_ret
 exact ⟨rfl, (Below.refl _ _).drew⟩
set_option maxRecDepth 8000 in
set_option maxHeartbeats 1000000 in
theorem add_took (d : Nat) (v : VX) (p : Value) (Av : Nat → Prop) (g : DG) (w : World) (X : DG → Prop) (hD : DagAt w Av d g) (hr : HRow w p v.ps) (hM : ∀ v ∈ g.held, 0 ≤ v.ck ∧ v.ck ≤ 4096) (hL : (v.ps.length : Int) ≤ 9223372036854775806) (hL2 : v.ps.length ≤ 4398046511104) (hFt : fitV g.held g.wait v = (2, 0))
  (hT : ∀ (w1 : World) (p1 : Value), DagAt w1 Av d g → HRow w1 p1 v.ps → (∀ k, p1.ownBlock = some k → k < w1.heap.size ∧ ¬ Av k) → Calls Tryz.prog 97 #[ptr d, .agg (vtx v.id.f v.ck p1)] w1 fun e w' => e = .returned (.tuple #[]) ∧ ∃ g', Ste w1 w' Av d g g' ∧ X g') :
  Calls Tryz.prog 79 #[ptr d, .agg (vtx v.id.f v.ck p)] w fun e w' => e = .returned (.tuple #[.int .i64 2, .slice none 0 0, .int .i64 0]) ∧ ∃ g', Ste w w' Av d g g' ∧ X g' := by
 obtain ⟨pa, pc, rfl⟩ := hr.form
 obtain ⟨vv, hvv⟩ : ∃ a : Array Value, Keep (a = vtx v.id.f v.ck (.slice pa v.ps.length pc)) := ⟨_, ⟨rfl⟩⟩
 rw [← hvv.out]
 have HD := Keep.mk hD
 have HR := Keep.mk hr
 have HM := Keep.mk hM
 have HL := Keep.mk hL
 have HL2 := Keep.mk hL2
 have HFt := Keep.mk hFt
 have HT := Keep.mk hT
 clear hD hr hM hL hL2 hFt hT
 go_enter Tryz.func79, Tryz.ntmps79
 refine wp_seq_k fun K1 hK1 => rgn ?_
 refine WL.box (by kernel_rfl) 139 (.tmp 1) rfl (vv) rfl ?_
 obtain ⟨w1, hwn⟩ : ∃ wx, Keep (wx = w.alloc (.cells (vv) 139)) := ⟨_, ⟨rfl⟩⟩
 rw [← hwn.out]
 have HX1 : Keep (Blk w1 w.heap.size 139 (vv)) := ⟨by rw [hwn.out]; exact Blk.new _ _ _⟩
 have LB1 : Keep (Below w.heap.size w w1) := ⟨by rw [hwn.out]; exact below_new _ _⟩
 clear hwn
 have HD1 := Keep.mk (HD.out.below LB1.out)
 have HR1 := Keep.mk (HR.out.below LB1.out)
 simp only [Act.put, pqA, pqB, pqC]
 refine VlS (.int .i64 0) ?_
 refine VlS (.slice none 0 0) ?_
 refine VlS (.int .i64 0) ?_
 refine WL.nil (hK1 _ _ ?_)
 refine wp_seq_k fun K2 hK2 => rgn ?_
 refine VlS (.pointer (some ⟨d, 0, none⟩)) ?_
 refine WL.row (by kernel_rfl) 139 (.tmp 3) rfl w.heap.size rfl 139 vv _ HX1.out Tryz.underlying139 rfl (by rw [hvv.out]; exact Tryz.info139s _ _ _) ?_
 simp only [Act.put, pqA, pqB, pqC]
 have hft := fit_any d v _ Av g w1 HD1.out HR1.out HM.out HL.out
 rw [← hvv.out, HFt.out] at hft
 refine WL.callF (by kernel_rfl) 96 _ _ rfl Tryz.in96 #[ptr d, .agg vv] (by simp [Act.eval]) ?_
 refine (hft).mono ?_
 rintro e w2 ⟨rfl, hz⟩
 refine ⟨_, rfl, ?_⟩
 clear hft
 have HX2 := Keep.mk (HX1.out.below hz HX1.out.lt)
 have LB2 := Keep.mk (belowT LB1.out hz)
 have HD2 := Keep.mk (HD1.out.below hz)
 have HR2 := Keep.mk (HR1.out.below hz)
 clear hz HX1 HD1 HR1
 simp only [Act.put, pqA, pqB, pqC]
 refine VlS (.tuple #[.int .i64 2, .int .i64 0]) ?_
 refine VlS (.int .i64 2) ?_
 refine VlS (.int .i64 0) ?_
 refine VlS (.int .i64 2) ?_
 refine VlS (.int .i64 0) ?_
 refine WL.nil (hK2 _ _ ?_)
 refine wp_seq_k fun K3 hK3 => ?_
 refine wp_seq_k fun K4 hK4 => rgn ?_
 refine VlS (.int .i64 2) ?_
 refine WL.nil (hK4 _ _ ?_)
 refine wp_block ?_
 refine wp_seq_k fun K5 hK5 => rgn ?_
 refine VbT ?_
 refine VbT ?_
 refine WL.nil (hK5 _ _ ?_)
 refine wp_cond_true rfl ?_
 refine rgn ?_
 refine VlS (.pointer (some ⟨d, 0, none⟩)) ?_
 refine WL.row (by kernel_rfl) 139 (.tmp 3) rfl w.heap.size rfl 139 vv _ HX2.out Tryz.underlying139 rfl (by rw [hvv.out]; exact Tryz.info139s _ _ _) ?_
 simp only [Act.put, pqA, pqB, pqC]
 have how := own_any v _ w2 HR2.out (by have := HL.out; have := HL2.out; omega)
 rw [← hvv.out] at how
 refine WL.callF (by kernel_rfl) 98 _ _ rfl Tryz.in98 #[.agg vv] (by simp [Act.eval]) ?_
 refine (how).mono ?_
 rintro e w3 ⟨p3, rfl, hf⟩
 refine ⟨_, rfl, ?_⟩
 clear how
 have HF3 := Keep.mk hf
 have HD3 := Keep.mk (HD2.out.below hf.bel)
 have LB3 := Keep.mk (belowT LB2.out hf.bel)
 obtain ⟨vq, hvq⟩ : ∃ a : Array Value, Keep (a = vtx v.id.f v.ck p3) := ⟨_, ⟨rfl⟩⟩
 rw [← hvq.out]
 clear hf HX2 HR2
 simp only [Act.put, pqA, pqB, pqC]
 have htk := HT.out w3 p3 HD3.out HF3.out.own.row fun k hk => ⟨HF3.out.own.lt k hk, fun ha => by have := HF3.out.new k hk; have := HD2.out.lt k ha; omega⟩
 rw [← hvq.out] at htk
 refine WL.callF (by kernel_rfl) 97 _ _ rfl Tryz.in97 #[ptr d, .agg vq] (by simp [Act.eval]) ?_
 refine (htk).mono ?_
 rintro e w4 ⟨rfl, g4, hs, hp⟩
 refine ⟨_, rfl, ?_⟩
 clear htk
 have HS4 := Keep.mk hs
 have HP4 := Keep.mk hp
 clear hs hp
 simp only [Act.put, pqA, pqB, pqC]
 refine WL.nil (hK3 _ _ ?_)
 refine wp_seq_k fun K6 hK6 => rgn ?_
 refine VlS (.int .i64 2) ?_
 refine VlS (.slice none 0 0) ?_
 refine VlS (.int .i64 0) ?_
 refine VlS (.int .i64 2) ?_
 refine VlS (.slice none 0 0) ?_
 refine VlS (.int .i64 0) ?_
 refine WL.nil (hK6 _ _ ?_)
 refine wp_ret ?_
 go_ret3
 exact ⟨rfl, g4, ⟨HS4.out.at', (Grown.below (S := DgS d g) LB3.out).trans HS4.out.grown, fun k hk => (HS4.out.sub k hk).imp id fun h => Nat.le_trans LB3.out.size h⟩, HP4.out⟩
theorem wp_apH {o : Oper} {a : Act} {w : World} {K : Act → World → Prop} {Q : Exit → Act → World → Prop} (s x : Operand)
  (ho : o.op = .call { callee := .builtin .append, args := #[s, x], argTypes := #[24, 24] }) (v : Value) (l : List Hs) (g : Nat) (y : Hs)
  (hs : a.eval s = v) (hx : a.eval x = .slice (some ⟨g, 0, none⟩) 1 1) (hown : OwnH w v l) (hg : Blk w g 36 (bytesA 32 y.f)) (hb : l.length ≤ 1000000000000)
  (h : ∀ v' w', NewL w w' v v' (l ++ [y]) → K (a.put o.dst v') w') : o.wp Tryz.prog a w K Q := by
 obtain ⟨v', w', hr, h1, h2, h3⟩ := run_appH w o.type v l hown g y hg hb
 unfold Oper.wp execOp
 simp only [ho, resolve, invoke, builtin, Sem.run_bind, Sem.run_pure, Result.andThen_ok, List.map_toArray, List.map_cons, List.map_nil, hs, hx, hr]
 exact h v' w' ⟨h1, h2, h3⟩
set_option maxRecDepth 8000 in
set_option maxHeartbeats 1000000 in
theorem add_waits (d : Nat) (v : VX) (p : Value) (Av : Nat → Prop) (g : DG) (w : World) (hD : DagAt w Av d g) (hr : HRow w p v.ps) (hM : ∀ v ∈ g.held, 0 ≤ v.ck ∧ v.ck ≤ 4096) (hL : (v.ps.length : Int) ≤ 9223372036854775806) (hL2 : v.ps.length ≤ 4398046511104) (hFt : fitV g.held g.wait v = (3, 0)) (hW : g.wait.find? (isV v.id) = none) (hQr : (g.queue.length : Int) + 1 ≤ g.room) (hQl : g.queue.length ≤ 1000000000) :
  Calls Tryz.prog 79 #[ptr d, .agg (vtx v.id.f v.ck p)] w fun e w' => e = .returned (.tuple #[.int .i64 3, .slice none 0 0, .int .i64 0]) ∧ ∃ g', Ste w w' Av d g g' ∧ g'.room = g.room ∧ g'.held = g.held ∧ g'.wait = g.wait ++ [v] ∧ g'.queue = g.queue ++ [v.id] ∧ g'.order = g.order ∧ g'.heads = g.heads := by
 obtain ⟨pa, pc, rfl⟩ := hr.form
 obtain ⟨vv, hvv⟩ : ∃ a : Array Value, Keep (a = vtx v.id.f v.ck (.slice pa v.ps.length pc)) := ⟨_, ⟨rfl⟩⟩
 rw [← hvv.out]
 have HD := Keep.mk hD
 have HR := Keep.mk hr
 have HM := Keep.mk hM
 have HL := Keep.mk hL
 have HL2 := Keep.mk hL2
 have HFt := Keep.mk hFt
 have HW := Keep.mk hW
 have HQr := Keep.mk hQr
 have HQl := Keep.mk hQl
 obtain ⟨qa, qc, hqv⟩ := hD.oq.sl
 have Hqv := Keep.mk hqv
 clear hD hr hM hL hL2 hFt hW hQr hQl hqv
 go_enter Tryz.func79, Tryz.ntmps79
 refine wp_seq_k fun K1 hK1 => rgn ?_
 refine WL.box (by kernel_rfl) 139 (.tmp 1) rfl (vv) rfl ?_
 obtain ⟨w1, hwn⟩ : ∃ wx, Keep (wx = w.alloc (.cells (vv) 139)) := ⟨_, ⟨rfl⟩⟩
 rw [← hwn.out]
 have HX1 : Keep (Blk w1 w.heap.size 139 (vv)) := ⟨by rw [hwn.out]; exact Blk.new _ _ _⟩
 have LB1 : Keep (Below w.heap.size w w1) := ⟨by rw [hwn.out]; exact below_new _ _⟩
 clear hwn
 have HD1 := Keep.mk (HD.out.below LB1.out)
 have HR1 := Keep.mk (HR.out.below LB1.out)
 simp only [Act.put, pqA, pqB, pqC]
 refine VlS (.int .i64 0) ?_
 refine VlS (.slice none 0 0) ?_
 refine VlS (.int .i64 0) ?_
 refine WL.nil (hK1 _ _ ?_)
 refine wp_seq_k fun K2 hK2 => rgn ?_
 refine VlS (.pointer (some ⟨d, 0, none⟩)) ?_
 refine WL.row (by kernel_rfl) 139 (.tmp 3) rfl w.heap.size rfl 139 vv _ HX1.out Tryz.underlying139 rfl (by rw [hvv.out]; exact Tryz.info139s _ _ _) ?_
 simp only [Act.put, pqA, pqB, pqC]
 have hft := fit_any d v _ Av g w1 HD1.out HR1.out HM.out HL.out
 rw [← hvv.out, HFt.out] at hft
 refine WL.callF (by kernel_rfl) 96 _ _ rfl Tryz.in96 #[ptr d, .agg vv] (by simp [Act.eval]) ?_
 refine (hft).mono ?_
 rintro e w2 ⟨rfl, hz⟩
 refine ⟨_, rfl, ?_⟩
 clear hft
 have HX2 := Keep.mk (HX1.out.below hz HX1.out.lt)
 have LB2 := Keep.mk (belowT LB1.out hz)
 have HD2 := Keep.mk (HD1.out.below hz)
 have HR2 := Keep.mk (HR1.out.below hz)
 clear hz HX1 HD1 HR1
 simp only [Act.put, pqA, pqB, pqC]
 refine VlS (.tuple #[.int .i64 3, .int .i64 0]) ?_
 refine VlS (.int .i64 3) ?_
 refine VlS (.int .i64 0) ?_
 refine VlS (.int .i64 3) ?_
 refine VlS (.int .i64 0) ?_
 refine WL.nil (hK2 _ _ ?_)
 refine wp_seq_k fun K3 hK3 => ?_
 refine wp_seq_k fun K4 hK4 => rgn ?_
 refine VlS (.int .i64 3) ?_
 refine WL.nil (hK4 _ _ ?_)
 refine wp_block ?_
 refine wp_seq_k fun K5 hK5 => rgn ?_
 refine VbF ?_
 refine VbF ?_
 refine WL.nil (hK5 _ _ ?_)
 refine wp_cond_false rfl ?_
 refine wp_seq_k fun K6 hK6 => rgn ?_
 refine VbT ?_
 refine VbT ?_
 refine WL.nil (hK6 _ _ ?_)
 refine wp_cond_true rfl ?_
 refine wp_seq_k fun K7 hK7 => ?_
 have hS0 : Keep ((fun wx => wx.cell? ⟨d, 4, none⟩ = some (.map (some g.wb)) ∧ wx.rangeAt w.heap.size 0 (bytesA 32 v.id.f).toList ∧ wx.rangeAt w.heap.size 0 vv.toList) w2.drew) := ⟨⟨HD2.out.blk.drew.c 4 rfl, vtx_rng (hvv.out ▸ HX2.out.drew), blk_rng HX2.out.drew⟩⟩
 refine wp_region_held_drew (S := fun wx => wx.cell? ⟨d, 4, none⟩ = some (.map (some g.wb)) ∧ wx.rangeAt w.heap.size 0 (bytesA 32 v.id.f).toList ∧ wx.rangeAt w.heap.size 0 vv.toList) (by kernel_rfl) (hS0.out) (fun hHeld => ?_)
 refine tkS (i := 0) (oi := ⟨some 22, Op.move (Operand.tmp 0), 133, _, _, none⟩) (v := .pointer (some ⟨d, 0, none⟩)) rfl (Or.inl ⟨by rfl, fun w hS => by obtain ⟨hS1, hS2, hS3⟩ := hS; go_simp⟩) hHeld ?_
 refine tkS (i := 1) (oi := ⟨some 23, Op.nilCheck (Operand.tmp 22), 0, _, _, none⟩) (v := .pointer (some ⟨d, 0, none⟩)) rfl (Or.inl ⟨by rfl, fun w hS => by obtain ⟨hS1, hS2, hS3⟩ := hS; go_simp⟩) hHeld ?_
 refine tkS (i := 2) (oi := ⟨some 24, Op.fieldAddr 152 (Operand.tmp 23) 4, 0, _, _, none⟩) (v := .pointer (some ⟨d, 4, none⟩)) rfl (Or.inl ⟨by rfl, fun w hS => by obtain ⟨hS1, hS2, hS3⟩ := hS; go_simp⟩) hHeld ?_
 refine tkS (i := 3) (oi := ⟨some 25, Op.load 150 (Operand.tmp 24), 150, _, _, none⟩) (v := .map (some g.wb)) rfl (Or.inl ⟨by rfl, fun w hS => by obtain ⟨hS1, hS2, hS3⟩ := hS; go_simp⟩) hHeld ?_
 refine tkS (i := 4) (oi := ⟨some 26, Op.fieldAddr 139 (Operand.tmp 3) 0, 0, _, _, none⟩) (v := .pointer (some ⟨w.heap.size, 0, none⟩)) rfl (Or.inl ⟨by rfl, fun w hS => by obtain ⟨hS1, hS2, hS3⟩ := hS; go_simp⟩) hHeld ?_
 refine tkS (i := 5) (oi := ⟨some 27, Op.load 36 (Operand.tmp 26), 36, _, _, none⟩) (v := .agg (bytesA 32 v.id.f)) rfl (yieldsIf_ld (by rfl) (Operand.tmp 26) 36 rfl w.heap.size 0 rfl (bytesA 32 v.id.f) _ Tryz.underlying36 rfl (size36A _) fun w hS => hS.2.1) hHeld ?_
 refine tkS (i := 6) (oi := ⟨some 28, Op.load 139 (Operand.tmp 3), 139, _, _, none⟩) (v := .agg vv) rfl (yieldsIf_ld (by rfl) (Operand.tmp 3) 139 rfl w.heap.size 0 rfl vv _ Tryz.underlying139 rfl (by rw [hvv.out]; exact Tryz.info139s _ _ _) fun w hS => hS.2.2) hHeld ?_
 refine wpAnyH_ready (rs := [7]) (by kernel_rfl) (by simp) ?_
 refine AllReadyH.cons (o := ⟨some 29, Op.call { callee := Callee.value (Operand.func 98), args := #[Operand.tmp 28], argTypes := #[139] }, 139, _, _, none⟩) rfl (fun K hK => ?_) AllReadyH.nil
 rw [if_pos (by rfl)]
 have how := own_any v _ w2.drew (HR2.out.below (Below.refl _ _).drew) (by have := HL2.out; omega)
 rw [← hvv.out] at how
 refine wp_callF 98 _ _ rfl Tryz.in98 #[.agg vv] (by simp [Act.eval]) (fun u wx => ∃ p3, u = .agg (vtx v.id.f v.ck p3) ∧ Fresh w2.drew wx p3 v.ps) (how.mono fun e w' ⟨p3, h1, h2⟩ => ⟨_, h1, p3, rfl, h2⟩) ?_
 clear how
 rintro _ w3 ⟨p3, rfl, hf⟩
 have HF3 := Keep.mk hf
 have B3 : Keep (Below w2.heap.size w2 w3) := ⟨belowT (Below.refl _ w2).drew hf.bel⟩
 have HX3 := Keep.mk (HX2.out.below B3.out HX2.out.lt)
 have HD3 := Keep.mk (HD2.out.below B3.out)
 have LB3 := Keep.mk (belowT LB2.out B3.out)
 obtain ⟨vq, hvq⟩ : ∃ a : Array Value, Keep (a = vtx v.id.f v.ck p3) := ⟨_, ⟨rfl⟩⟩
 rw [← hvq.out]
 refine hK _ _ ⟨HD3.out.blk.c 4 rfl, vtx_rng (hvv.out ▸ HX3.out), blk_rng HX3.out⟩ fun hH1 => ?_
 clear hK hf
 simp only [Act.put, pqA, pqB, pqC]
 refine wpAnyH_ready (rs := [8]) (by kernel_rfl) (by simp) ?_
 refine AllReadyH.cons (o := ⟨none, Op.mapUpdate 150 (Operand.tmp 25) (Operand.tmp 27) (Operand.tmp 29), 0, _, _, none⟩) rfl (fun K hK => ?_) AllReadyH.nil
 rw [if_pos (by rfl)]
 obtain ⟨w4, hr4, hm4, hg4⟩ := upd_new HD3.out.wait (HD3.out.av _ (.inr (.inr (.inl rfl)))) v HW.out p3 HF3.out.own.row fun k hk => ⟨HF3.out.own.lt k hk, fun ha => by have h1 : w2.heap.size ≤ k := HF3.out.new k hk; have := HD2.out.lt k ha; omega⟩
 rw [← hvq.out] at hr4
 refine wp_upd (Operand.tmp 25) (Operand.tmp 27) (Operand.tmp 29) rfl _ _ _ rfl rfl rfl w4 hr4 ?_
 have HX4 := Keep.mk (hg4.blk HX3.out fun e => HD3.out.wait.ne HX3.out e)
 have HD4 := Keep.mk (HD3.out.addWait hm4 hg4)
 have G4 : Keep (Grown w w4 (DgS d g)) := ⟨(Grown.below (S := DgS d g) LB3.out).next (T := fun k => k = g.wb) hg4 fun i _ e => e ▸ .inr (.inr (.inl rfl))⟩
 refine hK _ _ ⟨HD4.out.blk.c 4 rfl, vtx_rng (hvv.out ▸ HX4.out), blk_rng HX4.out⟩ fun hH2 => ?_
 clear hK hr4 hm4 hg4 hS0 HX3 HX2 HD3 HD2 HR2
 simp only [Act.put, pqA, pqB, pqC]
 refine wpAnyH_done (by kernel_rfl) ?_ _
 refine hK7 _ _ ?_
 refine wp_seq_k fun K8 hK8 => ?_
 have c5k : Keep (∀ wx, Below w4.heap.size w4 wx → (fun wx => True ∧ wx.rangeAt w.heap.size 0 (bytesA 32 v.id.f).toList ∧ wx.rangeAt w.heap.size 0 vv.toList) wx) := ⟨fun wx hb => ⟨trivial, vtx_rng (hvv.out ▸ HX4.out.below hb HX4.out.lt), blk_rng (HX4.out.below hb HX4.out.lt)⟩⟩
 have B2 : Keep (Below w4.heap.size w4 w4.drew) := ⟨(Below.refl _ _).drew⟩
 refine wp_region_held_drew (S := fun wx => True ∧ wx.rangeAt w.heap.size 0 (bytesA 32 v.id.f).toList ∧ wx.rangeAt w.heap.size 0 vv.toList) (by kernel_rfl) (c5k.out _ B2.out) (fun hHeld => ?_)
 refine tkS (i := 0) (oi := ⟨some 30, Op.move (Operand.tmp 0), 133, _, _, none⟩) (v := .pointer (some ⟨d, 0, none⟩)) rfl (Or.inl ⟨by rfl, fun w hS => by obtain ⟨hS1, hS2, hS3⟩ := hS; go_simp⟩) hHeld ?_
 refine tkS (i := 1) (oi := ⟨some 31, Op.move (Operand.tmp 0), 133, _, _, none⟩) (v := .pointer (some ⟨d, 0, none⟩)) rfl (Or.inl ⟨by rfl, fun w hS => by obtain ⟨hS1, hS2, hS3⟩ := hS; go_simp⟩) hHeld ?_
 refine tkS (i := 2) (oi := ⟨some 32, Op.nilCheck (Operand.tmp 31), 0, _, _, none⟩) (v := .pointer (some ⟨d, 0, none⟩)) rfl (Or.inl ⟨by rfl, fun w hS => by obtain ⟨hS1, hS2, hS3⟩ := hS; go_simp⟩) hHeld ?_
 refine tkS (i := 3) (oi := ⟨some 33, Op.fieldAddr 152 (Operand.tmp 32) 5, 0, _, _, none⟩) (v := .pointer (some ⟨d, 5, none⟩)) rfl (Or.inl ⟨by rfl, fun w hS => by obtain ⟨hS1, hS2, hS3⟩ := hS; go_simp⟩) hHeld ?_
 refine tkS (i := 5) (oi := ⟨some 35, Op.fieldAddr 139 (Operand.tmp 3) 0, 0, _, _, none⟩) (v := .pointer (some ⟨w.heap.size, 0, none⟩)) rfl (Or.inl ⟨by rfl, fun w hS => by obtain ⟨hS1, hS2, hS3⟩ := hS; go_simp⟩) hHeld ?_
 refine tkS (i := 6) (oi := ⟨some 36, Op.load 36 (Operand.tmp 35), 36, _, _, none⟩) (v := .agg (bytesA 32 v.id.f)) rfl (yieldsIf_ld (by rfl) (Operand.tmp 35) 36 rfl w.heap.size 0 rfl (bytesA 32 v.id.f) _ Tryz.underlying36 rfl (size36A _) fun w hS => hS.2.1) hHeld ?_
 refine wpAnyH_ready (rs := [4, 7]) (by kernel_rfl) (by simp) ?_
 refine AllReadyH.cons (o := ⟨some 34, Op.load 24 (Operand.tmp 33), 24, _, _, none⟩) rfl (fun K hK => ?_) (AllReadyH.cons (o := ⟨some 37, Op.buildSlice 24 1 #[(0, Operand.tmp 36)], 24, _, _, none⟩) rfl (fun K hK => ?_) AllReadyH.nil)
 all_goals rw [if_pos (by rfl)]
 ·have c_o : w4.drew.cell? ⟨d, 5, none⟩ = some (.slice qa g.queue.length qc) := by have h := (HD4.out.blk.below B2.out HD4.out.blk.lt).c 5 (by rfl : (dgA { g with wait := g.wait ++ [v] })[5]? = some g.qv); rw [Hqv.out] at h; exact h
  refine wp_val (.slice qa g.queue.length qc) (by go_simp) ?_
  clear c_o
  refine hK _ _ (c5k.out _ B2.out) fun hR1 => ?_
  clear hK
  simp only [Act.put, pqA, pqB, pqC]
  refine wpAnyH_ready (rs := [7]) (by kernel_rfl) (by simp) ?_
  refine AllReadyH.cons (o := ⟨some 37, Op.buildSlice 24 1 #[(0, Operand.tmp 36)], 24, _, _, none⟩) rfl (fun K hK => ?_) AllReadyH.nil
  rw [if_pos (by rfl)]
  refine wp_bs 24 1 _ rfl #[(0, .agg (bytesA 32 v.id.f))] (by simp [Act.eval]) _ _ (bsH v.id _) ?_
  have HGy := Keep.mk (Blk.new w4.drew 36 (bytesA 32 v.id.f))
  have BB2 := Keep.mk (belowT B2.out (below_new w4.drew (.cells (bytesA 32 v.id.f) 36)))
  generalize w4.drew.alloc (.cells (bytesA 32 v.id.f) 36) = wb2 at *
  generalize w4.drew.heap.size = gy at *
  refine hK _ _ (c5k.out _ BB2.out) fun hR2 => ?_
  clear hK
  simp only [Act.put, pqA, pqB, pqC]
  refine wpAnyH_ready (rs := [8]) (by kernel_rfl) (by simp) ?_
  refine AllReadyH.cons (o := ⟨some 38, Op.call { callee := Callee.builtin Builtin.append, args := #[Operand.tmp 34, Operand.tmp 37], argTypes := #[24, 24] }, 24, _, _, none⟩) rfl (fun K hK => ?_) AllReadyH.nil
  rw [if_pos (by rfl)]
  refine wp_apH (Operand.tmp 34) (Operand.tmp 37) rfl _ g.queue gy v.id rfl rfl (Hqv.out ▸ (HD4.out.below BB2.out).oq) HGy.out (by have := HQl.out; omega) fun v5 w5 h5 => ?_
  have HN5 := Keep.mk h5
  have HX5 := Keep.mk (h5.2.1.blk (HX4.out.below BB2.out HX4.out.lt) fun e => by have := (((HD4.out.below BB2.out).oq).typ (by show g.qv.ownBlock = _; rw [Hqv.out]; exact e)).one (HX4.out.below BB2.out HX4.out.lt).typ; revert this; decide)
  have HB5 := Keep.mk (h5.2.1.blk (HD4.out.below BB2.out).blk fun e => by have := (((HD4.out.below BB2.out).oq).typ (by show g.qv.ownBlock = _; rw [Hqv.out]; exact e)).one (HD4.out.below BB2.out).blk.typ; revert this; decide)
  refine hK _ _ ⟨trivial, vtx_rng (hvv.out ▸ HX5.out), blk_rng HX5.out⟩ fun hH5 => ?_
  obtain ⟨a5, c5, e5⟩ := h5.1.sl
  subst e5
  clear hK h5
  simp only [Act.put, pqA, pqB, pqC]
  refine tkS (i := 9) (oi := ⟨some 39, Op.nilCheck (Operand.tmp 30), 0, _, _, none⟩) (v := .pointer (some ⟨d, 0, none⟩)) rfl (Or.inl ⟨by rfl, fun w hS => by obtain ⟨hS1, hS2, hS3⟩ := hS; go_simp⟩) hH5 ?_
  refine tkS (i := 10) (oi := ⟨some 40, Op.fieldAddr 152 (Operand.tmp 39) 5, 0, _, _, none⟩) (v := .pointer (some ⟨d, 5, none⟩)) rfl (Or.inl ⟨by rfl, fun w hS => by obtain ⟨hS1, hS2, hS3⟩ := hS; go_simp⟩) hH5 ?_
  refine wpAnyH_ready (rs := [11]) (by kernel_rfl) (by simp) ?_
  refine AllReadyH.cons (o := ⟨none, Op.store 24 (Operand.tmp 40) (Operand.tmp 38), 0, _, _, none⟩) rfl (fun K hK => ?_) AllReadyH.nil
  rw [if_pos (by rfl)]
  have f_o := HB5.out.frozen 5
  have c_o : w5.cell? ⟨d, 5, none⟩ = some (.slice qa g.queue.length qc) := by have h := HB5.out.c 5 (by rfl : (dgA { g with wait := g.wait ++ [v] })[5]? = some g.qv); rw [Hqv.out] at h; exact h
  obtain ⟨n5, hn5⟩ : ∃ n, n = (g.queue ++ [v.id]).length := ⟨_, rfl⟩
  rw [← hn5] at HN5 ⊢
  refine wp_cellS (w5.setCell ⟨d, 5, none⟩ (.slice a5 n5 c5)) (by go_simp) ?_
  clear f_o c_o
  have HD6 := Keep.mk ((HD4.out.below BB2.out).setQ HN5.out.1 (by show Grown _ _ fun k => g.qv.ownBlock = some k; rw [Hqv.out]; exact HN5.out.2.1) (by show Moved _ g.qv _; rw [Hqv.out]; exact HN5.out.2.2))
  have HX6 := Keep.mk (HX5.out.set_ne (b' := d) (j := 5) (fun e => by subst e; have := HX5.out.typ.one HB5.out.typ; revert this; decide) (.slice a5 n5 c5))
  have G6 : Keep (Grown w (w5.setCell ⟨d, 5, none⟩ (.slice a5 n5 c5)) (DgS d g)) := ⟨((G4.out.trans (Grown.below BB2.out)).next HN5.out.2.1 fun i _ e => .inr (.inr (.inr (.inr (.inr (by rw [Hqv.out]; exact e)))))).next (Grown.setCell w5 d 5 _ (S := fun k => k = d) fun _ => rfl) fun i _ e => .inl e⟩
  have M6 : Keep (Moved w g.qv (.slice a5 n5 c5)) := ⟨by rw [Hqv.out]; exact HN5.out.2.2.imp id fun ⟨q, e, h⟩ => ⟨q, e, Nat.le_trans G4.out.size (Nat.le_trans BB2.out.size h)⟩⟩
  generalize w5.setCell ⟨d, 5, none⟩ (.slice a5 n5 c5) = w6 at *
  obtain ⟨v6, hv6⟩ : ∃ u : Value, u = .slice a5 n5 c5 := ⟨_, rfl⟩
  rw [← hv6] at HD6 M6
  refine hK _ _ ⟨trivial, vtx_rng (hvv.out ▸ HX6.out), blk_rng HX6.out⟩ fun hH6 => ?_
  rw [hn5]
  clear hK hH5 hH6 HB5 HX5 HN5 c5k hv6 hn5
  simp only [Act.put, pqA, pqB, pqC]
  refine wpAnyH_done (by kernel_rfl) ?_ _
  refine hK8 _ _ ?_
  refine rgn ?_
  refine VlS (.pointer (some ⟨d, 0, none⟩)) ?_
  refine WL.callF (by kernel_rfl) 99 _ _ rfl Tryz.in99 #[ptr d] (by simp [Act.eval]) ?_
  refine (shed_none d _ { { g with wait := g.wait ++ [v] } with qv := v6, queue := g.queue ++ [v.id] } w6 HD6.out (by have := HQr.out; simp; omega)).mono ?_
  rintro e w7 ⟨rfl, hz⟩
  refine ⟨_, rfl, ?_⟩
  have B7 := Keep.mk hz
  clear hz
  simp only [Act.put, pqA, pqB, pqC]
  refine VlS (.slice none 0 0) ?_
  refine WL.nil (hK3 _ _ ?_)
  refine wp_seq_k fun K9 hK9 => rgn ?_
  refine VlS (.int .i64 3) ?_
  refine VlS (.slice none 0 0) ?_
  refine VlS (.int .i64 0) ?_
  refine VlS (.int .i64 3) ?_
  refine VlS (.slice none 0 0) ?_
  refine VlS (.int .i64 0) ?_
  refine WL.nil (hK9 _ _ ?_)
  refine wp_ret ?_
  go_ret3
  exact ⟨rfl, { { g with wait := g.wait ++ [v] } with qv := v6, queue := g.queue ++ [v.id] }, ⟨(HD6.out.below B7.out).avInto (fun k hk => hk.elim .inl (HD6.out.av k)) (fun k hk => .inr hk), G6.out.trans (Grown.below B7.out), fun k hk => DagAt.setQS (g := { g with wait := g.wait ++ [v] }) M6.out hk⟩, rfl, rfl, rfl, rfl, rfl, rfl⟩
 ·refine wp_bs 24 1 _ rfl #[(0, .agg (bytesA 32 v.id.f))] (by simp [Act.eval]) _ _ (bsH v.id _) ?_
  have HGy := Keep.mk (Blk.new w4.drew 36 (bytesA 32 v.id.f))
  have BB1 := Keep.mk (belowT B2.out (below_new w4.drew (.cells (bytesA 32 v.id.f) 36)))
  generalize w4.drew.alloc (.cells (bytesA 32 v.id.f) 36) = wb1 at *
  generalize w4.drew.heap.size = gy at *
  refine hK _ _ (c5k.out _ BB1.out) fun hR1 => ?_
  clear hK
  simp only [Act.put, pqA, pqB, pqC]
  refine wpAnyH_ready (rs := [4]) (by kernel_rfl) (by simp) ?_
  refine AllReadyH.cons (o := ⟨some 34, Op.load 24 (Operand.tmp 33), 24, _, _, none⟩) rfl (fun K hK => ?_) AllReadyH.nil
  rw [if_pos (by rfl)]
  have c_o : wb1.cell? ⟨d, 5, none⟩ = some (.slice qa g.queue.length qc) := by have h := (HD4.out.blk.below BB1.out HD4.out.blk.lt).c 5 (by rfl : (dgA { g with wait := g.wait ++ [v] })[5]? = some g.qv); rw [Hqv.out] at h; exact h
  refine wp_val (.slice qa g.queue.length qc) (by go_simp) ?_
  clear c_o
  refine hK _ _ (c5k.out _ BB1.out) fun hR2 => ?_
  clear hK
  simp only [Act.put, pqA, pqB, pqC]
  refine wpAnyH_ready (rs := [8]) (by kernel_rfl) (by simp) ?_
  refine AllReadyH.cons (o := ⟨some 38, Op.call { callee := Callee.builtin Builtin.append, args := #[Operand.tmp 34, Operand.tmp 37], argTypes := #[24, 24] }, 24, _, _, none⟩) rfl (fun K hK => ?_) AllReadyH.nil
  rw [if_pos (by rfl)]
  refine wp_apH (Operand.tmp 34) (Operand.tmp 37) rfl _ g.queue gy v.id rfl rfl (Hqv.out ▸ (HD4.out.below BB1.out).oq) HGy.out (by have := HQl.out; omega) fun v5 w5 h5 => ?_
  have HN5 := Keep.mk h5
  have HX5 := Keep.mk (h5.2.1.blk (HX4.out.below BB1.out HX4.out.lt) fun e => by have := (((HD4.out.below BB1.out).oq).typ (by show g.qv.ownBlock = _; rw [Hqv.out]; exact e)).one (HX4.out.below BB1.out HX4.out.lt).typ; revert this; decide)
  have HB5 := Keep.mk (h5.2.1.blk (HD4.out.below BB1.out).blk fun e => by have := (((HD4.out.below BB1.out).oq).typ (by show g.qv.ownBlock = _; rw [Hqv.out]; exact e)).one (HD4.out.below BB1.out).blk.typ; revert this; decide)
  refine hK _ _ ⟨trivial, vtx_rng (hvv.out ▸ HX5.out), blk_rng HX5.out⟩ fun hH5 => ?_
  obtain ⟨a5, c5, e5⟩ := h5.1.sl
  subst e5
  clear hK h5
  simp only [Act.put, pqA, pqB, pqC]
  refine tkS (i := 9) (oi := ⟨some 39, Op.nilCheck (Operand.tmp 30), 0, _, _, none⟩) (v := .pointer (some ⟨d, 0, none⟩)) rfl (Or.inl ⟨by rfl, fun w hS => by obtain ⟨hS1, hS2, hS3⟩ := hS; go_simp⟩) hH5 ?_
  refine tkS (i := 10) (oi := ⟨some 40, Op.fieldAddr 152 (Operand.tmp 39) 5, 0, _, _, none⟩) (v := .pointer (some ⟨d, 5, none⟩)) rfl (Or.inl ⟨by rfl, fun w hS => by obtain ⟨hS1, hS2, hS3⟩ := hS; go_simp⟩) hH5 ?_
  refine wpAnyH_ready (rs := [11]) (by kernel_rfl) (by simp) ?_
  refine AllReadyH.cons (o := ⟨none, Op.store 24 (Operand.tmp 40) (Operand.tmp 38), 0, _, _, none⟩) rfl (fun K hK => ?_) AllReadyH.nil
  rw [if_pos (by rfl)]
  have f_o := HB5.out.frozen 5
  have c_o : w5.cell? ⟨d, 5, none⟩ = some (.slice qa g.queue.length qc) := by have h := HB5.out.c 5 (by rfl : (dgA { g with wait := g.wait ++ [v] })[5]? = some g.qv); rw [Hqv.out] at h; exact h
  obtain ⟨n5, hn5⟩ : ∃ n, n = (g.queue ++ [v.id]).length := ⟨_, rfl⟩
  rw [← hn5] at HN5 ⊢
  refine wp_cellS (w5.setCell ⟨d, 5, none⟩ (.slice a5 n5 c5)) (by go_simp) ?_
  clear f_o c_o
  have HD6 := Keep.mk ((HD4.out.below BB1.out).setQ HN5.out.1 (by show Grown _ _ fun k => g.qv.ownBlock = some k; rw [Hqv.out]; exact HN5.out.2.1) (by show Moved _ g.qv _; rw [Hqv.out]; exact HN5.out.2.2))
  have HX6 := Keep.mk (HX5.out.set_ne (b' := d) (j := 5) (fun e => by subst e; have := HX5.out.typ.one HB5.out.typ; revert this; decide) (.slice a5 n5 c5))
  have G6 : Keep (Grown w (w5.setCell ⟨d, 5, none⟩ (.slice a5 n5 c5)) (DgS d g)) := ⟨((G4.out.trans (Grown.below BB1.out)).next HN5.out.2.1 fun i _ e => .inr (.inr (.inr (.inr (.inr (by rw [Hqv.out]; exact e)))))).next (Grown.setCell w5 d 5 _ (S := fun k => k = d) fun _ => rfl) fun i _ e => .inl e⟩
  have M6 : Keep (Moved w g.qv (.slice a5 n5 c5)) := ⟨by rw [Hqv.out]; exact HN5.out.2.2.imp id fun ⟨q, e, h⟩ => ⟨q, e, Nat.le_trans G4.out.size (Nat.le_trans BB1.out.size h)⟩⟩
  generalize w5.setCell ⟨d, 5, none⟩ (.slice a5 n5 c5) = w6 at *
  obtain ⟨v6, hv6⟩ : ∃ u : Value, u = .slice a5 n5 c5 := ⟨_, rfl⟩
  rw [← hv6] at HD6 M6
  refine hK _ _ ⟨trivial, vtx_rng (hvv.out ▸ HX6.out), blk_rng HX6.out⟩ fun hH6 => ?_
  rw [hn5]
  clear hK hH5 hH6 HB5 HX5 HN5 c5k hv6 hn5
  simp only [Act.put, pqA, pqB, pqC]
  refine wpAnyH_done (by kernel_rfl) ?_ _
  refine hK8 _ _ ?_
  refine rgn ?_
  refine VlS (.pointer (some ⟨d, 0, none⟩)) ?_
  refine WL.callF (by kernel_rfl) 99 _ _ rfl Tryz.in99 #[ptr d] (by simp [Act.eval]) ?_
  refine (shed_none d _ { { g with wait := g.wait ++ [v] } with qv := v6, queue := g.queue ++ [v.id] } w6 HD6.out (by have := HQr.out; simp; omega)).mono ?_
  rintro e w7 ⟨rfl, hz⟩
  refine ⟨_, rfl, ?_⟩
  have B7 := Keep.mk hz
  clear hz
  simp only [Act.put, pqA, pqB, pqC]
  refine VlS (.slice none 0 0) ?_
  refine WL.nil (hK3 _ _ ?_)
  refine wp_seq_k fun K10 hK10 => rgn ?_
  refine VlS (.int .i64 3) ?_
  refine VlS (.slice none 0 0) ?_
  refine VlS (.int .i64 0) ?_
  refine VlS (.int .i64 3) ?_
  refine VlS (.slice none 0 0) ?_
  refine VlS (.int .i64 0) ?_
  refine WL.nil (hK10 _ _ ?_)
  refine wp_ret ?_
  go_ret3
  exact ⟨rfl, { { g with wait := g.wait ++ [v] } with qv := v6, queue := g.queue ++ [v.id] }, ⟨(HD6.out.below B7.out).avInto (fun k hk => hk.elim .inl (HD6.out.av k)) (fun k hk => .inr hk), G6.out.trans (Grown.below B7.out), fun k hk => DagAt.setQS (g := { g with wait := g.wait ++ [v] }) M6.out hk⟩, rfl, rfl, rfl, rfl, rfl, rfl⟩
theorem Tryz.in129 (w : World) (vs : Array Value) : (callFunc 129 vs).run Tryz.prog w = .ok (.enter 129 vs) w := by kernel_rfl
theorem order_any (d : Nat) (Av : Nat → Prop) (g : DG) (w : World) (hD : DagAt w Av d g) (hL : g.order.length ≤ 4398046511104) : Calls Tryz.prog 81 #[ptr d] w fun e w' => ∃ v', e = .returned v' ∧ Fresh w w' v' g.order := by
 obtain ⟨xa, xc, hx⟩ := hD.oo.sl
 have Hx := Keep.mk hx
 have HD := Keep.mk hD
 have HL := Keep.mk hL
 clear hD hL hx
 go_enter Tryz.func81, Tryz.ntmps81
 have cl : w.cell? ⟨d, 3, none⟩ = some (.slice xa g.order.length xc) := by have h := HD.out.blk.c 3 (by rfl : (dgA g)[3]? = some g.ov); rw [Hx.out] at h; exact h
 refine wp_seq_k fun K1 hK1 => rgn ?_
 refine VlS (.slice none 0 0) ?_
 refine WL.nil (hK1 _ _ ?_)
 refine wp_seq_k fun K2 hK2 => rgn ?_
 refine VlS (.pointer (some ⟨d, 0, none⟩)) ?_
 refine VlS (.pointer (some ⟨d, 0, none⟩)) ?_
 refine VlS (.pointer (some ⟨d, 3, none⟩)) ?_
 refine VlS (.slice xa g.order.length xc) ?_
 clear cl
 refine WL.callF (by kernel_rfl) 61 _ _ rfl Tryz.in61 #[.slice xa g.order.length xc] (by simp [Act.eval]) ?_
 refine (clone_any _ g.order w (Hx.out ▸ HD.out.oo.row) HL.out).mono ?_
 rintro e w1 ⟨v1, rfl, hf⟩
 refine ⟨_, rfl, ?_⟩
 have HF := Keep.mk hf
 clear hf
 simp only [Act.put, pqA, pqB, pqC]
 refine VlS (v1) ?_
 refine WL.nil (hK2 _ _ ?_)
 refine wp_ret ?_
 go_ret
 exact ⟨_, rfl, HF.out⟩
theorem bs_mem {l : List Hs} {x : Hs} {i : Nat} {fd : Bool} (hI : Inc l) (h2 : ∀ k, k < i → Lt (l.getD k default) x) (h3 : ∀ k, i ≤ k → k < l.length → ¬ Lt (l.getD k default) x) (h4 : fd = true ↔ i < l.length ∧ l.getD i default = x) : fd = decide (x ∈ l) := by
 rw [Bool.eq_iff_iff, h4, decide_eq_true_iff]
 constructor
 ·rintro ⟨h, rfl⟩
  rw [List.getD_eq_getElem?_getD, List.getElem?_eq_getElem h, Option.getD_some]
  exact List.getElem_mem h
 ·intro hx
  obtain ⟨k, hk, e⟩ := List.getElem_of_mem hx
  have ek : l.getD k default = x := by rw [List.getD_eq_getElem?_getD, List.getElem?_eq_getElem hk, Option.getD_some, e]
  by_cases h : k < i
  ·have := h2 k h; rw [ek] at this; exact absurd this (Lt.irrefl x)
  ·by_cases h5 : k = i
   ·subst h5; exact ⟨hk, ek⟩
   ·have h6 := hI i k (by omega) hk
    rw [ek] at h6
    exact absurd h6 (h3 i (Nat.le_refl _) (by omega))
set_option maxRecDepth 8000 in
theorem names_any (v : VX) (x : Hs) (p : Value) (w : World) (hr : HRow w p v.ps) (hI : Inc v.ps) (hL : v.ps.length ≤ 4398046511104) : Calls Tryz.prog 129 #[.agg (vtx v.id.f v.ck p), .agg (bytesA 32 x.f)] w fun e w' => e = .returned (.bool (decide (x ∈ v.ps))) ∧ Below w.heap.size w w' := by
 obtain ⟨pa, pc, rfl⟩ := hr.form
 obtain ⟨vv, hvv⟩ : ∃ a : Array Value, Keep (a = vtx v.id.f v.ck (.slice pa v.ps.length pc)) := ⟨_, ⟨rfl⟩⟩
 rw [← hvv.out]
 have HR := Keep.mk hr
 have HI := Keep.mk hI
 have HL := Keep.mk hL
 clear hr hI hL
 go_enter Tryz.func129, Tryz.ntmps129
 refine wp_seq_k fun K1 hK1 => rgn ?_
 refine WL.box (by kernel_rfl) 139 (.tmp 0) rfl (vv) rfl ?_
 obtain ⟨w1, hwn⟩ : ∃ wx, Keep (wx = w.alloc (.cells (vv) 139)) := ⟨_, ⟨rfl⟩⟩
 rw [← hwn.out]
 have HV1 : Keep (Blk w1 w.heap.size 139 (vv)) := ⟨by rw [hwn.out]; exact Blk.new _ _ _⟩
 have LB1 : Keep (Below w.heap.size w w1) := ⟨by rw [hwn.out]; exact below_new _ _⟩
 clear hwn
 simp only [Act.put, pqA, pqB, pqC]
 refine WL.box (by kernel_rfl) 36 (.tmp 1) rfl (bytesA 32 x.f) rfl ?_
 obtain ⟨w2, hwn⟩ : ∃ wx, Keep (wx = w1.alloc (.cells (bytesA 32 x.f) 36)) := ⟨_, ⟨rfl⟩⟩
 rw [← hwn.out]
 have HX2 : Keep (Blk w2 w1.heap.size 36 (bytesA 32 x.f)) := ⟨by rw [hwn.out]; exact Blk.new _ _ _⟩
 have LB2 : Keep (Below w1.heap.size w1 w2) := ⟨by rw [hwn.out]; exact below_new _ _⟩
 clear hwn
 have HV2 := Keep.mk (HV1.out.below LB2.out HV1.out.lt)
 have LB := Keep.mk (belowT LB1.out LB2.out)
 have HR2 := Keep.mk (HR.out.below LB.out)
 have c33 : w2.cell? ⟨w.heap.size, 33, none⟩ = some (.slice pa v.ps.length pc) := HV2.out.c 33 (by rw [hvv.out]; exact vtx_ps _ _ _)
 simp only [Act.put, pqA, pqB, pqC]
 refine VbF ?_
 refine WL.nil (hK1 _ _ ?_)
 refine wp_seq_k fun K2 hK2 => rgn ?_
 refine VlS (.pointer (some ⟨w.heap.size, 33, none⟩)) ?_
 refine VlS (.slice pa v.ps.length pc) ?_
 refine WL.row (by kernel_rfl) 36 (.tmp 3) rfl w1.heap.size rfl 36 (bytesA 32 x.f) _ HX2.out Tryz.underlying36 rfl (Tryz.size36B _) ?_
 simp only [Act.put, pqA, pqB, pqC]
 clear c33
 refine WL.callF (by kernel_rfl) 130 _ _ rfl Tryz.in130 #[.slice pa v.ps.length pc, .agg (bytesA 32 x.f), .func (.func 86) #[] #[]] (by simp [Act.eval]) ?_
 refine (bsearch_any _ v.ps x w2 HR2.out HI.out HL.out).mono ?_
 rintro e w3 ⟨i, fd, rfl, h1, h2, h3, h4, hb⟩
 refine ⟨_, rfl, ?_⟩
 have HB := Keep.mk (belowT LB.out hb)
 have HF : Keep (fd = decide (x ∈ v.ps)) := ⟨bs_mem HI.out h2 h3 h4⟩
 clear h1 h2 h3 h4 hb
 simp only [Act.put, pqA, pqB, pqC]
 refine VlS (.tuple #[.int .i64 (i : Int), .bool fd]) ?_
 refine VlS (.int .i64 (i : Int)) ?_
 refine VlS (.bool fd) ?_
 refine VlS (.int .i64 (i : Int)) ?_
 refine VlS (.bool fd) ?_
 refine WL.nil (hK2 _ _ ?_)
 refine wp_seq_k fun K3 hK3 => rgn ?_
 refine VlS (.bool fd) ?_
 refine VlS (.bool fd) ?_
 refine WL.nil (hK3 _ _ ?_)
 refine wp_ret ?_
 go_ret
 exact ⟨by rw [← HF.out]; rfl, HB.out⟩
theorem Tryz.in128 (w : World) (vs : Array Value) : (callFunc 128 vs).run Tryz.prog w = .ok (.enter 128 vs) w := by kernel_rfl
theorem run_callC {P : Program} (a : Act) (o : Oper) (f : FuncId) (x : Operand) (args : Array Operand) (ts : Array TypeId) (c : Value) (ho : o.op = .call { callee := .value x, args := args, argTypes := ts }) (hx : a.eval x = .func (.func f) #[] #[c])
  (hf : ∀ (w : World) (vs : Array Value), (callFunc f vs).run P w = .ok (.enter f vs) w) (w : World) :
  (execOp a.eval o).run P w = .ok (.enter f (args.map a.eval ++ #[c])) w := by
 unfold execOp
 simp only [ho, resolve, hx]
 generalize Array.map a.eval args = vs
 simp [go_sem]
 exact hf w _
theorem WL.callC {P : Program} {ops : Array Oper} {rest : List Oper} {o : Oper} {a : Act} {w : World} {Q : Exit → Act → World → Prop} (hw : Region.wanted o (yielded ops a.tmps) = true) (f : FuncId) (x : Operand) (args : Array Operand) (ts : Array TypeId) (c : Value) (ho : o.op = .call { callee := .value x, args := args, argTypes := ts }) (hx : a.eval x = .func (.func f) #[] #[c])
  (hf : ∀ (w : World) (vs : Array Value), (callFunc f vs).run P w = .ok (.enter f vs) w) (vs : Array Value) (hvs : args.map a.eval ++ #[c] = vs)
  (hc : Calls P f vs w fun e w' => ∃ v, e = .returned v ∧ WL P ops Q rest (a.put o.dst v) w') : WL P ops Q (o :: rest) a w :=
 ⟨wpList_wanted hw fun K hK => by
  unfold Oper.wp
  rw [run_callC a o f x args ts c ho hx hf w, Oper.upon_enter, hvs]
  refine hc.mono ?_
  rintro e w' ⟨v, rfl, hr⟩
  exact hK _ _ hr.out⟩
set_option maxRecDepth 8000 in
theorem clo_any (b : Nat) (v : VX) (x : Hs) (p : Value) (w : World) (hV : Blk w b 139 (vtx v.id.f v.ck p)) (hr : HRow w p v.ps) (hI : Inc v.ps) (hL : v.ps.length ≤ 4398046511104) : Calls Tryz.prog 128 #[.agg (bytesA 32 x.f), ptr b] w fun e w' => e = .returned (.bool (decide (x ∈ v.ps))) ∧ Below w.heap.size w w' := by
 obtain ⟨vv, hvv⟩ : ∃ a : Array Value, Keep (a = vtx v.id.f v.ck p) := ⟨_, ⟨rfl⟩⟩
 rw [← hvv.out] at hV
 have HV := Keep.mk hV
 have HR := Keep.mk hr
 have HI := Keep.mk hI
 have HL := Keep.mk hL
 clear hV hr hI hL
 go_enter Tryz.func128, Tryz.ntmps128
 refine wp_seq_k fun K1 hK1 => rgn ?_
 refine WL.box (by kernel_rfl) 36 (.tmp 0) rfl (bytesA 32 x.f) rfl ?_
 obtain ⟨w1, hwn⟩ : ∃ wx, Keep (wx = w.alloc (.cells (bytesA 32 x.f) 36)) := ⟨_, ⟨rfl⟩⟩
 rw [← hwn.out]
 have HX1 : Keep (Blk w1 w.heap.size 36 (bytesA 32 x.f)) := ⟨by rw [hwn.out]; exact Blk.new _ _ _⟩
 have LB1 : Keep (Below w.heap.size w w1) := ⟨by rw [hwn.out]; exact below_new _ _⟩
 clear hwn
 have HV1 := Keep.mk (HV.out.below LB1.out HV.out.lt)
 have HR1 := Keep.mk (HR.out.below LB1.out)
 simp only [Act.put, pqA, pqB, pqC]
 refine VbF ?_
 refine WL.nil (hK1 _ _ ?_)
 refine wp_seq_k fun K2 hK2 => rgn ?_
 refine WL.row (by kernel_rfl) 139 (.tmp 1) rfl b rfl 139 vv _ HV1.out Tryz.underlying139 rfl (by rw [hvv.out]; exact Tryz.info139s _ _ _) ?_
 simp only [Act.put, pqA, pqB, pqC]
 refine WL.row (by kernel_rfl) 36 (.tmp 2) rfl w.heap.size rfl 36 (bytesA 32 x.f) _ HX1.out Tryz.underlying36 rfl (Tryz.size36B _) ?_
 simp only [Act.put, pqA, pqB, pqC]
 have hnm := names_any v x _ w1 HR1.out HI.out HL.out
 rw [← hvv.out] at hnm
 refine WL.callF (by kernel_rfl) 129 _ _ rfl Tryz.in129 #[.agg vv, .agg (bytesA 32 x.f)] (by simp [Act.eval]) ?_
 refine (hnm).mono ?_
 rintro e w2 ⟨rfl, hz⟩
 refine ⟨_, rfl, ?_⟩
 clear hnm
 have LB2 := Keep.mk (belowT LB1.out hz)
 clear hz
 simp only [Act.put, pqA, pqB, pqC]
 refine VlS (.bool (decide (x ∈ v.ps))) ?_
 refine WL.nil (hK2 _ _ ?_)
 refine wp_ret ?_
 go_ret
 exact ⟨rfl, LB2.out⟩
def pxF (ps : List Hs) : List Hs → Nat → Int
 | [], _ => -1
 | y :: r, t => if y ∈ ps then (t : Int) else pxF ps r (t + 1)
set_option maxRecDepth 8000 in
set_option maxHeartbeats 400000 in
theorem idxf_any (b : Nat) (v : VX) (p s : Value) (l : List Hs) (w : World) (hr : HRow w s l) (hV : Blk w b 139 (vtx v.id.f v.ck p)) (hP : HRow w p v.ps) (hI : Inc v.ps) (hPl : v.ps.length ≤ 4398046511104) (hL : l.length ≤ 4398046511104) : Calls Tryz.prog 171 #[s, .func (.func 128) #[] #[.pointer (some ⟨b, 0, none⟩)]] w fun e w' => e = .returned (.int .i64 (pxF v.ps l 0)) ∧ Below w.heap.size w w' := by
 obtain ⟨pa, pc, rfl⟩ := hr.form
 have HR := Keep.mk hr
 have HV := Keep.mk hV
 have HP := Keep.mk hP
 have HI := Keep.mk hI
 have HPl := Keep.mk hPl
 have HL := Keep.mk hL
 clear hr hV hP hI hPl hL
 go_enter Tryz.func171, Tryz.ntmps171
 refine wp_seq_k fun K1 hK1 => rgn ?_
 refine VlS (.int .i64 0) ?_
 refine WL.nil (hK1 _ _ ?_)
 refine wp_seq_k fun K2 hK2 => ?_
 refine wp_seq_k fun K3 hK3 => rgn ?_
 refine VlS (.slice pa l.length pc) ?_
 refine VlS (.int .i64 (l.length : Int)) ?_
 refine VlS (.int .i64 0) ?_
 refine WL.nil (hK3 _ _ ?_)
 refine wp_block ?_
 refine wp_loop (fun ac wr => ∃ (t : Nat) (u4 u5 u9 u10 u11 u12 u13 u14 u15 u16 u17 u18 : Value), ac = { tmps := #[.slice pa l.length pc, .func (.func 128) #[] #[.pointer (some ⟨b, 0, none⟩)], undef, undef, u4, u5, .slice pa l.length pc, .int .i64 (l.length : Int), .int .i64 (t : Int), u9, u10, u11, u12, u13, u14, u15, u16, u17, u18], defers := [] } ∧ t ≤ l.length ∧ pxF v.ps l 0 = pxF v.ps (l.drop t) t ∧ Below w.heap.size w wr) (fun a _ => l.length - (intOf (a.tmps.getD 8 undef)).toNat) ⟨0, .int .i64 0, undef, undef, undef, undef, undef, undef, undef, undef, undef, undef, undef, rfl, by omega, rfl, Below.refl _ _⟩ ?_
 rintro ac wr ⟨t, u4, u5, u9, u10, u11, u12, u13, u14, u15, u16, u17, u18, rfl, ht, hP, hB⟩
 have JB := Keep.mk hB
 have JP := Keep.mk hP
 clear hB hP
 have HRr := Keep.mk (HR.out.below JB.out)
 have HPr := Keep.mk (HP.out.below JB.out)
 have HVr := Keep.mk (HV.out.below JB.out HV.out.lt)
 by_cases htl : t < l.length
 ·have htl' : (t : Int) < (l.length : Int) := by omega
  have hwr1 : IntKind.i64.wrap ((t : Int) + 1) = (t : Int) + 1 := by rw [IntKind.wrap_i64]; have := HL.out; omega
  obtain ⟨gp, op, hpa, hlen, hcap, hrg⟩ := (HRr.out).at (by omega)
  have hel := rangeAt_elem hrg t htl
  obtain ⟨hh, hhh⟩ : ∃ hh, hh = l[t] := ⟨_, rfl⟩
  rw [← hhh] at hel
  have Jhh := Keep.mk hhh
  have Hel := Keep.mk hel
  subst hpa
  clear hlen hcap hrg hhh hel
  obtain ⟨nb, Hnb⟩ : ∃ b, Keep (decide (hh ∈ v.ps) = b) := ⟨_, ⟨rfl⟩⟩
  refine wp_seq_k fun K4 hK4 => rgn ?_
  refine VbT ?_
  refine WL.nil (hK4 _ _ ?_)
  refine wp_seq_k fun K5 hK5 => ?_
  refine wp_cond_true rfl ?_
  refine wp_skip ?_
  refine hK5 _ _ ?_
  refine wp_seq_k fun K6 hK6 => ?_
  refine wp_block ?_
  refine wp_seq_k fun K7 hK7 => rgn ?_
  refine VlS (.int .i64 (t : Int)) ?_
  refine VlS (.int .i64 (t : Int)) ?_
  refine WL.nil (hK7 _ _ ?_)
  refine wp_seq_k fun K8 hK8 => rgn ?_
  refine VlS (.func (.func 128) #[] #[.pointer (some ⟨b, 0, none⟩)]) ?_
  refine VlS (.slice (some ⟨gp, op, none⟩) l.length pc) ?_
  refine VlS (.int .i64 (t : Int)) ?_
  refine VlS (.pointer (some ⟨gp, op + t * 32, none⟩)) ?_
  refine WL.mid (by kernel_rfl) 36 (.tmp 14) rfl gp (op + t * 32) rfl (encH hh) _ Hel.out Tryz.underlying36 rfl (Tryz.size36L hh) ?_
  rw [enc_load]
  simp only [Act.put, pqA, pqB, pqC]
  have hcl := clo_any b v hh _ wr HVr.out HPr.out HI.out HPl.out
  rw [Hnb.out] at hcl
  refine WL.callC (by kernel_rfl) 128 (.tmp 11) _ _ (ptr b) rfl rfl Tryz.in128 #[.agg (bytesA 32 hh.f), ptr b] (by simp [Act.eval]) ?_
  refine hcl.mono ?_
  clear hcl
  rintro e w2 ⟨rfl, hz⟩
  refine ⟨_, rfl, ?_⟩
  have B2 := Keep.mk (belowT JB.out hz)
  clear hz
  simp only [Act.put, pqA, pqB, pqC]
  refine WL.nil (hK8 _ _ ?_)
  rcases Bool.eq_false_or_eq_true nb with hnq | hnq
  ·subst hnq
   refine wp_cond_true rfl ?_
   refine wp_seq_k fun K9 hK9 => rgn ?_
   refine VlS (.int .i64 (t : Int)) ?_
   refine VlS (.int .i64 (t : Int)) ?_
   refine WL.nil (hK9 _ _ ?_)
   refine wp_ret ?_
   go_ret
   have heq : hh ∈ v.ps := of_decide_eq_true Hnb.out
   refine ⟨?_, B2.out⟩
   rw [JP.out, List.drop_eq_getElem_cons htl, pxF, ← Jhh.out, if_pos heq]; rfl
  ·subst hnq
   refine wp_cond_false rfl ?_
   refine wp_skip ?_
   refine hK6 _ _ ?_
   refine rgn ?_
   refine VlS (.int .i64 ((t : Int) + 1)) ?_
   refine VlS (.int .i64 ((t : Int) + 1)) ?_
   refine WL.nil ?_
   have hne : ¬ hh ∈ v.ps := of_decide_eq_false Hnb.out
   refine ⟨⟨t + 1, u4, .int .i64 (t : Int), .bool true, .int .i64 (t : Int), .func (.func 128) #[] #[.pointer (some ⟨b, 0, none⟩)], .slice (some ⟨gp, op, none⟩) l.length pc, .int .i64 (t : Int), .pointer (some ⟨gp, op + t * 32, none⟩), .agg (bytesA 32 hh.f), .bool false, u17, .int .i64 ((t : Int) + 1), rfl, by omega, ?_, B2.out⟩, ?_⟩
   ·rw [JP.out, List.drop_eq_getElem_cons htl, pxF, ← Jhh.out, if_neg hne]
   ·simp only [intOf]; show l.length - ((t : Int) + 1).toNat < l.length - ((t : Int)).toNat; omega
 ·have hte : Keep (t = l.length) := ⟨by omega⟩
  have htl' : ¬ (t : Int) < (l.length : Int) := by omega
  refine wp_seq_k fun K10 hK10 => rgn ?_
  refine VbF ?_
  refine WL.nil (hK10 _ _ ?_)
  refine wp_seq_k fun K11 hK11 => ?_
  refine wp_cond_false rfl ?_
  refine wp_exit ?_
  refine hK2 _ _ ?_
  refine wp_seq_k fun K12 hK12 => rgn ?_
  refine VlS (.int .i64 (-1)) ?_
  refine WL.nil (hK12 _ _ ?_)
  refine wp_ret ?_
  go_ret
  refine ⟨?_, JB.out⟩
  rw [JP.out, hte.out, List.drop_length]; rfl
theorem run_clrN (w : World) (g k m c : Nat) (cur : Array Value) (ty : TypeId) (hg : Blk w g 36 cur) (hm : 0 < m) (hk : k * 32 + m * 32 ≤ cur.size) : ∃ cur' : Array Value,
  (Builtin.clear_ #[24] ty #[.slice (some ⟨g, k * 32, none⟩) m c]).run Tryz.prog w = .ok (.tuple #[]) (w.setRow g cur') ∧ cur'.size = cur.size ∧ cur'.toList.take (k * 32) = cur.toList.take (k * 32) := by
 have hfl : (flatH (List.replicate m default)).length = m * 32 := by rw [flatH_len, List.length_replicate]
 have hst := run_storeCells_at Tryz.prog g (k * 32) 36 (flatH (List.replicate m default)) 0 cur w hg (by rw [hfl]; omega) (flatH_one _)
 obtain ⟨i, hi, hzz⟩ := Option.map_eq_some_iff.1 Tryz.info36
 simp only [Prod.mk.injEq] at hzz
 obtain ⟨n, rfl⟩ : ∃ n, m = n + 1 := ⟨m - 1, by omega⟩
 refine ⟨(cur.toList.take (k * 32 + 0) ++ flatH (List.replicate (n + 1) default) ++ cur.toList.drop (k * 32 + 0 + (flatH (List.replicate (n + 1) default)).length)).toArray, ?_, ?_, ?_⟩
 ·simp [Builtin.clear_, zeroValue, typeInfo, hi, hzz.1, Value.cells, zeroCellsH, hst]
 ·simp only [List.size_toArray, List.length_append, List.length_take, List.length_drop, Array.length_toList, hfl]; omega
 ·simp only [Nat.add_zero]
  rw [List.append_assoc, List.take_append_of_le_length (by simp; omega), List.take_take, Nat.min_self]
theorem WL.clrN {ops : Array Oper} {rest : List Oper} {o : Oper} {a : Act} {w : World} {Q : Exit → Act → World → Prop} (hw : Region.wanted o (yielded ops a.tmps) = true) (x : Operand)
  (ho : o.op = .call { callee := .builtin .clear, args := #[x], argTypes := #[24] }) (g k m c : Nat) (cur : Array Value) (hx : a.eval x = .slice (some ⟨g, k * 32, none⟩) m c) (hg : Blk w g 36 cur) (hm : 0 < m) (hk : k * 32 + m * 32 ≤ cur.size)
  (h : ∀ cur' : Array Value, cur'.size = cur.size → cur'.toList.take (k * 32) = cur.toList.take (k * 32) → WL Tryz.prog ops Q rest (a.put o.dst (.tuple #[])) (w.setRow g cur')) : WL Tryz.prog ops Q (o :: rest) a w :=
 ⟨wpList_wanted hw fun K hK => by
  obtain ⟨cur', hr, h1, h2⟩ := run_clrN w g k m c cur o.type hg hm hk
  unfold Oper.wp execOp
  simp only [ho, resolve, invoke, builtin, Sem.run_bind, Sem.run_pure, Result.andThen_ok, List.map_toArray, List.map_cons, List.map_nil, hx, hr]
  exact hK _ _ (h cur' h1 h2).out⟩
theorem ownH_blk {w : World} {g n cap : Nat} {l : List Hs} (h : OwnH w (.slice (some ⟨g, 0, none⟩) n cap) l) : ∃ cur : Array Value, Blk w g 36 cur ∧ n = l.length ∧ l.length ≤ cap ∧ cap ≤ maxLen ∧ cur.size = cap * 32 ∧ cur.toList.take (l.length * 32) = flatH l := by
 rcases h.2 with ⟨h0, _⟩ | ⟨g', cap', cur, hv, h2, h3, h4, h5, h6, h7⟩
 ·cases h0
 ·injection hv with e1 e2 e3
  injection e1 with e1
  injection e1 with e1
  subst e1 e3
  exact ⟨cur, h3, e2, h4, h5, h6, h7⟩
theorem ownH_mk {w : World} {g n cap : Nat} {l : List Hs} {cur : Array Value} (hb : Blk w g 36 cur) (hn : n = l.length) (hc : l.length ≤ cap) (hm : cap ≤ maxLen) (hs : cur.size = cap * 32) (ht : cur.toList.take (l.length * 32) = flatH l) : OwnH w (.slice (some ⟨g, 0, none⟩) n cap) l := by
 subst hn
 exact ⟨by rw [flatH_len], .inr ⟨g, cap, cur, rfl, Nat.zero_le _, hb, hc, hm, hs, ht⟩⟩
theorem take_mid (C e : List Value) (k m n : Nat) (he : e.length = m) (h : k + m ≤ n) (hn : n ≤ C.length) : (C.take k ++ e ++ C.drop (k + m)).take n = (C.take n).take k ++ e ++ (C.take n).drop (k + m) := by
 have hk : (C.take k).length = k := by rw [List.length_take]; omega
 rw [List.append_assoc, List.take_append, hk, List.take_of_length_le (l := C.take k) (by omega), List.take_append, he, List.take_of_length_le (l := e) (by omega), List.take_take, Nat.min_eq_left (by omega), List.drop_take, List.append_assoc, Nat.sub_sub]
theorem own_set {w : World} {g n cap i : Nat} {E : List Hs} {h : Hs} {cur : Array Value} (hO : OwnH w (.slice (some ⟨g, 0, none⟩) n cap) E) (hb : Blk w g 36 cur) (hi : i < E.length) :
  OwnH (w.setRow g (cur.toList.take (i * 32) ++ (bytesA 32 h.f).toList ++ cur.toList.drop (i * 32 + (bytesA 32 h.f).size)).toArray) (.slice (some ⟨g, 0, none⟩) n cap) (E.set i h) := by
 obtain ⟨cur2, hb2, hn, hc, hm, hs, ht⟩ := ownH_blk hO
 obtain rfl : cur = cur2 := by unfold Blk at hb hb2; rw [hb] at hb2; simpa using hb2
 refine ownH_mk (hb.setRow _) (by rw [List.length_set]; exact hn) (by rw [List.length_set]; exact hc) hm ?_ ?_
 ·simp only [List.size_toArray, List.length_append, List.length_take, List.length_drop, Array.length_toList, bytesA_size]
  have : i * 32 + 32 ≤ cap * 32 := by omega
  omega
 ·have h1 := setH_flat E i h hi
  have h2 : (flatH E).toArray.toList = flatH E := rfl
  rw [h2] at h1
  have h3 : (flatH E).take (i * 32) ++ encH h ++ (flatH E).drop (i * 32 + 32) = flatH (E.set i h) := by have := congrArg Array.toList h1; simpa using this
  rw [← h3, List.length_set, ← ht, bytesA_size]
  have h4 := take_mid cur.toList (bytesA 32 h.f).toList (i * 32) 32 (E.length * 32) (by rw [Array.length_toList, bytesA_size]) (by omega) (by have h5 : cur.toList.length = cur.size := Array.length_toList; omega)
  exact h4
def outB (ps : List Hs) (h : Hs) : Bool := decide (¬ h ∈ ps)
theorem pxF_spec (ps : List Hs) : ∀ (l : List Hs) (t i0 : Nat), pxF ps l t = (i0 : Int) → t ≤ i0 ∧ i0 - t < l.length ∧ (l.take (i0 - t + 1)).filter (outB ps) = l.take (i0 - t)
 | [], t, i0, h => by simp [pxF] at h
 | y :: r, t, i0, h => by
  rw [pxF] at h
  by_cases hy : y ∈ ps
  ·rw [if_pos hy] at h
   have : t = i0 := by omega
   subst this
   refine ⟨Nat.le_refl _, by simp, ?_⟩
   simp [outB, hy]
  ·rw [if_neg hy] at h
   obtain ⟨h1, h2, h3⟩ := pxF_spec ps r (t + 1) i0 h
   refine ⟨by omega, by simp; omega, ?_⟩
   rw [show i0 - t = (i0 - (t + 1)) + 1 by omega, List.take_succ_cons, List.take_succ_cons, List.filter_cons, if_pos (by simp [outB, hy]), h3]
theorem take_set_at {E : List Hs} {i : Nat} {h : Hs} (hi : i < E.length) : (E.set i h).take (i + 1) = E.take i ++ [h] := by
 rw [List.take_succ_eq_append_getElem (by rw [List.length_set]; exact hi), List.getElem_set_self, List.take_set_of_le (Nat.le_refl _)]
def NewLx (w w' : World) (v v' : Value) (l' : List Hs) : Prop := OwnH w' v' l' ∧ (Grown w w' fun k => v.ownBlock = some k) ∧ Moved w v v'
theorem drop_head {E l : List Hs} {j : Nat} (h1 : j < E.length) (h2 : j < l.length) (h : E.drop j = l.drop j) : E[j] = l[j] := by
 have h3 : (E.drop j)[0]? = (l.drop j)[0]? := by rw [h]
 rw [List.getElem?_drop, List.getElem?_drop, Nat.add_zero, List.getElem?_eq_getElem h1, List.getElem?_eq_getElem h2] at h3
 exact Option.some.inj h3
set_option maxRecDepth 8000 in
set_option maxHeartbeats 1000000 in
theorem df_some (b g cap i0 : Nat) (v : VX) (p : Value) (l : List Hs) (w : World) (hO : OwnH w (.slice (some ⟨g, 0, none⟩) l.length cap) l) (hV : Blk w b 139 (vtx v.id.f v.ck p)) (hP : HRow w p v.ps) (hPg : p.ownBlock ≠ some g) (hI : Inc v.ps) (hPl : v.ps.length ≤ 4398046511104) (hL : l.length ≤ 4398046511104) (hi : pxF v.ps l 0 = (i0 : Int)) : Calls Tryz.prog 127 #[.slice (some ⟨g, 0, none⟩) l.length cap, .func (.func 128) #[] #[.pointer (some ⟨b, 0, none⟩)]] w fun e w' => ∃ v', e = .returned v' ∧ NewLx w w' (.slice (some ⟨g, 0, none⟩) l.length cap) v' (l.filter (outB v.ps)) := by
 have hbg : Keep (¬ b = g) := ⟨fun e => by obtain ⟨cur, hb, _⟩ := ownH_blk hO; subst e; have := hV.typ.one hb.typ; revert this; decide⟩
 have HO := Keep.mk hO
 have HV := Keep.mk hV
 have HP := Keep.mk hP
 have HPg := Keep.mk hPg
 have HI := Keep.mk hI
 have HPl := Keep.mk hPl
 have HL := Keep.mk hL
 have Hi0 := Keep.mk hi
 clear hO hV hP hPg hI hPl hL hi
 go_enter Tryz.func127, Tryz.ntmps127
 refine wp_seq_k fun K1 hK1 => rgn ?_
 refine VlS (.slice none 0 0) ?_
 refine WL.nil (hK1 _ _ ?_)
 refine wp_seq_k fun K2 hK2 => rgn ?_
 refine VlS (.slice (some ⟨g, 0, none⟩) l.length cap) ?_
 refine VlS (.func (.func 128) #[] #[.pointer (some ⟨b, 0, none⟩)]) ?_
 have hix := idxf_any b v p _ l w HO.out.row HV.out HP.out HI.out HPl.out HL.out
 rw [Hi0.out] at hix
 refine WL.callF (by kernel_rfl) 171 _ _ rfl Tryz.in171 #[.slice (some ⟨g, 0, none⟩) l.length cap, .func (.func 128) #[] #[.pointer (some ⟨b, 0, none⟩)]] (by simp [Act.eval]) ?_
 refine (hix).mono ?_
 rintro e w1 ⟨rfl, hz⟩
 refine ⟨_, rfl, ?_⟩
 clear hix
 have B1 := Keep.mk hz
 clear hz
 have hi0 := pxF_spec v.ps l 0 i0 Hi0.out
 rw [Nat.sub_zero] at hi0
 have HS0 := Keep.mk hi0
 clear hi0
 have hw0 : IntKind.i64.wrap ((i0 : Int) + 1) = ((i0 + 1 : Nat) : Int) := by rw [IntKind.wrap_i64]; have := HS0.out.2.1; have := HL.out; omega
 have hn1 : ¬ (i0 : Int) = -1 := by omega
 simp only [Act.put, pqA, pqB, pqC]
 refine VlS (.int .i64 (i0 : Int)) ?_
 refine WL.nil (hK2 _ _ ?_)
 refine wp_seq_k fun K3 hK3 => ?_
 refine wp_seq_k fun K4 hK4 => rgn ?_
 refine VlS (.int .i64 (i0 : Int)) ?_
 refine VbF ?_
 refine WL.nil (hK4 _ _ ?_)
 refine wp_cond_false rfl ?_
 refine wp_skip ?_
 refine hK3 _ _ ?_
 refine wp_seq_k fun K5 hK5 => ?_
 refine wp_seq_k fun K6 hK6 => rgn ?_
 refine VlS (.int .i64 (i0 : Int)) ?_
 refine VlS (.int .i64 ((i0 + 1 : Nat) : Int)) ?_
 refine VlS (.int .i64 ((i0 + 1 : Nat) : Int)) ?_
 refine WL.nil (hK6 _ _ ?_)
 refine wp_block ?_
 refine wp_loop (fun ac wr => ∃ (t : Nat) (u7 u16 u17 u18 u19 u20 u21 u22 u23 u24 u25 u26 u27 u28 u29 u30 u31 u32 u33 u34 u35 : Value) (i j : Nat) (E : List Hs), ac = { tmps := #[.slice (some ⟨g, 0, none⟩) l.length cap, .func (.func 128) #[] #[.pointer (some ⟨b, 0, none⟩)], undef, undef, .slice none 0 0, .int .i64 (i : Int), .int .i64 (j : Int), u7, .slice (some ⟨g, 0, none⟩) l.length cap, .func (.func 128) #[] #[.pointer (some ⟨b, 0, none⟩)], .int .i64 (i0 : Int), .int .i64 (i0 : Int), .bool false, undef, .int .i64 (i0 : Int), .int .i64 ((i0 + 1 : Nat) : Int), u16, u17, u18, u19, u20, u21, u22, u23, u24, u25, u26, u27, u28, u29, u30, u31, u32, u33, u34, u35, undef, undef, undef, undef, undef, undef], defers := [] } ∧ i < j ∧ j ≤ l.length ∧ E.length = l.length ∧ E.take i = (l.take j).filter (outB v.ps) ∧ E.drop j = l.drop j ∧ OwnH wr (.slice (some ⟨g, 0, none⟩) l.length cap) E ∧ Grown w wr (fun k => k = g)) (fun a _ => l.length - (intOf (a.tmps.getD 6 undef)).toNat) ⟨0, undef, undef, undef, undef, undef, undef, undef, undef, undef, undef, undef, undef, undef, undef, undef, undef, undef, undef, undef, undef, undef, i0, i0 + 1, l, rfl, by omega, by have := HS0.out.2.1; omega, rfl, HS0.out.2.2.symm, rfl, HO.out.below B1.out, Grown.below B1.out⟩ ?_
 rintro ac wr ⟨t, u7, u16, u17, u18, u19, u20, u21, u22, u23, u24, u25, u26, u27, u28, u29, u30, u31, u32, u33, u34, u35, i, j, E, rfl, hij, hjn, hE, hT, hD, hO, hG⟩
 have JE := Keep.mk hE
 have JT := Keep.mk hT
 have JD := Keep.mk hD
 have JO := Keep.mk hO
 have JG := Keep.mk hG
 clear hE hT hD hO hG
 have HVr := Keep.mk (JG.out.blk HV.out fun e => hbg.out e)
 have HPr := Keep.mk (HP.out.grown JG.out fun b' o' n' c' e1 e2 => HPg.out (by rw [e1, e2]; rfl))
 by_cases hjl : j < l.length
 ·have hjl' : (j : Int) < (l.length : Int) := by omega
  have hil' : (i : Int) < (l.length : Int) := by omega
  have hwj : IntKind.i64.wrap ((j : Int) + 1) = ((j + 1 : Nat) : Int) := by rw [IntKind.wrap_i64]; have := HL.out; omega
  have hwi : IntKind.i64.wrap ((i : Int) + 1) = ((i + 1 : Nat) : Int) := by rw [IntKind.wrap_i64]; have := HL.out; omega
  have hjE : j < E.length := by rw [JE.out]; exact hjl
  have hel := rangeAt_elem (ownH_rng JO.out) j hjE
  rw [Nat.zero_add] at hel
  obtain ⟨hh, hhh⟩ : ∃ hh, hh = E[j] := ⟨_, rfl⟩
  rw [← hhh] at hel
  have Hel := Keep.mk hel
  have Jhh : Keep (l[j] = hh) := ⟨hhh ▸ (drop_head hjE hjl JD.out).symm⟩
  clear hel hhh
  obtain ⟨nb, Hnb⟩ : ∃ b, Keep (decide (hh ∈ v.ps) = b) := ⟨_, ⟨rfl⟩⟩
  refine wp_seq_k fun K7 hK7 => ?_
  refine wp_seq_k fun K8 hK8 => rgn ?_
  refine VlS (.int .i64 (j : Int)) ?_
  refine VlS (.slice (some ⟨g, 0, none⟩) l.length cap) ?_
  refine VlS (.int .i64 (l.length : Int)) ?_
  refine VbT ?_
  refine WL.nil (hK8 _ _ ?_)
  refine wp_cond_true rfl ?_
  refine wp_skip ?_
  refine hK7 _ _ ?_
  refine wp_seq_k fun K9 hK9 => ?_
  refine wp_block ?_
  refine wp_seq_k fun K10 hK10 => rgn ?_
  refine VlS (.slice (some ⟨g, 0, none⟩) l.length cap) ?_
  refine VlS (.int .i64 (j : Int)) ?_
  refine VlS (.pointer (some ⟨g, j * 32, none⟩)) ?_
  refine WL.mid (by kernel_rfl) 36 (.tmp 24) rfl g (j * 32) rfl (encH hh) _ Hel.out Tryz.underlying36 rfl (Tryz.size36L hh) ?_
  rw [enc_load]
  simp only [Act.put, pqA, pqB, pqC]
  refine WL.new (by kernel_rfl) 36 rfl _ Tryz.new36 ?_
  simp only [Act.put, pqA, pqB, pqC]
  refine WL.storeR (by kernel_rfl) 36 (.tmp 7) (.tmp 25) rfl wr.heap.size (bytesA 32 hh.f) rfl rfl 36 (bytesA 32 fun _ => 0) (Blk.new wr 36 _) (Tryz.size36B _) (bytesA_sizes _ _ _) (bytesA_one _ _) ?_
  have HY := Keep.mk ((Blk.new wr 36 (bytesA 32 fun _ => 0)).setRow (bytesA 32 hh.f))
  have BY : Keep (Below wr.heap.size wr ((wr.alloc (.cells (bytesA 32 fun _ => 0) 36)).setRow wr.heap.size (bytesA 32 hh.f))) := ⟨below_setRow (below_new wr _) (Nat.le_refl _) _⟩
  generalize (wr.alloc (.cells (bytesA 32 fun _ => 0) 36)).setRow wr.heap.size (bytesA 32 hh.f) = wy at *
  have HV2 := Keep.mk (HVr.out.below BY.out HVr.out.lt)
  have HP2 := Keep.mk (HPr.out.below BY.out)
  have JO2 := Keep.mk (JO.out.below BY.out)
  have JG2 : Keep (Grown w wy fun k => k = g) := ⟨JG.out.trans (Grown.below BY.out)⟩
  have Nbb : Keep (g ≠ wr.heap.size) := ⟨fun e => by obtain ⟨cur, hb, _⟩ := ownH_blk JO.out; have := hb.lt; omega⟩
  generalize hbb : wr.heap.size = bb at *
  clear Hel
  simp only [Act.put]
  refine WL.nil (hK10 _ _ ?_)
  refine wp_seq_k fun K11 hK11 => rgn ?_
  refine VlS (.func (.func 128) #[] #[.pointer (some ⟨b, 0, none⟩)]) ?_
  refine WL.row (by kernel_rfl) 36 (.tmp 7) rfl bb rfl 36 (bytesA 32 hh.f) _ HY.out Tryz.underlying36 rfl (Tryz.size36B _) ?_
  simp only [Act.put, pqA, pqB, pqC]
  have hcl := clo_any b v hh _ wy HV2.out HP2.out HI.out HPl.out
  rw [Hnb.out] at hcl
  refine WL.callC (by kernel_rfl) 128 (.tmp 26) _ _ (ptr b) rfl rfl Tryz.in128 #[.agg (bytesA 32 hh.f), ptr b] (by simp [Act.eval]) ?_
  refine hcl.mono ?_
  clear hcl
  rintro e w2 ⟨rfl, hz⟩
  refine ⟨_, rfl, ?_⟩
  have HY3 := Keep.mk (HY.out.below hz HY.out.lt)
  have JO3 := Keep.mk (JO2.out.below hz)
  have JG3 : Keep (Grown w w2 fun k => k = g) := ⟨JG2.out.trans (Grown.below hz)⟩
  clear hz HY JO2 JG2
  simp only [Act.put, pqA, pqB, pqC]
  by_cases h8_3 : nb = true
  ·skip
   refine VbF ?_
   refine WL.nil (hK11 _ _ ?_)
   refine wp_cond_false rfl ?_
   refine wp_skip ?_
   refine hK9 _ _ ?_
   refine rgn ?_
   refine VlS (.int .i64 (j : Int)) ?_
   refine VlS (.int .i64 ((j + 1 : Nat) : Int)) ?_
   refine VlS (.int .i64 ((j + 1 : Nat) : Int)) ?_
   refine WL.nil ?_
   have hf : (l.take (j + 1)).filter (outB v.ps) = (l.take j).filter (outB v.ps) ++ (if hh ∈ v.ps then [] else [hh]) := by rw [List.take_succ_eq_append_getElem hjl, List.filter_append, Jhh.out]; congr 1; by_cases h : hh ∈ v.ps <;> simp [outB, h]
   have hne : hh ∈ v.ps := of_decide_eq_true (by rw [Hnb.out]; exact h8_3)
   refine ⟨⟨0, .pointer (some ⟨bb, 0, none⟩), .int .i64 (j : Int), .slice (some ⟨g, 0, none⟩) l.length cap, .int .i64 (l.length : Int), .bool true, .int .i64 (j : Int), .int .i64 ((j + 1 : Nat) : Int), .slice (some ⟨g, 0, none⟩) l.length cap, .int .i64 (j : Int), .pointer (some ⟨g, j * 32, none⟩), .agg (bytesA 32 hh.f), .func (.func 128) #[] #[.pointer (some ⟨b, 0, none⟩)], .agg (bytesA 32 hh.f), .bool nb, .bool false, u30, u31, u32, u33, u34, u35, i, j + 1, E, rfl, by omega, by omega, JE.out, ?_, ?_, JO3.out, JG3.out⟩, ?_⟩
   ·rw [JT.out, hf, if_pos hne, List.append_nil]
   ·rw [← List.drop_drop, JD.out, List.drop_drop]
   ·simp only [intOf]; show l.length - (((j + 1 : Nat) : Int)).toNat < l.length - ((j : Int)).toNat; omega
  ·skip
   refine VbT ?_
   refine WL.nil (hK11 _ _ ?_)
   refine wp_cond_true rfl ?_
   refine wp_seq_k fun K12 hK12 => rgn ?_
   refine VlS (.slice (some ⟨g, 0, none⟩) l.length cap) ?_
   refine VlS (.int .i64 (i : Int)) ?_
   refine WL.row (by kernel_rfl) 36 (.tmp 7) rfl bb rfl 36 (bytesA 32 hh.f) _ HY3.out Tryz.underlying36 rfl (Tryz.size36B _) ?_
   simp only [Act.put, pqA, pqB, pqC]
   refine VlS (.pointer (some ⟨g, i * 32, none⟩)) ?_
   obtain ⟨cur, hcb, hcn, hcc, hcm, hcs, hct⟩ := ownH_blk JO3.out
   refine WL.part (by kernel_rfl) 36 (.tmp 33) (.tmp 32) rfl g (i * 32) (bytesA 32 hh.f) rfl rfl 36 cur hcb (Tryz.size36B _) (by rw [bytesA_size, hcs]; have := JE.out; omega) (bytesA_one _ _) _ rfl ?_
   have JO4 := Keep.mk (own_set (h := hh) JO3.out hcb (i := i) (by have := JE.out; omega))
   have JG4 : Keep (Grown w (w2.setRow g (cur.toList.take (i * 32) ++ (bytesA 32 hh.f).toList ++ cur.toList.drop (i * 32 + (bytesA 32 hh.f).size)).toArray) fun k => k = g) := ⟨JG3.out.trans (Grown.setRow w2 g _ fun _ => rfl)⟩
   clear hcb hcn hcc hcm hcs hct
   generalize w2.setRow g (cur.toList.take (i * 32) ++ (bytesA 32 hh.f).toList ++ cur.toList.drop (i * 32 + (bytesA 32 hh.f).size)).toArray = w4 at *
   simp only [Act.put]
   refine WL.nil (hK12 _ _ ?_)
   refine rgn ?_
   refine VlS (.int .i64 (i : Int)) ?_
   refine VlS (.int .i64 ((i + 1 : Nat) : Int)) ?_
   refine VlS (.int .i64 ((i + 1 : Nat) : Int)) ?_
   refine WL.nil (hK9 _ _ ?_)
   refine rgn ?_
   refine VlS (.int .i64 (j : Int)) ?_
   refine VlS (.int .i64 ((j + 1 : Nat) : Int)) ?_
   refine VlS (.int .i64 ((j + 1 : Nat) : Int)) ?_
   refine WL.nil ?_
   have hf : (l.take (j + 1)).filter (outB v.ps) = (l.take j).filter (outB v.ps) ++ (if hh ∈ v.ps then [] else [hh]) := by rw [List.take_succ_eq_append_getElem hjl, List.filter_append, Jhh.out]; congr 1; by_cases h : hh ∈ v.ps <;> simp [outB, h]
   have hne : ¬ hh ∈ v.ps := of_decide_eq_false (by rw [Hnb.out]; exact Bool.eq_false_iff.2 h8_3)
   refine ⟨⟨0, .pointer (some ⟨bb, 0, none⟩), .int .i64 (j : Int), .slice (some ⟨g, 0, none⟩) l.length cap, .int .i64 (l.length : Int), .bool true, .int .i64 (j : Int), .int .i64 ((j + 1 : Nat) : Int), .slice (some ⟨g, 0, none⟩) l.length cap, .int .i64 (j : Int), .pointer (some ⟨g, j * 32, none⟩), .agg (bytesA 32 hh.f), .func (.func 128) #[] #[.pointer (some ⟨b, 0, none⟩)], .agg (bytesA 32 hh.f), .bool nb, .bool true, .slice (some ⟨g, 0, none⟩) l.length cap, .int .i64 (i : Int), .agg (bytesA 32 hh.f), .pointer (some ⟨g, i * 32, none⟩), .int .i64 (i : Int), .int .i64 ((i + 1 : Nat) : Int), i + 1, j + 1, E.set i hh, rfl, by omega, by omega, by rw [List.length_set]; exact JE.out, ?_, ?_, JO4.out, JG4.out⟩, ?_⟩
   ·rw [take_set_at (by have := JE.out; omega), JT.out, hf, if_neg hne]
   ·rw [List.drop_set_of_lt (by omega), ← List.drop_drop, JD.out, List.drop_drop]
   ·simp only [intOf]; show l.length - (((j + 1 : Nat) : Int)).toNat < l.length - ((j : Int)).toNat; omega
 ·have hje : Keep (j = l.length) := ⟨by omega⟩
  have hjl' : ¬ (j : Int) < (l.length : Int) := by omega
  obtain ⟨cur, hcb, hcn, hcc, hcm, hcs, hct⟩ := ownH_blk JO.out
  have Hcb := Keep.mk hcb
  have Hc : Keep (l.length ≤ cap ∧ cap ≤ maxLen ∧ cur.size = cap * 32 ∧ cur.toList.take (E.length * 32) = flatH E) := ⟨⟨by rw [JE.out] at hcc; exact hcc, hcm, hcs, hct⟩⟩
  clear hcb hcn hcc hcm hcs hct
  refine wp_seq_k fun K13 hK13 => ?_
  refine wp_seq_k fun K14 hK14 => rgn ?_
  refine VlS (.int .i64 (j : Int)) ?_
  refine VlS (.slice (some ⟨g, 0, none⟩) l.length cap) ?_
  refine VlS (.int .i64 (l.length : Int)) ?_
  refine VbF ?_
  refine WL.nil (hK14 _ _ ?_)
  refine wp_cond_false rfl ?_
  refine wp_exit ?_
  refine hK5 _ _ ?_
  refine wp_seq_k fun K15 hK15 => rgn ?_
  refine VlS (.slice (some ⟨g, 0, none⟩) l.length cap) ?_
  refine VlS (.int .i64 (i : Int)) ?_
  refine WL.slr (by kernel_rfl) 24 (.tmp 36) (some (.tmp 37)) none rfl _ (some (.int .i64 (i : Int))) none (.slice (some ⟨g, i * 32, none⟩) (l.length - i) (cap - i)) rfl rfl rfl ((slH_l _ _ _ i (by have := hje.out; omega) _).trans (by have := hje.out; have := Hc.out.1; unfold sliced; rw [if_neg (by omega), Option.map_some, Addr.add_mid, Nat.zero_add])) ?_
  simp only [Act.put, pqA, pqB, pqC]
  refine WL.clrN (by kernel_rfl) (.tmp 38) rfl g i (l.length - i) _ cur rfl Hcb.out (by have := hje.out; omega) (by have := Hc.out; have := hje.out; omega) fun cur' k1 k2 => ?_
  have HF : Keep (OwnH (wr.setRow g cur') (.slice (some ⟨g, 0, none⟩) i cap) (l.filter (outB v.ps))) := ⟨by
   have h1 : l.filter (outB v.ps) = E.take i := by rw [JT.out, hje.out, List.take_length]
   have h2 : (E.take i).length = i := by rw [List.length_take, JE.out]; have := hje.out; omega
   rw [h1]
   refine ownH_mk (Hcb.out.setRow cur') h2.symm (by rw [h2]; have := Hc.out.1; have := hje.out; omega) Hc.out.2.1 (by rw [k1]; exact Hc.out.2.2.1) ?_
   rw [h2, k2, ← flatH_take, ← Hc.out.2.2.2, List.take_take, Nat.min_eq_left (by rw [JE.out]; have := hje.out; omega)]⟩
  have HG : Keep (Grown w (wr.setRow g cur') fun k => k = g) := ⟨JG.out.trans (Grown.setRow wr g cur' fun _ => rfl)⟩
  clear k1 k2
  simp only [Act.put]
  refine WL.nil (hK15 _ _ ?_)
  refine wp_seq_k fun K16 hK16 => rgn ?_
  refine VlS (.slice (some ⟨g, 0, none⟩) l.length cap) ?_
  refine VlS (.int .i64 (i : Int)) ?_
  refine WL.slr (by kernel_rfl) 24 (.tmp 39) none (some (.tmp 40)) rfl _ none (some (.int .i64 (i : Int))) (.slice (some ⟨g, 0, none⟩) i cap) rfl rfl rfl (slH_h _ _ _ i (by have := hje.out; have := Hc.out.1; omega) _) ?_
  simp only [Act.put, pqA, pqB, pqC]
  refine VlS (.slice (some ⟨g, 0, none⟩) i cap) ?_
  refine WL.nil (hK16 _ _ ?_)
  refine wp_ret ?_
  go_ret
  exact ⟨_, rfl, HF.out, HG.out.mono fun k _ e => by rw [e]; rfl, .inl rfl⟩
set_option maxRecDepth 8000 in
theorem df_none (b : Nat) (v : VX) (s p : Value) (l : List Hs) (w : World) (hO : OwnH w s l) (hV : Blk w b 139 (vtx v.id.f v.ck p)) (hP : HRow w p v.ps) (hI : Inc v.ps) (hPl : v.ps.length ≤ 4398046511104) (hL : l.length ≤ 4398046511104) (hi : pxF v.ps l 0 = -1) : Calls Tryz.prog 127 #[s, .func (.func 128) #[] #[.pointer (some ⟨b, 0, none⟩)]] w fun e w' => ∃ v', e = .returned v' ∧ NewLx w w' s v' l := by
 obtain ⟨pa, pc, rfl⟩ := hO.sl
 have HO := Keep.mk hO
 have HV := Keep.mk hV
 have HP := Keep.mk hP
 have HI := Keep.mk hI
 have HPl := Keep.mk hPl
 have HL := Keep.mk hL
 have Hi0 := Keep.mk hi
 clear hO hV hP hI hPl hL hi
 go_enter Tryz.func127, Tryz.ntmps127
 refine wp_seq_k fun K1 hK1 => rgn ?_
 refine VlS (.slice none 0 0) ?_
 refine WL.nil (hK1 _ _ ?_)
 refine wp_seq_k fun K2 hK2 => rgn ?_
 refine VlS (.slice pa l.length pc) ?_
 refine VlS (.func (.func 128) #[] #[.pointer (some ⟨b, 0, none⟩)]) ?_
 have hix := idxf_any b v p _ l w HO.out.row HV.out HP.out HI.out HPl.out HL.out
 rw [Hi0.out] at hix
 refine WL.callF (by kernel_rfl) 171 _ _ rfl Tryz.in171 #[.slice pa l.length pc, .func (.func 128) #[] #[.pointer (some ⟨b, 0, none⟩)]] (by simp [Act.eval]) ?_
 refine (hix).mono ?_
 rintro e w1 ⟨rfl, hz⟩
 refine ⟨_, rfl, ?_⟩
 clear hix
 have B1 := Keep.mk hz
 clear hz
 simp only [Act.put, pqA, pqB, pqC]
 refine VlS (.int .i64 (-1)) ?_
 refine WL.nil (hK2 _ _ ?_)
 refine wp_seq_k fun K3 hK3 => ?_
 refine wp_seq_k fun K4 hK4 => rgn ?_
 refine VlS (.int .i64 (-1)) ?_
 refine VbT ?_
 refine WL.nil (hK4 _ _ ?_)
 refine wp_cond_true rfl ?_
 refine wp_seq_k fun K5 hK5 => rgn ?_
 refine VlS (.slice pa l.length pc) ?_
 refine VlS (.slice pa l.length pc) ?_
 refine WL.nil (hK5 _ _ ?_)
 refine wp_ret ?_
 go_ret
 exact ⟨_, rfl, HO.out.below B1.out, Grown.below B1.out, .inl rfl⟩
theorem pxF_cases (ps : List Hs) : ∀ (l : List Hs) (t : Nat), (pxF ps l t = -1 ∧ l.filter (outB ps) = l) ∨ ∃ i0 : Nat, pxF ps l t = (i0 : Int)
 | [], t => .inl ⟨rfl, rfl⟩
 | y :: r, t => by
  rw [pxF]
  by_cases hy : y ∈ ps
  ·exact .inr ⟨t, by rw [if_pos hy]⟩
  ·rw [if_neg hy]
   rcases pxF_cases ps r (t + 1) with ⟨h1, h2⟩ | h
   ·exact .inl ⟨h1, by rw [List.filter_cons, if_pos (by simp [outB, hy]), h2]⟩
   ·exact .inr h
theorem delOk_any (l : List Hs) (x : VX) (hI : Inc x.ps) (hPl : x.ps.length ≤ 4398046511104) (hL : l.length ≤ 4398046511104) : DelOk l x (l.filter (outB x.ps)) := fun v p b w hO hV hP hA => by
 rcases pxF_cases x.ps l 0 with ⟨h1, h2⟩ | ⟨i0, h1⟩
 ·rw [h2]; exact df_none b x v p l w hO hV hP hI hPl hL h1
 ·rcases hO.form with ⟨rfl, rfl⟩ | ⟨g, cap, cur, rfl, _⟩
  ·simp [pxF] at h1
  ·exact df_some b g cap i0 x p l w hO hV hP (hA g rfl) hI hPl hL h1
end Go.Proofs.YthlohkgdmfkpeaaGreat
namespace Go.Proofs.YthlohkgdmfkpeaaGreat
set_option linter.unusedSimpArgs false
set_option linter.unusedVariables false

structure OneO (par : Hs → List Hs) (l : List Hs) : Prop where
 nd : l.Nodup
 top : ∀ (i k : Nat) (x y : Hs), l[i]? = some x → l[k]? = some y → y ∈ par x → k < i
 all : ∀ x ∈ l, ∀ p ∈ par x, p ∈ l
 min : ∀ (i k : Nat) (x y : Hs), i < k → l[i]? = some x → l[k]? = some y → Lt y x → ∃ (j : Nat) (z : Hs), i ≤ j ∧ l[j]? = some z ∧ z ∈ par y
theorem mem_at {l : List Hs} {x : Hs} (h : x ∈ l) : ∃ i : Nat, l[i]? = some x := List.mem_iff_getElem?.1 h
theorem at_mem {l : List Hs} {i : Nat} {x : Hs} (h : l[i]? = some x) : x ∈ l := List.mem_iff_getElem?.2 ⟨i, h⟩
def insL (l : List Hs) (a : Nat) (v : Hs) : List Hs := l.take a ++ v :: l.drop a
def shI (a j : Nat) : Nat := if j < a then j else j + 1
theorem insL_at {l : List Hs} {a : Nat} {v : Hs} (ha : a ≤ l.length) : (insL l a v)[a]? = some v := by
 unfold insL
 rw [List.getElem?_append_right (by simp; omega)]
 simp [Nat.min_eq_left ha]
theorem insL_sh {l : List Hs} {a : Nat} {v : Hs} (ha : a ≤ l.length) (j : Nat) : (insL l a v)[shI a j]? = l[j]? := by
 unfold insL shI
 by_cases h : j < a
 ·rw [if_pos h, List.getElem?_append_left (by simp; omega), List.getElem?_take, if_pos h]
 ·rw [if_neg h, List.getElem?_append_right (by simp; omega)]
  have : (l.take a).length = a := by simp; omega
  rw [this, show j + 1 - a = (j - a) + 1 by omega, List.getElem?_cons_succ, List.getElem?_drop, show a + (j - a) = j by omega]
theorem shI_cases (a i : Nat) : i = a ∨ ∃ j, i = shI a j := by
 unfold shI
 rcases Nat.lt_trichotomy i a with h | h | h
 ·exact .inr ⟨i, by rw [if_pos h]⟩
 ·exact .inl h
 ·exact .inr ⟨i - 1, by rw [if_neg (by omega)]; omega⟩
theorem insL_mem {l : List Hs} {a : Nat} {v x : Hs} : x ∈ insL l a v ↔ x = v ∨ x ∈ l := by
 unfold insL
 rw [List.mem_append, List.mem_cons]
 have := List.mem_append (a := x) (s := l.take a) (t := l.drop a)
 rw [List.take_append_drop] at this
 rw [this]
 constructor
 ·rintro (h | h | h)
  ·exact .inr (.inl h)
  ·exact .inl h
  ·exact .inr (.inr h)
 ·rintro (h | h | h)
  ·exact .inr (.inl h)
  ·exact .inl h
  ·exact .inr (.inr h)
theorem insL_length {l : List Hs} {a : Nat} {v : Hs} : (insL l a v).length = l.length + 1 := by
 unfold insL
 have := congrArg List.length (List.take_append_drop a l)
 simp only [List.length_append, List.length_cons] at this ⊢
 omega
theorem insL_nodup {l : List Hs} {a : Nat} {v : Hs} (h : l.Nodup) (hv : v ∉ l) : (insL l a v).Nodup := by
 have hp : (insL l a v).Perm (v :: l) := by
  unfold insL
  refine List.perm_middle.trans ?_
  rw [List.take_append_drop]
 exact hp.nodup_iff.2 (List.nodup_cons.2 ⟨hv, h⟩)
theorem OneO.ins {par par' : Hs → List Hs} {l : List Hs} {a : Nat} {v : Hs} (h : OneO par l) (hp : ∀ x ∈ l, par' x = par x) (ha : a ≤ l.length) (hv : v ∉ l) (hn : ∀ x ∈ l, v ∉ par x) (hc : ∀ p ∈ par' v, p ∈ l)
  (h1 : ∀ (k : Nat) (z : Hs), l[k]? = some z → z ∈ par' v → k < a) (h2 : ∀ z, l[a]? = some z → Lt v z) (h3 : ∀ (i : Nat) (z : Hs), i < a → l[i]? = some z → Lt v z → ∃ (j : Nat) (y : Hs), i ≤ j ∧ l[j]? = some y ∧ y ∈ par' v) : OneO par' (insL l a v) := by
 refine ⟨insL_nodup h.nd hv, ?_, ?_, ?_⟩
 ·intro i k x y hi hk hy
  rcases shI_cases a i with rfl | ⟨i0, rfl⟩
  ·rw [insL_at ha] at hi
   cases hi
   rcases shI_cases i k with rfl | ⟨k0, rfl⟩
   ·rw [insL_at ha] at hk; cases hk; exact absurd (hc v hy) hv
   ·rw [insL_sh ha] at hk
    have := h1 k0 y hk hy
    unfold shI; rw [if_pos this]; exact this
  ·rw [insL_sh ha] at hi
   rw [hp x (at_mem hi)] at hy
   rcases shI_cases a k with rfl | ⟨k0, rfl⟩
   ·rw [insL_at ha] at hk; cases hk; exact absurd hy (hn x (at_mem hi))
   ·rw [insL_sh ha] at hk
    have := h.top i0 k0 x y hi hk hy
    unfold shI; split <;> split <;> omega
 ·intro x hx p hpx
  rw [insL_mem] at hx ⊢
  rcases hx with rfl | hx
  ·exact .inr (hc p hpx)
  ·rw [hp x hx] at hpx
   exact .inr (h.all x hx p hpx)
 ·intro i k x y hik hi hk hlt
  rcases shI_cases a k with rfl | ⟨k0, rfl⟩
  ·rw [insL_at ha] at hk
   cases hk
   rcases shI_cases k i with rfl | ⟨i0, rfl⟩
   ·omega
   ·rw [insL_sh ha] at hi
    have hi0 : i0 < k := by unfold shI at hik; split at hik <;> omega
    obtain ⟨j, z, hj, hz, hzp⟩ := h3 i0 x hi0 hi hlt
    exact ⟨shI k j, z, by unfold shI; split <;> split <;> omega, by rw [insL_sh ha]; exact hz, hzp⟩
  ·rw [insL_sh ha] at hk
   rcases shI_cases a i with rfl | ⟨i0, rfl⟩
   ·rw [insL_at ha] at hi
    cases hi
    have hk0 : i ≤ k0 := by unfold shI at hik; split at hik <;> omega
    have hkl := (List.getElem?_eq_some_iff.1 hk).1
    have hal : i < l.length := by omega
    have hz0 := List.getElem?_eq_getElem hal
    have hlz := h2 _ hz0
    rcases Nat.lt_or_eq_of_le hk0 with hlt2 | rfl
    ·obtain ⟨j, z, hj, hz, hzp⟩ := h.min i k0 _ y hlt2 hz0 hk (hlt.trans hlz)
     exact ⟨shI i j, z, by unfold shI; split <;> omega, by rw [insL_sh ha]; exact hz, by rw [hp y (at_mem hk)]; exact hzp⟩
    ·rw [hz0] at hk; cases hk
     exact absurd hlt hlz.asymm
   ·rw [insL_sh ha] at hi
    have hik0 : i0 < k0 := by unfold shI at hik; split at hik <;> split at hik <;> omega
    obtain ⟨j, z, hj, hz, hzp⟩ := h.min i0 k0 x y hik0 hi hk hlt
    exact ⟨shI a j, z, by unfold shI; split <;> split <;> omega, by rw [insL_sh ha]; exact hz, by rw [hp y (at_mem hk)]; exact hzp⟩
end Go.Proofs.YthlohkgdmfkpeaaGreat
