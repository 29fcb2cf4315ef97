import Derived.Test.YtogmdfhicbmplaaB04
namespace Go.Proofs.Ytogmdfhicbmplaa
open Go.RowKit
set_option linter.unusedSimpArgs false
set_option linter.unusedVariables false

theorem Try.in60 (w : World) (vs : Array Value) : (callFunc 60 vs).run Try.prog w = .ok (.enter 60 vs) w := by kernel_rfl
theorem Try.in17 (w : World) (vs : Array Value) : (callFunc 17 vs).run Try.prog w = .ok (.enter 17 vs) w := by kernel_rfl
theorem insOk_end (l : List Hs) (y : Hs) (hL : l.length ≤ 1000000000000) : InsOk l l.length y (l ++ [y]) := fun v gx w h1 h2 _ => ins_end v l gx y w h1 h2 hL
theorem delOk_nil (x : VX) : DelOk [] x [] := fun v p b w h1 h2 h3 h4 => by
  obtain ⟨pa, pc, rfl⟩ := h1.sl
  refine (df_nil pa pc _ w).mono ?_
  rintro e w' ⟨rfl, rfl⟩
  exact ⟨_, rfl, h1, Grown.refl _ _, .inl rfl⟩
theorem take_nil (d : Nat) (v : VX) (p : Value) (Av : Nat → Prop) (g : DG) (w : World) (hD : DagAt w Av d g) (hr : HRow w p v.ps) (hk : ∀ k, p.ownBlock = some k → k < w.heap.size ∧ ¬ Av k) (hF : g.held = []) (ho : g.order = []) (hh : g.heads = []) :
    Calls Try.prog 58 #[ptr d, .agg (vtx v.id.f v.ck p)] w fun e w' => e = .returned (.tuple #[]) ∧ ∃ g', Ste w w' Av d g g' ∧ g'.room = g.room ∧ g'.held = g.held ++ [v] ∧ g'.wait = g.wait ∧ g'.queue = g.queue ∧ g'.order = [v.id] ∧ g'.heads = [v.id] := by
  refine take_gen d v p Av g w 0 [v.id] [] [v.id] hD hr hk (by rw [hF]; rfl) (fun w1 Av1 p1 g1 h1 h2 _ => place_nil d v p1 Av1 g1 w1 h1 (h2.trans ho)) (by rw [ho]; exact insOk_end [] v.id (by simp)) (by rw [hh]; exact delOk_nil v) (fun i j _ h => by simp at h) (by simp) fun i hi _ _ => ?_
  obtain rfl : i = 0 := by simpa using hi
  exact insOk_end [] v.id (by simp)
set_option maxRecDepth 8000 in
theorem shed_none (d : Nat) (Av : Nat → Prop) (g : DG) (w : World) (hD : DagAt w Av d g) (hQ : (g.queue.length : Int) ≤ g.room) : Calls Try.prog 60 #[ptr d] w fun e w' => e = .returned (.slice none 0 0) ∧ Below w.heap.size w w' := by
  obtain ⟨qa, qc, hqv⟩ := hD.oq.sl
  have Hqv := Keep.mk hqv
  have HD := Keep.mk hD
  have HQ := Keep.mk hQ
  clear hD hQ hqv
  go_enter Try.func60, Try.ntmps60
  refine wp_seq_k fun K1 hK1 => ?_
  refine wp_region_list (WL.out ?_)
  refine WL.val (by kernel_rfl) (.slice none 0 0) (by go_simp) ?_
  simp only [Act.put, List.setIfInBounds_toArray, List.set_cons_zero, List.set_cons_succ]
  refine WL.nil ?_
  refine hK1 _ _ ?_
  refine wp_seq_k fun K2 hK2 => ?_
  refine wp_region_list (WL.out ?_)
  refine WL.val (by kernel_rfl) (.slice none 0 0) (by go_simp) ?_
  simp only [Act.put, List.setIfInBounds_toArray, List.set_cons_zero, List.set_cons_succ]
  refine WL.nil ?_
  refine hK2 _ _ ?_
  refine wp_seq_k fun K3 hK3 => ?_
  refine wp_block ?_
  refine wp_loop (fun ac wr => ∃ (t : Nat) (u4 u5 u6 u7 u8 u9 u10 u11 u12 u13 u14 u15 u16 u17 u18 u19 u20 u21 u22 u23 u24 u25 u26 u27 : Value), ac = { tmps := #[.pointer (some ⟨d, 0, none⟩), undef, .slice none 0 0, .slice none 0 0, u4, u5, u6, u7, u8, u9, u10, u11, u12, u13, u14, u15, u16, u17, u18, u19, u20, u21, u22, u23, u24, u25, u26, u27, undef], defers := [] } ∧ w = wr) (fun a _ => 0) ⟨0, undef, undef, undef, undef, undef, undef, undef, undef, undef, undef, undef, undef, undef, undef, undef, undef, undef, undef, undef, undef, undef, undef, undef, undef, rfl, rfl⟩ ?_
  rintro ac wr ⟨t, u4, u5, u6, u7, u8, u9, u10, u11, u12, u13, u14, u15, u16, u17, u18, u19, u20, u21, u22, u23, u24, u25, u26, u27, rfl, hW⟩
  obtain rfl := hW
  refine wp_seq_k fun K4 hK4 => ?_
  refine wp_seq_k fun K5 hK5 => ?_
  have hS0 : Keep (w.drew.cell? ⟨d, 5, none⟩ = some (.slice qa g.queue.length qc) ∧ w.drew.cell? ⟨d, 0, none⟩ = some (.int .i64 g.room)) := ⟨by have h := HD.out.blk.drew.c 5 (by rfl : (dgA g)[5]? = some g.qv); rw [Hqv.out] at h; exact h, HD.out.blk.drew.c 0 rfl⟩
  have hle : ¬ g.room < (g.queue.length : Int) := by have := HQ.out; omega
  refine wp_region_held_drew (S := fun wx => wx.cell? ⟨d, 5, none⟩ = some (.slice qa g.queue.length qc) ∧ wx.cell? ⟨d, 0, none⟩ = some (.int .i64 g.room)) (by kernel_rfl) (hS0.out) (fun hHeld => ?_)
  refine wpAnyH_take (i := 0) (oi := ⟨some 5, Op.move (Operand.tmp 0), 27, _, _, none⟩) (v := .pointer (some ⟨d, 0, none⟩)) rfl (by kernel_rfl) (by kernel_rfl) (by kernel_rfl) (fun _ _ _ h => h) (Or.inl ⟨by rfl, fun w hS => by obtain ⟨hS1, hS2⟩ := hS; go_simp⟩) hHeld ?_
  simp only [Act.put, List.setIfInBounds_toArray, List.set_cons_zero, List.set_cons_succ]
  refine wpAnyH_take (i := 1) (oi := ⟨some 6, Op.nilCheck (Operand.tmp 5), 0, _, _, none⟩) (v := .pointer (some ⟨d, 0, none⟩)) rfl (by kernel_rfl) (by kernel_rfl) (by kernel_rfl) (fun _ _ _ h => h) (Or.inl ⟨by rfl, fun w hS => by obtain ⟨hS1, hS2⟩ := hS; go_simp⟩) hHeld ?_
  simp only [Act.put, List.setIfInBounds_toArray, List.set_cons_zero, List.set_cons_succ]
  refine wpAnyH_take (i := 2) (oi := ⟨some 7, Op.fieldAddr 77 (Operand.tmp 6) 5, 0, _, _, none⟩) (v := .pointer (some ⟨d, 5, none⟩)) rfl (by kernel_rfl) (by kernel_rfl) (by kernel_rfl) (fun _ _ _ h => h) (Or.inl ⟨by rfl, fun w hS => by obtain ⟨hS1, hS2⟩ := hS; go_simp⟩) hHeld ?_
  simp only [Act.put, List.setIfInBounds_toArray, List.set_cons_zero, List.set_cons_succ]
  refine wpAnyH_take (i := 3) (oi := ⟨some 8, Op.load 37 (Operand.tmp 7), 37, _, _, none⟩) (v := .slice qa g.queue.length qc) rfl (by kernel_rfl) (by kernel_rfl) (by kernel_rfl) (fun _ _ _ h => h) (Or.inl ⟨by rfl, fun w hS => by obtain ⟨hS1, hS2⟩ := hS; go_simp⟩) hHeld ?_
  simp only [Act.put, List.setIfInBounds_toArray, List.set_cons_zero, List.set_cons_succ]
  refine wpAnyH_take (i := 4) (oi := ⟨some 9, Op.call { callee := Callee.builtin Builtin.len, args := #[Operand.tmp 8], argTypes := #[37] }, 3, _, _, none⟩) (v := .int .i64 (g.queue.length : Int)) rfl (by kernel_rfl) (by kernel_rfl) (by kernel_rfl) (fun _ _ _ h => h) (Or.inl ⟨by rfl, fun w hS => by obtain ⟨hS1, hS2⟩ := hS; go_simp⟩) hHeld ?_
  simp only [Act.put, List.setIfInBounds_toArray, List.set_cons_zero, List.set_cons_succ]
  refine wpAnyH_take (i := 5) (oi := ⟨some 10, Op.move (Operand.tmp 0), 27, _, _, none⟩) (v := .pointer (some ⟨d, 0, none⟩)) rfl (by kernel_rfl) (by kernel_rfl) (by kernel_rfl) (fun _ _ _ h => h) (Or.inl ⟨by rfl, fun w hS => by obtain ⟨hS1, hS2⟩ := hS; go_simp⟩) hHeld ?_
  simp only [Act.put, List.setIfInBounds_toArray, List.set_cons_zero, List.set_cons_succ]
  refine wpAnyH_take (i := 6) (oi := ⟨some 11, Op.nilCheck (Operand.tmp 10), 0, _, _, none⟩) (v := .pointer (some ⟨d, 0, none⟩)) rfl (by kernel_rfl) (by kernel_rfl) (by kernel_rfl) (fun _ _ _ h => h) (Or.inl ⟨by rfl, fun w hS => by obtain ⟨hS1, hS2⟩ := hS; go_simp⟩) hHeld ?_
  simp only [Act.put, List.setIfInBounds_toArray, List.set_cons_zero, List.set_cons_succ]
  refine wpAnyH_take (i := 7) (oi := ⟨some 12, Op.fieldAddr 77 (Operand.tmp 11) 0, 0, _, _, none⟩) (v := .pointer (some ⟨d, 0, none⟩)) rfl (by kernel_rfl) (by kernel_rfl) (by kernel_rfl) (fun _ _ _ h => h) (Or.inl ⟨by rfl, fun w hS => by obtain ⟨hS1, hS2⟩ := hS; go_simp⟩) hHeld ?_
  simp only [Act.put, List.setIfInBounds_toArray, List.set_cons_zero, List.set_cons_succ]
  refine wpAnyH_take (i := 8) (oi := ⟨some 13, Op.load 3 (Operand.tmp 12), 3, _, _, none⟩) (v := .int .i64 g.room) rfl (by kernel_rfl) (by kernel_rfl) (by kernel_rfl) (fun _ _ _ h => h) (Or.inl ⟨by rfl, fun w hS => by obtain ⟨hS1, hS2⟩ := hS; go_simp⟩) hHeld ?_
  simp only [Act.put, List.setIfInBounds_toArray, List.set_cons_zero, List.set_cons_succ]
  refine wpAnyH_take (i := 9) (oi := ⟨some 14, Op.binOp BinOp.gtr 3 (Operand.tmp 9) (Operand.tmp 13) 3, 4, _, _, none⟩) (v := .bool false) rfl (by kernel_rfl) (by kernel_rfl) (by kernel_rfl) (fun _ _ _ h => h) (Or.inl ⟨by rfl, fun w hS => by obtain ⟨hS1, hS2⟩ := hS; go_simp⟩) hHeld ?_
  simp only [Act.put, List.setIfInBounds_toArray, List.set_cons_zero, List.set_cons_succ]
  refine wpAnyH_done (by kernel_rfl) ?_ _
  refine hK5 _ _ ?_
  refine wp_cond_false rfl ?_
  refine wp_exit ?_
  refine hK3 _ _ ?_
  refine wp_seq_k fun K6 hK6 => ?_
  refine wp_region_list (WL.out ?_)
  refine WL.val (by kernel_rfl) (.slice none 0 0) (by go_simp) ?_
  simp only [Act.put, List.setIfInBounds_toArray, List.set_cons_zero, List.set_cons_succ]
  refine WL.val (by kernel_rfl) (.slice none 0 0) (by go_simp) ?_
  simp only [Act.put, List.setIfInBounds_toArray, List.set_cons_zero, List.set_cons_succ]
  refine WL.nil ?_
  refine hK6 _ _ ?_
  refine wp_ret ?_
  go_ret
  exact ⟨rfl, (Below.refl _ _).drew⟩
set_option maxRecDepth 8000 in
set_option maxHeartbeats 1000000 in
theorem add_took (d : Nat) (v : VX) (p : Value) (Av : Nat → Prop) (g : DG) (w : World) (X : DG → Prop) (hD : DagAt w Av d g) (hr : HRow w p v.ps) (hM : ∀ v ∈ g.held, 0 ≤ v.ck ∧ v.ck ≤ 4096) (hL : (v.ps.length : Int) ≤ 9223372036854775806) (hL2 : v.ps.length ≤ 4398046511104) (hFt : fitV g.held g.wait v = (2, 0))
    (hT : ∀ (w1 : World) (p1 : Value), DagAt w1 Av d g → HRow w1 p1 v.ps → (∀ k, p1.ownBlock = some k → k < w1.heap.size ∧ ¬ Av k) → Calls Try.prog 58 #[ptr d, .agg (vtx v.id.f v.ck p1)] w1 fun e w' => e = .returned (.tuple #[]) ∧ ∃ g', Ste w1 w' Av d g g' ∧ X g') :
    Calls Try.prog 17 #[ptr d, .agg (vtx v.id.f v.ck p)] w fun e w' => e = .returned (.tuple #[.int .i64 2, .slice none 0 0, .int .i64 0]) ∧ ∃ g', Ste w w' Av d g g' ∧ X g' := by
  obtain ⟨pa, pc, rfl⟩ := hr.form
  obtain ⟨vv, hvv⟩ : ∃ a : Array Value, Keep (a = vtx v.id.f v.ck (.slice pa v.ps.length pc)) := ⟨_, ⟨rfl⟩⟩
  rw [← hvv.out]
  have HD := Keep.mk hD
  have HR := Keep.mk hr
  have HM := Keep.mk hM
  have HL := Keep.mk hL
  have HL2 := Keep.mk hL2
  have HFt := Keep.mk hFt
  have HT := Keep.mk hT
  clear hD hr hM hL hL2 hFt hT
  go_enter Try.func17, Try.ntmps17
  refine wp_seq_k fun K1 hK1 => ?_
  refine wp_region_list (WL.out ?_)
  refine WL.box (by kernel_rfl) 39 (.tmp 1) rfl (vv) rfl ?_
  obtain ⟨w1, hwn⟩ : ∃ wx, Keep (wx = w.alloc (.cells (vv) 39)) := ⟨_, ⟨rfl⟩⟩
  rw [← hwn.out]
  have HX1 : Keep (Blk w1 w.heap.size 39 (vv)) := ⟨by rw [hwn.out]; exact Blk.new _ _ _⟩
  have LB1 : Keep (Below w.heap.size w w1) := ⟨by rw [hwn.out]; exact below_new _ _⟩
  clear hwn
  have HD1 := Keep.mk (HD.out.below LB1.out)
  have HR1 := Keep.mk (HR.out.below LB1.out)
  simp only [Act.put, List.setIfInBounds_toArray, List.set_cons_zero, List.set_cons_succ]
  refine WL.val (by kernel_rfl) (.int .i64 0) (by go_simp) ?_
  simp only [Act.put, List.setIfInBounds_toArray, List.set_cons_zero, List.set_cons_succ]
  refine WL.val (by kernel_rfl) (.slice none 0 0) (by go_simp) ?_
  simp only [Act.put, List.setIfInBounds_toArray, List.set_cons_zero, List.set_cons_succ]
  refine WL.val (by kernel_rfl) (.int .i64 0) (by go_simp) ?_
  simp only [Act.put, List.setIfInBounds_toArray, List.set_cons_zero, List.set_cons_succ]
  refine WL.nil ?_
  refine hK1 _ _ ?_
  refine wp_seq_k fun K2 hK2 => ?_
  refine wp_region_list (WL.out ?_)
  refine WL.val (by kernel_rfl) (.pointer (some ⟨d, 0, none⟩)) (by go_simp) ?_
  simp only [Act.put, List.setIfInBounds_toArray, List.set_cons_zero, List.set_cons_succ]
  refine WL.row (by kernel_rfl) 39 (.tmp 3) rfl w.heap.size rfl 39 vv _ HX1.out Try.underlying39 rfl (by rw [hvv.out]; exact Try.info39s _ _ _) ?_
  simp only [Act.put, List.setIfInBounds_toArray, List.set_cons_zero, List.set_cons_succ]
  have hft := fit_any d v _ Av g w1 HD1.out HR1.out HM.out HL.out
  rw [← hvv.out, HFt.out] at hft
  refine WL.callF (by kernel_rfl) 28 _ _ rfl Try.in28 #[ptr d, .agg vv] (by simp [Act.eval]) ?_
  refine (hft).mono ?_
  rintro e w2 ⟨rfl, hz⟩
  refine ⟨_, rfl, ?_⟩
  clear hft
  have HX2 := Keep.mk (HX1.out.below hz HX1.out.lt)
  have LB2 := Keep.mk (belowT LB1.out hz)
  have HD2 := Keep.mk (HD1.out.below hz)
  have HR2 := Keep.mk (HR1.out.below hz)
  clear hz HX1 HD1 HR1
  simp only [Act.put, List.setIfInBounds_toArray, List.set_cons_zero, List.set_cons_succ]
  refine WL.val (by kernel_rfl) (.tuple #[.int .i64 2, .int .i64 0]) (by go_simp) ?_
  simp only [Act.put, List.setIfInBounds_toArray, List.set_cons_zero, List.set_cons_succ]
  refine WL.val (by kernel_rfl) (.int .i64 2) (by go_simp) ?_
  simp only [Act.put, List.setIfInBounds_toArray, List.set_cons_zero, List.set_cons_succ]
  refine WL.val (by kernel_rfl) (.int .i64 0) (by go_simp) ?_
  simp only [Act.put, List.setIfInBounds_toArray, List.set_cons_zero, List.set_cons_succ]
  refine WL.val (by kernel_rfl) (.int .i64 2) (by go_simp) ?_
  simp only [Act.put, List.setIfInBounds_toArray, List.set_cons_zero, List.set_cons_succ]
  refine WL.val (by kernel_rfl) (.int .i64 0) (by go_simp) ?_
  simp only [Act.put, List.setIfInBounds_toArray, List.set_cons_zero, List.set_cons_succ]
  refine WL.nil ?_
  refine hK2 _ _ ?_
  refine wp_seq_k fun K3 hK3 => ?_
  refine wp_seq_k fun K4 hK4 => ?_
  refine wp_region_list (WL.out ?_)
  refine WL.val (by kernel_rfl) (.int .i64 2) (by go_simp) ?_
  simp only [Act.put, List.setIfInBounds_toArray, List.set_cons_zero, List.set_cons_succ]
  refine WL.nil ?_
  refine hK4 _ _ ?_
  refine wp_block ?_
  refine wp_seq_k fun K5 hK5 => ?_
  refine wp_region_list (WL.out ?_)
  refine WL.val (by kernel_rfl) (.bool true) (by go_simp) ?_
  simp only [Act.put, List.setIfInBounds_toArray, List.set_cons_zero, List.set_cons_succ]
  refine WL.val (by kernel_rfl) (.bool true) (by go_simp) ?_
  simp only [Act.put, List.setIfInBounds_toArray, List.set_cons_zero, List.set_cons_succ]
  refine WL.nil ?_
  refine hK5 _ _ ?_
  refine wp_cond_true rfl ?_
  refine wp_region_list (WL.out ?_)
  refine WL.val (by kernel_rfl) (.pointer (some ⟨d, 0, none⟩)) (by go_simp) ?_
  simp only [Act.put, List.setIfInBounds_toArray, List.set_cons_zero, List.set_cons_succ]
  refine WL.row (by kernel_rfl) 39 (.tmp 3) rfl w.heap.size rfl 39 vv _ HX2.out Try.underlying39 rfl (by rw [hvv.out]; exact Try.info39s _ _ _) ?_
  simp only [Act.put, List.setIfInBounds_toArray, List.set_cons_zero, List.set_cons_succ]
  have how := own_any v _ w2 HR2.out (by have := HL.out; have := HL2.out; omega)
  rw [← hvv.out] at how
  refine WL.callF (by kernel_rfl) 59 _ _ rfl Try.in59 #[.agg vv] (by simp [Act.eval]) ?_
  refine (how).mono ?_
  rintro e w3 ⟨p3, rfl, hf⟩
  refine ⟨_, rfl, ?_⟩
  clear how
  have HF3 := Keep.mk hf
  have HD3 := Keep.mk (HD2.out.below hf.bel)
  have LB3 := Keep.mk (belowT LB2.out hf.bel)
  obtain ⟨vq, hvq⟩ : ∃ a : Array Value, Keep (a = vtx v.id.f v.ck p3) := ⟨_, ⟨rfl⟩⟩
  rw [← hvq.out]
  clear hf HX2 HR2
  simp only [Act.put, List.setIfInBounds_toArray, List.set_cons_zero, List.set_cons_succ]
  have htk := HT.out w3 p3 HD3.out HF3.out.own.row fun k hk => ⟨HF3.out.own.lt k hk, fun ha => by have := HF3.out.new k hk; have := HD2.out.lt k ha; omega⟩
  rw [← hvq.out] at htk
  refine WL.callF (by kernel_rfl) 58 _ _ rfl Try.in58 #[ptr d, .agg vq] (by simp [Act.eval]) ?_
  refine (htk).mono ?_
  rintro e w4 ⟨rfl, g4, hs, hp⟩
  refine ⟨_, rfl, ?_⟩
  clear htk
  have HS4 := Keep.mk hs
  have HP4 := Keep.mk hp
  clear hs hp
  simp only [Act.put, List.setIfInBounds_toArray, List.set_cons_zero, List.set_cons_succ]
  refine WL.nil ?_
  refine hK3 _ _ ?_
  refine wp_seq_k fun K6 hK6 => ?_
  refine wp_region_list (WL.out ?_)
  refine WL.val (by kernel_rfl) (.int .i64 2) (by go_simp) ?_
  simp only [Act.put, List.setIfInBounds_toArray, List.set_cons_zero, List.set_cons_succ]
  refine WL.val (by kernel_rfl) (.slice none 0 0) (by go_simp) ?_
  simp only [Act.put, List.setIfInBounds_toArray, List.set_cons_zero, List.set_cons_succ]
  refine WL.val (by kernel_rfl) (.int .i64 0) (by go_simp) ?_
  simp only [Act.put, List.setIfInBounds_toArray, List.set_cons_zero, List.set_cons_succ]
  refine WL.val (by kernel_rfl) (.int .i64 2) (by go_simp) ?_
  simp only [Act.put, List.setIfInBounds_toArray, List.set_cons_zero, List.set_cons_succ]
  refine WL.val (by kernel_rfl) (.slice none 0 0) (by go_simp) ?_
  simp only [Act.put, List.setIfInBounds_toArray, List.set_cons_zero, List.set_cons_succ]
  refine WL.val (by kernel_rfl) (.int .i64 0) (by go_simp) ?_
  simp only [Act.put, List.setIfInBounds_toArray, List.set_cons_zero, List.set_cons_succ]
  refine WL.nil ?_
  refine hK6 _ _ ?_
  refine wp_ret ?_
  go_ret3
  exact ⟨rfl, g4, ⟨HS4.out.at', (Grown.below (S := DgS d g) LB3.out).trans HS4.out.grown, fun k hk => (HS4.out.sub k hk).imp id fun h => Nat.le_trans LB3.out.size h⟩, HP4.out⟩
theorem wp_apH {o : Oper} {a : Act} {w : World} {K : Act → World → Prop} {Q : Exit → Act → World → Prop} (s x : Operand)
    (ho : o.op = .call { callee := .builtin .append, args := #[s, x], argTypes := #[37, 37] }) (v : Value) (l : List Hs) (g : Nat) (y : Hs)
    (hs : a.eval s = v) (hx : a.eval x = .slice (some ⟨g, 0, none⟩) 1 1) (hown : OwnH w v l) (hg : Blk w g 36 (bytesA 32 y.f)) (hb : l.length ≤ 1000000000000)
    (h : ∀ v' w', NewL w w' v v' (l ++ [y]) → K (a.put o.dst v') w') : o.wp Try.prog a w K Q := by
  obtain ⟨v', w', hr, h1, h2, h3⟩ := run_appH w o.type v l hown g y hg hb
  unfold Oper.wp execOp
  simp only [ho, resolve, invoke, builtin, Sem.run_bind, Sem.run_pure, Result.andThen_ok, List.map_toArray, List.map_cons, List.map_nil, hs, hx, hr]
  exact h v' w' ⟨h1, h2, h3⟩
set_option maxRecDepth 8000 in
set_option maxHeartbeats 1000000 in
theorem add_waits (d : Nat) (v : VX) (p : Value) (Av : Nat → Prop) (g : DG) (w : World) (hD : DagAt w Av d g) (hr : HRow w p v.ps) (hM : ∀ v ∈ g.held, 0 ≤ v.ck ∧ v.ck ≤ 4096) (hL : (v.ps.length : Int) ≤ 9223372036854775806) (hL2 : v.ps.length ≤ 4398046511104) (hFt : fitV g.held g.wait v = (3, 0)) (hW : g.wait.find? (isV v.id) = none) (hQr : (g.queue.length : Int) + 1 ≤ g.room) (hQl : g.queue.length ≤ 1000000000) :
    Calls Try.prog 17 #[ptr d, .agg (vtx v.id.f v.ck p)] w fun e w' => e = .returned (.tuple #[.int .i64 3, .slice none 0 0, .int .i64 0]) ∧ ∃ g', Ste w w' Av d g g' ∧ g'.room = g.room ∧ g'.held = g.held ∧ g'.wait = g.wait ++ [v] ∧ g'.queue = g.queue ++ [v.id] ∧ g'.order = g.order ∧ g'.heads = g.heads := by
  obtain ⟨pa, pc, rfl⟩ := hr.form
  obtain ⟨vv, hvv⟩ : ∃ a : Array Value, Keep (a = vtx v.id.f v.ck (.slice pa v.ps.length pc)) := ⟨_, ⟨rfl⟩⟩
  rw [← hvv.out]
  have HD := Keep.mk hD
  have HR := Keep.mk hr
  have HM := Keep.mk hM
  have HL := Keep.mk hL
  have HL2 := Keep.mk hL2
  have HFt := Keep.mk hFt
  have HW := Keep.mk hW
  have HQr := Keep.mk hQr
  have HQl := Keep.mk hQl
  obtain ⟨qa, qc, hqv⟩ := hD.oq.sl
  have Hqv := Keep.mk hqv
  clear hD hr hM hL hL2 hFt hW hQr hQl hqv
  go_enter Try.func17, Try.ntmps17
  refine wp_seq_k fun K1 hK1 => ?_
  refine wp_region_list (WL.out ?_)
  refine WL.box (by kernel_rfl) 39 (.tmp 1) rfl (vv) rfl ?_
  obtain ⟨w1, hwn⟩ : ∃ wx, Keep (wx = w.alloc (.cells (vv) 39)) := ⟨_, ⟨rfl⟩⟩
  rw [← hwn.out]
  have HX1 : Keep (Blk w1 w.heap.size 39 (vv)) := ⟨by rw [hwn.out]; exact Blk.new _ _ _⟩
  have LB1 : Keep (Below w.heap.size w w1) := ⟨by rw [hwn.out]; exact below_new _ _⟩
  clear hwn
  have HD1 := Keep.mk (HD.out.below LB1.out)
  have HR1 := Keep.mk (HR.out.below LB1.out)
  simp only [Act.put, List.setIfInBounds_toArray, List.set_cons_zero, List.set_cons_succ]
  refine WL.val (by kernel_rfl) (.int .i64 0) (by go_simp) ?_
  simp only [Act.put, List.setIfInBounds_toArray, List.set_cons_zero, List.set_cons_succ]
  refine WL.val (by kernel_rfl) (.slice none 0 0) (by go_simp) ?_
  simp only [Act.put, List.setIfInBounds_toArray, List.set_cons_zero, List.set_cons_succ]
  refine WL.val (by kernel_rfl) (.int .i64 0) (by go_simp) ?_
  simp only [Act.put, List.setIfInBounds_toArray, List.set_cons_zero, List.set_cons_succ]
  refine WL.nil ?_
  refine hK1 _ _ ?_
  refine wp_seq_k fun K2 hK2 => ?_
  refine wp_region_list (WL.out ?_)
  refine WL.val (by kernel_rfl) (.pointer (some ⟨d, 0, none⟩)) (by go_simp) ?_
  simp only [Act.put, List.setIfInBounds_toArray, List.set_cons_zero, List.set_cons_succ]
  refine WL.row (by kernel_rfl) 39 (.tmp 3) rfl w.heap.size rfl 39 vv _ HX1.out Try.underlying39 rfl (by rw [hvv.out]; exact Try.info39s _ _ _) ?_
  simp only [Act.put, List.setIfInBounds_toArray, List.set_cons_zero, List.set_cons_succ]
  have hft := fit_any d v _ Av g w1 HD1.out HR1.out HM.out HL.out
  rw [← hvv.out, HFt.out] at hft
  refine WL.callF (by kernel_rfl) 28 _ _ rfl Try.in28 #[ptr d, .agg vv] (by simp [Act.eval]) ?_
  refine (hft).mono ?_
  rintro e w2 ⟨rfl, hz⟩
  refine ⟨_, rfl, ?_⟩
  clear hft
  have HX2 := Keep.mk (HX1.out.below hz HX1.out.lt)
  have LB2 := Keep.mk (belowT LB1.out hz)
  have HD2 := Keep.mk (HD1.out.below hz)
  have HR2 := Keep.mk (HR1.out.below hz)
  clear hz HX1 HD1 HR1
  simp only [Act.put, List.setIfInBounds_toArray, List.set_cons_zero, List.set_cons_succ]
  refine WL.val (by kernel_rfl) (.tuple #[.int .i64 3, .int .i64 0]) (by go_simp) ?_
  simp only [Act.put, List.setIfInBounds_toArray, List.set_cons_zero, List.set_cons_succ]
  refine WL.val (by kernel_rfl) (.int .i64 3) (by go_simp) ?_
  simp only [Act.put, List.setIfInBounds_toArray, List.set_cons_zero, List.set_cons_succ]
  refine WL.val (by kernel_rfl) (.int .i64 0) (by go_simp) ?_
  simp only [Act.put, List.setIfInBounds_toArray, List.set_cons_zero, List.set_cons_succ]
  refine WL.val (by kernel_rfl) (.int .i64 3) (by go_simp) ?_
  simp only [Act.put, List.setIfInBounds_toArray, List.set_cons_zero, List.set_cons_succ]
  refine WL.val (by kernel_rfl) (.int .i64 0) (by go_simp) ?_
  simp only [Act.put, List.setIfInBounds_toArray, List.set_cons_zero, List.set_cons_succ]
  refine WL.nil ?_
  refine hK2 _ _ ?_
  refine wp_seq_k fun K3 hK3 => ?_
  refine wp_seq_k fun K4 hK4 => ?_
  refine wp_region_list (WL.out ?_)
  refine WL.val (by kernel_rfl) (.int .i64 3) (by go_simp) ?_
  simp only [Act.put, List.setIfInBounds_toArray, List.set_cons_zero, List.set_cons_succ]
  refine WL.nil ?_
  refine hK4 _ _ ?_
  refine wp_block ?_
  refine wp_seq_k fun K5 hK5 => ?_
  refine wp_region_list (WL.out ?_)
  refine WL.val (by kernel_rfl) (.bool false) (by go_simp) ?_
  simp only [Act.put, List.setIfInBounds_toArray, List.set_cons_zero, List.set_cons_succ]
  refine WL.val (by kernel_rfl) (.bool false) (by go_simp) ?_
  simp only [Act.put, List.setIfInBounds_toArray, List.set_cons_zero, List.set_cons_succ]
  refine WL.nil ?_
  refine hK5 _ _ ?_
  refine wp_cond_false rfl ?_
  refine wp_seq_k fun K6 hK6 => ?_
  refine wp_region_list (WL.out ?_)
  refine WL.val (by kernel_rfl) (.bool true) (by go_simp) ?_
  simp only [Act.put, List.setIfInBounds_toArray, List.set_cons_zero, List.set_cons_succ]
  refine WL.val (by kernel_rfl) (.bool true) (by go_simp) ?_
  simp only [Act.put, List.setIfInBounds_toArray, List.set_cons_zero, List.set_cons_succ]
  refine WL.nil ?_
  refine hK6 _ _ ?_
  refine wp_cond_true rfl ?_
  refine wp_seq_k fun K7 hK7 => ?_
  have hS0 : Keep ((fun wx => wx.cell? ⟨d, 4, none⟩ = some (.map (some g.wb)) ∧ wx.rangeAt w.heap.size 0 (bytesA 32 v.id.f).toList ∧ wx.rangeAt w.heap.size 0 vv.toList) w2.drew) := ⟨⟨HD2.out.blk.drew.c 4 rfl, vtx_rng (hvv.out ▸ HX2.out.drew), blk_rng HX2.out.drew⟩⟩
  refine wp_region_held_drew (S := fun wx => wx.cell? ⟨d, 4, none⟩ = some (.map (some g.wb)) ∧ wx.rangeAt w.heap.size 0 (bytesA 32 v.id.f).toList ∧ wx.rangeAt w.heap.size 0 vv.toList) (by kernel_rfl) (hS0.out) (fun hHeld => ?_)
  refine wpAnyH_take (i := 0) (oi := ⟨some 22, Op.move (Operand.tmp 0), 27, _, _, none⟩) (v := .pointer (some ⟨d, 0, none⟩)) rfl (by kernel_rfl) (by kernel_rfl) (by kernel_rfl) (fun _ _ _ h => h) (Or.inl ⟨by rfl, fun w hS => by obtain ⟨hS1, hS2, hS3⟩ := hS; go_simp⟩) hHeld ?_
  simp only [Act.put, List.setIfInBounds_toArray, List.set_cons_zero, List.set_cons_succ]
  refine wpAnyH_take (i := 1) (oi := ⟨some 23, Op.nilCheck (Operand.tmp 22), 0, _, _, none⟩) (v := .pointer (some ⟨d, 0, none⟩)) rfl (by kernel_rfl) (by kernel_rfl) (by kernel_rfl) (fun _ _ _ h => h) (Or.inl ⟨by rfl, fun w hS => by obtain ⟨hS1, hS2, hS3⟩ := hS; go_simp⟩) hHeld ?_
  simp only [Act.put, List.setIfInBounds_toArray, List.set_cons_zero, List.set_cons_succ]
  refine wpAnyH_take (i := 2) (oi := ⟨some 24, Op.fieldAddr 77 (Operand.tmp 23) 4, 0, _, _, none⟩) (v := .pointer (some ⟨d, 4, none⟩)) rfl (by kernel_rfl) (by kernel_rfl) (by kernel_rfl) (fun _ _ _ h => h) (Or.inl ⟨by rfl, fun w hS => by obtain ⟨hS1, hS2, hS3⟩ := hS; go_simp⟩) hHeld ?_
  simp only [Act.put, List.setIfInBounds_toArray, List.set_cons_zero, List.set_cons_succ]
  refine wpAnyH_take (i := 3) (oi := ⟨some 25, Op.load 75 (Operand.tmp 24), 75, _, _, none⟩) (v := .map (some g.wb)) rfl (by kernel_rfl) (by kernel_rfl) (by kernel_rfl) (fun _ _ _ h => h) (Or.inl ⟨by rfl, fun w hS => by obtain ⟨hS1, hS2, hS3⟩ := hS; go_simp⟩) hHeld ?_
  simp only [Act.put, List.setIfInBounds_toArray, List.set_cons_zero, List.set_cons_succ]
  refine wpAnyH_take (i := 4) (oi := ⟨some 26, Op.fieldAddr 39 (Operand.tmp 3) 0, 0, _, _, none⟩) (v := .pointer (some ⟨w.heap.size, 0, none⟩)) rfl (by kernel_rfl) (by kernel_rfl) (by kernel_rfl) (fun _ _ _ h => h) (Or.inl ⟨by rfl, fun w hS => by obtain ⟨hS1, hS2, hS3⟩ := hS; go_simp⟩) hHeld ?_
  simp only [Act.put, List.setIfInBounds_toArray, List.set_cons_zero, List.set_cons_succ]
  refine wpAnyH_take (i := 5) (oi := ⟨some 27, Op.load 36 (Operand.tmp 26), 36, _, _, none⟩) (v := .agg (bytesA 32 v.id.f)) rfl (by kernel_rfl) (by kernel_rfl) (by kernel_rfl) (fun _ _ _ h => h) (yieldsIf_ld (by rfl) (Operand.tmp 26) 36 rfl w.heap.size 0 rfl (bytesA 32 v.id.f) _ Try.underlying36 rfl (size36A _) fun w hS => hS.2.1) hHeld ?_
  simp only [Act.put, List.setIfInBounds_toArray, List.set_cons_zero, List.set_cons_succ]
  refine wpAnyH_take (i := 6) (oi := ⟨some 28, Op.load 39 (Operand.tmp 3), 39, _, _, none⟩) (v := .agg vv) rfl (by kernel_rfl) (by kernel_rfl) (by kernel_rfl) (fun _ _ _ h => h) (yieldsIf_ld (by rfl) (Operand.tmp 3) 39 rfl w.heap.size 0 rfl vv _ Try.underlying39 rfl (by rw [hvv.out]; exact Try.info39s _ _ _) fun w hS => hS.2.2) hHeld ?_
  simp only [Act.put, List.setIfInBounds_toArray, List.set_cons_zero, List.set_cons_succ]
  refine wpAnyH_ready (rs := [7]) (by kernel_rfl) (by simp) ?_
  refine AllReadyH.cons (o := ⟨some 29, Op.call { callee := Callee.value (Operand.func 59), args := #[Operand.tmp 28], argTypes := #[39] }, 39, _, _, none⟩) rfl (fun K hK => ?_) AllReadyH.nil
  rw [if_pos (by rfl)]
  have how := own_any v _ w2.drew (HR2.out.below (Below.refl _ _).drew) (by have := HL2.out; omega)
  rw [← hvv.out] at how
  refine wp_callF 59 _ _ rfl Try.in59 #[.agg vv] (by simp [Act.eval]) (fun u wx => ∃ p3, u = .agg (vtx v.id.f v.ck p3) ∧ Fresh w2.drew wx p3 v.ps) (how.mono fun e w' ⟨p3, h1, h2⟩ => ⟨_, h1, p3, rfl, h2⟩) ?_
  clear how
  rintro _ w3 ⟨p3, rfl, hf⟩
  have HF3 := Keep.mk hf
  have B3 : Keep (Below w2.heap.size w2 w3) := ⟨belowT (Below.refl _ w2).drew hf.bel⟩
  have HX3 := Keep.mk (HX2.out.below B3.out HX2.out.lt)
  have HD3 := Keep.mk (HD2.out.below B3.out)
  have LB3 := Keep.mk (belowT LB2.out B3.out)
  obtain ⟨vq, hvq⟩ : ∃ a : Array Value, Keep (a = vtx v.id.f v.ck p3) := ⟨_, ⟨rfl⟩⟩
  rw [← hvq.out]
  refine hK _ _ ⟨HD3.out.blk.c 4 rfl, vtx_rng (hvv.out ▸ HX3.out), blk_rng HX3.out⟩ fun hH1 => ?_
  clear hK hf
  simp only [Act.put, List.setIfInBounds_toArray, List.set_cons_zero, List.set_cons_succ]
  refine wpAnyH_ready (rs := [8]) (by kernel_rfl) (by simp) ?_
  refine AllReadyH.cons (o := ⟨none, Op.mapUpdate 75 (Operand.tmp 25) (Operand.tmp 27) (Operand.tmp 29), 0, _, _, none⟩) rfl (fun K hK => ?_) AllReadyH.nil
  rw [if_pos (by rfl)]
  obtain ⟨w4, hr4, hm4, hg4⟩ := upd_new HD3.out.wait (HD3.out.av _ (.inr (.inr (.inl rfl)))) v HW.out p3 HF3.out.own.row fun k hk => ⟨HF3.out.own.lt k hk, fun ha => by have h1 : w2.heap.size ≤ k := HF3.out.new k hk; have := HD2.out.lt k ha; omega⟩
  rw [← hvq.out] at hr4
  refine wp_upd (Operand.tmp 25) (Operand.tmp 27) (Operand.tmp 29) rfl _ _ _ rfl rfl rfl w4 hr4 ?_
  have HX4 := Keep.mk (hg4.blk HX3.out fun e => HD3.out.wait.ne HX3.out e)
  have HD4 := Keep.mk (HD3.out.addWait hm4 hg4)
  have G4 : Keep (Grown w w4 (DgS d g)) := ⟨(Grown.below (S := DgS d g) LB3.out).next (T := fun k => k = g.wb) hg4 fun i _ e => e ▸ .inr (.inr (.inl rfl))⟩
  refine hK _ _ ⟨HD4.out.blk.c 4 rfl, vtx_rng (hvv.out ▸ HX4.out), blk_rng HX4.out⟩ fun hH2 => ?_
  clear hK hr4 hm4 hg4 hS0 HX3 HX2 HD3 HD2 HR2
  simp only [Act.put, List.setIfInBounds_toArray, List.set_cons_zero, List.set_cons_succ]
  refine wpAnyH_done (by kernel_rfl) ?_ _
  refine hK7 _ _ ?_
  refine wp_seq_k fun K8 hK8 => ?_
  have c5k : Keep (∀ wx, Below w4.heap.size w4 wx → (fun wx => True ∧ wx.rangeAt w.heap.size 0 (bytesA 32 v.id.f).toList ∧ wx.rangeAt w.heap.size 0 vv.toList) wx) := ⟨fun wx hb => ⟨trivial, vtx_rng (hvv.out ▸ HX4.out.below hb HX4.out.lt), blk_rng (HX4.out.below hb HX4.out.lt)⟩⟩
  have B2 : Keep (Below w4.heap.size w4 w4.drew) := ⟨(Below.refl _ _).drew⟩
  refine wp_region_held_drew (S := fun wx => True ∧ wx.rangeAt w.heap.size 0 (bytesA 32 v.id.f).toList ∧ wx.rangeAt w.heap.size 0 vv.toList) (by kernel_rfl) (c5k.out _ B2.out) (fun hHeld => ?_)
  refine wpAnyH_take (i := 0) (oi := ⟨some 30, Op.move (Operand.tmp 0), 27, _, _, none⟩) (v := .pointer (some ⟨d, 0, none⟩)) rfl (by kernel_rfl) (by kernel_rfl) (by kernel_rfl) (fun _ _ _ h => h) (Or.inl ⟨by rfl, fun w hS => by obtain ⟨hS1, hS2, hS3⟩ := hS; go_simp⟩) hHeld ?_
  simp only [Act.put, List.setIfInBounds_toArray, List.set_cons_zero, List.set_cons_succ]
  refine wpAnyH_take (i := 1) (oi := ⟨some 31, Op.move (Operand.tmp 0), 27, _, _, none⟩) (v := .pointer (some ⟨d, 0, none⟩)) rfl (by kernel_rfl) (by kernel_rfl) (by kernel_rfl) (fun _ _ _ h => h) (Or.inl ⟨by rfl, fun w hS => by obtain ⟨hS1, hS2, hS3⟩ := hS; go_simp⟩) hHeld ?_
  simp only [Act.put, List.setIfInBounds_toArray, List.set_cons_zero, List.set_cons_succ]
  refine wpAnyH_take (i := 2) (oi := ⟨some 32, Op.nilCheck (Operand.tmp 31), 0, _, _, none⟩) (v := .pointer (some ⟨d, 0, none⟩)) rfl (by kernel_rfl) (by kernel_rfl) (by kernel_rfl) (fun _ _ _ h => h) (Or.inl ⟨by rfl, fun w hS => by obtain ⟨hS1, hS2, hS3⟩ := hS; go_simp⟩) hHeld ?_
  simp only [Act.put, List.setIfInBounds_toArray, List.set_cons_zero, List.set_cons_succ]
  refine wpAnyH_take (i := 3) (oi := ⟨some 33, Op.fieldAddr 77 (Operand.tmp 32) 5, 0, _, _, none⟩) (v := .pointer (some ⟨d, 5, none⟩)) rfl (by kernel_rfl) (by kernel_rfl) (by kernel_rfl) (fun _ _ _ h => h) (Or.inl ⟨by rfl, fun w hS => by obtain ⟨hS1, hS2, hS3⟩ := hS; go_simp⟩) hHeld ?_
  simp only [Act.put, List.setIfInBounds_toArray, List.set_cons_zero, List.set_cons_succ]
  refine wpAnyH_take (i := 5) (oi := ⟨some 35, Op.fieldAddr 39 (Operand.tmp 3) 0, 0, _, _, none⟩) (v := .pointer (some ⟨w.heap.size, 0, none⟩)) rfl (by kernel_rfl) (by kernel_rfl) (by kernel_rfl) (fun _ _ _ h => h) (Or.inl ⟨by rfl, fun w hS => by obtain ⟨hS1, hS2, hS3⟩ := hS; go_simp⟩) hHeld ?_
  simp only [Act.put, List.setIfInBounds_toArray, List.set_cons_zero, List.set_cons_succ]
  refine wpAnyH_take (i := 6) (oi := ⟨some 36, Op.load 36 (Operand.tmp 35), 36, _, _, none⟩) (v := .agg (bytesA 32 v.id.f)) rfl (by kernel_rfl) (by kernel_rfl) (by kernel_rfl) (fun _ _ _ h => h) (yieldsIf_ld (by rfl) (Operand.tmp 35) 36 rfl w.heap.size 0 rfl (bytesA 32 v.id.f) _ Try.underlying36 rfl (size36A _) fun w hS => hS.2.1) hHeld ?_
  simp only [Act.put, List.setIfInBounds_toArray, List.set_cons_zero, List.set_cons_succ]
  refine wpAnyH_ready (rs := [4, 7]) (by kernel_rfl) (by simp) ?_
  refine AllReadyH.cons (o := ⟨some 34, Op.load 37 (Operand.tmp 33), 37, _, _, none⟩) rfl (fun K hK => ?_) (AllReadyH.cons (o := ⟨some 37, Op.buildSlice 37 1 #[(0, Operand.tmp 36)], 37, _, _, none⟩) rfl (fun K hK => ?_) AllReadyH.nil)
  all_goals rw [if_pos (by rfl)]
  · have c_o : w4.drew.cell? ⟨d, 5, none⟩ = some (.slice qa g.queue.length qc) := by have h := (HD4.out.blk.below B2.out HD4.out.blk.lt).c 5 (by rfl : (dgA { g with wait := g.wait ++ [v] })[5]? = some g.qv); rw [Hqv.out] at h; exact h
    refine wp_val (.slice qa g.queue.length qc) (by go_simp) ?_
    clear c_o
    refine hK _ _ (c5k.out _ B2.out) fun hR1 => ?_
    clear hK
    simp only [Act.put, List.setIfInBounds_toArray, List.set_cons_zero, List.set_cons_succ]
    refine wpAnyH_ready (rs := [7]) (by kernel_rfl) (by simp) ?_
    refine AllReadyH.cons (o := ⟨some 37, Op.buildSlice 37 1 #[(0, Operand.tmp 36)], 37, _, _, none⟩) rfl (fun K hK => ?_) AllReadyH.nil
    rw [if_pos (by rfl)]
    refine wp_bs 37 1 _ rfl #[(0, .agg (bytesA 32 v.id.f))] (by simp [Act.eval]) _ _ (bsH v.id _) ?_
    have HGy := Keep.mk (Blk.new w4.drew 36 (bytesA 32 v.id.f))
    have BB2 := Keep.mk (belowT B2.out (below_new w4.drew (.cells (bytesA 32 v.id.f) 36)))
    generalize w4.drew.alloc (.cells (bytesA 32 v.id.f) 36) = wb2 at *
    generalize w4.drew.heap.size = gy at *
    refine hK _ _ (c5k.out _ BB2.out) fun hR2 => ?_
    clear hK
    simp only [Act.put, List.setIfInBounds_toArray, List.set_cons_zero, List.set_cons_succ]
    refine wpAnyH_ready (rs := [8]) (by kernel_rfl) (by simp) ?_
    refine AllReadyH.cons (o := ⟨some 38, Op.call { callee := Callee.builtin Builtin.append, args := #[Operand.tmp 34, Operand.tmp 37], argTypes := #[37, 37] }, 37, _, _, none⟩) rfl (fun K hK => ?_) AllReadyH.nil
    rw [if_pos (by rfl)]
    refine wp_apH (Operand.tmp 34) (Operand.tmp 37) rfl _ g.queue gy v.id rfl rfl (Hqv.out ▸ (HD4.out.below BB2.out).oq) HGy.out (by have := HQl.out; omega) fun v5 w5 h5 => ?_
    have HN5 := Keep.mk h5
    have HX5 := Keep.mk (h5.2.1.blk (HX4.out.below BB2.out HX4.out.lt) fun e => by have := (((HD4.out.below BB2.out).oq).typ (by show g.qv.ownBlock = _; rw [Hqv.out]; exact e)).one (HX4.out.below BB2.out HX4.out.lt).typ; revert this; decide)
    have HB5 := Keep.mk (h5.2.1.blk (HD4.out.below BB2.out).blk fun e => by have := (((HD4.out.below BB2.out).oq).typ (by show g.qv.ownBlock = _; rw [Hqv.out]; exact e)).one (HD4.out.below BB2.out).blk.typ; revert this; decide)
    refine hK _ _ ⟨trivial, vtx_rng (hvv.out ▸ HX5.out), blk_rng HX5.out⟩ fun hH5 => ?_
    obtain ⟨a5, c5, e5⟩ := h5.1.sl
    subst e5
    clear hK h5
    simp only [Act.put, List.setIfInBounds_toArray, List.set_cons_zero, List.set_cons_succ]
    refine wpAnyH_take (i := 9) (oi := ⟨some 39, Op.nilCheck (Operand.tmp 30), 0, _, _, none⟩) (v := .pointer (some ⟨d, 0, none⟩)) rfl (by kernel_rfl) (by kernel_rfl) (by kernel_rfl) (fun _ _ _ h => h) (Or.inl ⟨by rfl, fun w hS => by obtain ⟨hS1, hS2, hS3⟩ := hS; go_simp⟩) hH5 ?_
    simp only [Act.put, List.setIfInBounds_toArray, List.set_cons_zero, List.set_cons_succ]
    refine wpAnyH_take (i := 10) (oi := ⟨some 40, Op.fieldAddr 77 (Operand.tmp 39) 5, 0, _, _, none⟩) (v := .pointer (some ⟨d, 5, none⟩)) rfl (by kernel_rfl) (by kernel_rfl) (by kernel_rfl) (fun _ _ _ h => h) (Or.inl ⟨by rfl, fun w hS => by obtain ⟨hS1, hS2, hS3⟩ := hS; go_simp⟩) hH5 ?_
    simp only [Act.put, List.setIfInBounds_toArray, List.set_cons_zero, List.set_cons_succ]
    refine wpAnyH_ready (rs := [11]) (by kernel_rfl) (by simp) ?_
    refine AllReadyH.cons (o := ⟨none, Op.store 37 (Operand.tmp 40) (Operand.tmp 38), 0, _, _, none⟩) rfl (fun K hK => ?_) AllReadyH.nil
    rw [if_pos (by rfl)]
    have f_o := HB5.out.frozen 5
    have c_o : w5.cell? ⟨d, 5, none⟩ = some (.slice qa g.queue.length qc) := by have h := HB5.out.c 5 (by rfl : (dgA { g with wait := g.wait ++ [v] })[5]? = some g.qv); rw [Hqv.out] at h; exact h
    obtain ⟨n5, hn5⟩ : ∃ n, n = (g.queue ++ [v.id]).length := ⟨_, rfl⟩
    rw [← hn5] at HN5 ⊢
    refine wp_cellS (w5.setCell ⟨d, 5, none⟩ (.slice a5 n5 c5)) (by go_simp) ?_
    clear f_o c_o
    have HD6 := Keep.mk ((HD4.out.below BB2.out).setQ HN5.out.1 (by show Grown _ _ fun k => g.qv.ownBlock = some k; rw [Hqv.out]; exact HN5.out.2.1) (by show Moved _ g.qv _; rw [Hqv.out]; exact HN5.out.2.2))
    have HX6 := Keep.mk (HX5.out.set_ne (b' := d) (j := 5) (fun e => by subst e; have := HX5.out.typ.one HB5.out.typ; revert this; decide) (.slice a5 n5 c5))
    have G6 : Keep (Grown w (w5.setCell ⟨d, 5, none⟩ (.slice a5 n5 c5)) (DgS d g)) := ⟨((G4.out.trans (Grown.below BB2.out)).next HN5.out.2.1 fun i _ e => .inr (.inr (.inr (.inr (.inr (by rw [Hqv.out]; exact e)))))).next (Grown.setCell w5 d 5 _ (S := fun k => k = d) fun _ => rfl) fun i _ e => .inl e⟩
    have M6 : Keep (Moved w g.qv (.slice a5 n5 c5)) := ⟨by rw [Hqv.out]; exact HN5.out.2.2.imp id fun ⟨q, e, h⟩ => ⟨q, e, Nat.le_trans G4.out.size (Nat.le_trans BB2.out.size h)⟩⟩
    generalize w5.setCell ⟨d, 5, none⟩ (.slice a5 n5 c5) = w6 at *
    obtain ⟨v6, hv6⟩ : ∃ u : Value, u = .slice a5 n5 c5 := ⟨_, rfl⟩
    rw [← hv6] at HD6 M6
    refine hK _ _ ⟨trivial, vtx_rng (hvv.out ▸ HX6.out), blk_rng HX6.out⟩ fun hH6 => ?_
    rw [hn5]
    clear hK hH5 hH6 HB5 HX5 HN5 c5k hv6 hn5
    simp only [Act.put, List.setIfInBounds_toArray, List.set_cons_zero, List.set_cons_succ]
    refine wpAnyH_done (by kernel_rfl) ?_ _
    refine hK8 _ _ ?_
    refine wp_region_list (WL.out ?_)
    refine WL.val (by kernel_rfl) (.pointer (some ⟨d, 0, none⟩)) (by go_simp) ?_
    simp only [Act.put, List.setIfInBounds_toArray, List.set_cons_zero, List.set_cons_succ]
    refine WL.callF (by kernel_rfl) 60 _ _ rfl Try.in60 #[ptr d] (by simp [Act.eval]) ?_
    refine (shed_none d _ { { g with wait := g.wait ++ [v] } with qv := v6, queue := g.queue ++ [v.id] } w6 HD6.out (by have := HQr.out; simp; omega)).mono ?_
    rintro e w7 ⟨rfl, hz⟩
    refine ⟨_, rfl, ?_⟩
    have B7 := Keep.mk hz
    clear hz
    simp only [Act.put, List.setIfInBounds_toArray, List.set_cons_zero, List.set_cons_succ]
    refine WL.val (by kernel_rfl) (.slice none 0 0) (by go_simp) ?_
    simp only [Act.put, List.setIfInBounds_toArray, List.set_cons_zero, List.set_cons_succ]
    refine WL.nil ?_
    refine hK3 _ _ ?_
    refine wp_seq_k fun K9 hK9 => ?_
    refine wp_region_list (WL.out ?_)
    refine WL.val (by kernel_rfl) (.int .i64 3) (by go_simp) ?_
    simp only [Act.put, List.setIfInBounds_toArray, List.set_cons_zero, List.set_cons_succ]
    refine WL.val (by kernel_rfl) (.slice none 0 0) (by go_simp) ?_
    simp only [Act.put, List.setIfInBounds_toArray, List.set_cons_zero, List.set_cons_succ]
    refine WL.val (by kernel_rfl) (.int .i64 0) (by go_simp) ?_
    simp only [Act.put, List.setIfInBounds_toArray, List.set_cons_zero, List.set_cons_succ]
    refine WL.val (by kernel_rfl) (.int .i64 3) (by go_simp) ?_
    simp only [Act.put, List.setIfInBounds_toArray, List.set_cons_zero, List.set_cons_succ]
    refine WL.val (by kernel_rfl) (.slice none 0 0) (by go_simp) ?_
    simp only [Act.put, List.setIfInBounds_toArray, List.set_cons_zero, List.set_cons_succ]
    refine WL.val (by kernel_rfl) (.int .i64 0) (by go_simp) ?_
    simp only [Act.put, List.setIfInBounds_toArray, List.set_cons_zero, List.set_cons_succ]
    refine WL.nil ?_
    refine hK9 _ _ ?_
    refine wp_ret ?_
    go_ret3
    exact ⟨rfl, { { g with wait := g.wait ++ [v] } with qv := v6, queue := g.queue ++ [v.id] }, ⟨(HD6.out.below B7.out).avInto (fun k hk => hk.elim .inl (HD6.out.av k)) (fun k hk => .inr hk), G6.out.trans (Grown.below B7.out), fun k hk => DagAt.setQS (g := { g with wait := g.wait ++ [v] }) M6.out hk⟩, rfl, rfl, rfl, rfl, rfl, rfl⟩
  · refine wp_bs 37 1 _ rfl #[(0, .agg (bytesA 32 v.id.f))] (by simp [Act.eval]) _ _ (bsH v.id _) ?_
    have HGy := Keep.mk (Blk.new w4.drew 36 (bytesA 32 v.id.f))
    have BB1 := Keep.mk (belowT B2.out (below_new w4.drew (.cells (bytesA 32 v.id.f) 36)))
    generalize w4.drew.alloc (.cells (bytesA 32 v.id.f) 36) = wb1 at *
    generalize w4.drew.heap.size = gy at *
    refine hK _ _ (c5k.out _ BB1.out) fun hR1 => ?_
    clear hK
    simp only [Act.put, List.setIfInBounds_toArray, List.set_cons_zero, List.set_cons_succ]
    refine wpAnyH_ready (rs := [4]) (by kernel_rfl) (by simp) ?_
    refine AllReadyH.cons (o := ⟨some 34, Op.load 37 (Operand.tmp 33), 37, _, _, none⟩) rfl (fun K hK => ?_) AllReadyH.nil
    rw [if_pos (by rfl)]
    have c_o : wb1.cell? ⟨d, 5, none⟩ = some (.slice qa g.queue.length qc) := by have h := (HD4.out.blk.below BB1.out HD4.out.blk.lt).c 5 (by rfl : (dgA { g with wait := g.wait ++ [v] })[5]? = some g.qv); rw [Hqv.out] at h; exact h
    refine wp_val (.slice qa g.queue.length qc) (by go_simp) ?_
    clear c_o
    refine hK _ _ (c5k.out _ BB1.out) fun hR2 => ?_
    clear hK
    simp only [Act.put, List.setIfInBounds_toArray, List.set_cons_zero, List.set_cons_succ]
    refine wpAnyH_ready (rs := [8]) (by kernel_rfl) (by simp) ?_
    refine AllReadyH.cons (o := ⟨some 38, Op.call { callee := Callee.builtin Builtin.append, args := #[Operand.tmp 34, Operand.tmp 37], argTypes := #[37, 37] }, 37, _, _, none⟩) rfl (fun K hK => ?_) AllReadyH.nil
    rw [if_pos (by rfl)]
    refine wp_apH (Operand.tmp 34) (Operand.tmp 37) rfl _ g.queue gy v.id rfl rfl (Hqv.out ▸ (HD4.out.below BB1.out).oq) HGy.out (by have := HQl.out; omega) fun v5 w5 h5 => ?_
    have HN5 := Keep.mk h5
    have HX5 := Keep.mk (h5.2.1.blk (HX4.out.below BB1.out HX4.out.lt) fun e => by have := (((HD4.out.below BB1.out).oq).typ (by show g.qv.ownBlock = _; rw [Hqv.out]; exact e)).one (HX4.out.below BB1.out HX4.out.lt).typ; revert this; decide)
    have HB5 := Keep.mk (h5.2.1.blk (HD4.out.below BB1.out).blk fun e => by have := (((HD4.out.below BB1.out).oq).typ (by show g.qv.ownBlock = _; rw [Hqv.out]; exact e)).one (HD4.out.below BB1.out).blk.typ; revert this; decide)
    refine hK _ _ ⟨trivial, vtx_rng (hvv.out ▸ HX5.out), blk_rng HX5.out⟩ fun hH5 => ?_
    obtain ⟨a5, c5, e5⟩ := h5.1.sl
    subst e5
    clear hK h5
    simp only [Act.put, List.setIfInBounds_toArray, List.set_cons_zero, List.set_cons_succ]
    refine wpAnyH_take (i := 9) (oi := ⟨some 39, Op.nilCheck (Operand.tmp 30), 0, _, _, none⟩) (v := .pointer (some ⟨d, 0, none⟩)) rfl (by kernel_rfl) (by kernel_rfl) (by kernel_rfl) (fun _ _ _ h => h) (Or.inl ⟨by rfl, fun w hS => by obtain ⟨hS1, hS2, hS3⟩ := hS; go_simp⟩) hH5 ?_
    simp only [Act.put, List.setIfInBounds_toArray, List.set_cons_zero, List.set_cons_succ]
    refine wpAnyH_take (i := 10) (oi := ⟨some 40, Op.fieldAddr 77 (Operand.tmp 39) 5, 0, _, _, none⟩) (v := .pointer (some ⟨d, 5, none⟩)) rfl (by kernel_rfl) (by kernel_rfl) (by kernel_rfl) (fun _ _ _ h => h) (Or.inl ⟨by rfl, fun w hS => by obtain ⟨hS1, hS2, hS3⟩ := hS; go_simp⟩) hH5 ?_
    simp only [Act.put, List.setIfInBounds_toArray, List.set_cons_zero, List.set_cons_succ]
    refine wpAnyH_ready (rs := [11]) (by kernel_rfl) (by simp) ?_
    refine AllReadyH.cons (o := ⟨none, Op.store 37 (Operand.tmp 40) (Operand.tmp 38), 0, _, _, none⟩) rfl (fun K hK => ?_) AllReadyH.nil
    rw [if_pos (by rfl)]
    have f_o := HB5.out.frozen 5
    have c_o : w5.cell? ⟨d, 5, none⟩ = some (.slice qa g.queue.length qc) := by have h := HB5.out.c 5 (by rfl : (dgA { g with wait := g.wait ++ [v] })[5]? = some g.qv); rw [Hqv.out] at h; exact h
    obtain ⟨n5, hn5⟩ : ∃ n, n = (g.queue ++ [v.id]).length := ⟨_, rfl⟩
    rw [← hn5] at HN5 ⊢
    refine wp_cellS (w5.setCell ⟨d, 5, none⟩ (.slice a5 n5 c5)) (by go_simp) ?_
    clear f_o c_o
    have HD6 := Keep.mk ((HD4.out.below BB1.out).setQ HN5.out.1 (by show Grown _ _ fun k => g.qv.ownBlock = some k; rw [Hqv.out]; exact HN5.out.2.1) (by show Moved _ g.qv _; rw [Hqv.out]; exact HN5.out.2.2))
    have HX6 := Keep.mk (HX5.out.set_ne (b' := d) (j := 5) (fun e => by subst e; have := HX5.out.typ.one HB5.out.typ; revert this; decide) (.slice a5 n5 c5))
    have G6 : Keep (Grown w (w5.setCell ⟨d, 5, none⟩ (.slice a5 n5 c5)) (DgS d g)) := ⟨((G4.out.trans (Grown.below BB1.out)).next HN5.out.2.1 fun i _ e => .inr (.inr (.inr (.inr (.inr (by rw [Hqv.out]; exact e)))))).next (Grown.setCell w5 d 5 _ (S := fun k => k = d) fun _ => rfl) fun i _ e => .inl e⟩
    have M6 : Keep (Moved w g.qv (.slice a5 n5 c5)) := ⟨by rw [Hqv.out]; exact HN5.out.2.2.imp id fun ⟨q, e, h⟩ => ⟨q, e, Nat.le_trans G4.out.size (Nat.le_trans BB1.out.size h)⟩⟩
    generalize w5.setCell ⟨d, 5, none⟩ (.slice a5 n5 c5) = w6 at *
    obtain ⟨v6, hv6⟩ : ∃ u : Value, u = .slice a5 n5 c5 := ⟨_, rfl⟩
    rw [← hv6] at HD6 M6
    refine hK _ _ ⟨trivial, vtx_rng (hvv.out ▸ HX6.out), blk_rng HX6.out⟩ fun hH6 => ?_
    rw [hn5]
    clear hK hH5 hH6 HB5 HX5 HN5 c5k hv6 hn5
    simp only [Act.put, List.setIfInBounds_toArray, List.set_cons_zero, List.set_cons_succ]
    refine wpAnyH_done (by kernel_rfl) ?_ _
    refine hK8 _ _ ?_
    refine wp_region_list (WL.out ?_)
    refine WL.val (by kernel_rfl) (.pointer (some ⟨d, 0, none⟩)) (by go_simp) ?_
    simp only [Act.put, List.setIfInBounds_toArray, List.set_cons_zero, List.set_cons_succ]
    refine WL.callF (by kernel_rfl) 60 _ _ rfl Try.in60 #[ptr d] (by simp [Act.eval]) ?_
    refine (shed_none d _ { { g with wait := g.wait ++ [v] } with qv := v6, queue := g.queue ++ [v.id] } w6 HD6.out (by have := HQr.out; simp; omega)).mono ?_
    rintro e w7 ⟨rfl, hz⟩
    refine ⟨_, rfl, ?_⟩
    have B7 := Keep.mk hz
    clear hz
    simp only [Act.put, List.setIfInBounds_toArray, List.set_cons_zero, List.set_cons_succ]
    refine WL.val (by kernel_rfl) (.slice none 0 0) (by go_simp) ?_
    simp only [Act.put, List.setIfInBounds_toArray, List.set_cons_zero, List.set_cons_succ]
    refine WL.nil ?_
    refine hK3 _ _ ?_
    refine wp_seq_k fun K10 hK10 => ?_
    refine wp_region_list (WL.out ?_)
    refine WL.val (by kernel_rfl) (.int .i64 3) (by go_simp) ?_
    simp only [Act.put, List.setIfInBounds_toArray, List.set_cons_zero, List.set_cons_succ]
    refine WL.val (by kernel_rfl) (.slice none 0 0) (by go_simp) ?_
    simp only [Act.put, List.setIfInBounds_toArray, List.set_cons_zero, List.set_cons_succ]
    refine WL.val (by kernel_rfl) (.int .i64 0) (by go_simp) ?_
    simp only [Act.put, List.setIfInBounds_toArray, List.set_cons_zero, List.set_cons_succ]
    refine WL.val (by kernel_rfl) (.int .i64 3) (by go_simp) ?_
    simp only [Act.put, List.setIfInBounds_toArray, List.set_cons_zero, List.set_cons_succ]
    refine WL.val (by kernel_rfl) (.slice none 0 0) (by go_simp) ?_
    simp only [Act.put, List.setIfInBounds_toArray, List.set_cons_zero, List.set_cons_succ]
    refine WL.val (by kernel_rfl) (.int .i64 0) (by go_simp) ?_
    simp only [Act.put, List.setIfInBounds_toArray, List.set_cons_zero, List.set_cons_succ]
    refine WL.nil ?_
    refine hK10 _ _ ?_
    refine wp_ret ?_
    go_ret3
    exact ⟨rfl, { { g with wait := g.wait ++ [v] } with qv := v6, queue := g.queue ++ [v.id] }, ⟨(HD6.out.below B7.out).avInto (fun k hk => hk.elim .inl (HD6.out.av k)) (fun k hk => .inr hk), G6.out.trans (Grown.below B7.out), fun k hk => DagAt.setQS (g := { g with wait := g.wait ++ [v] }) M6.out hk⟩, rfl, rfl, rfl, rfl, rfl, rfl⟩
end Go.Proofs.Ytogmdfhicbmplaa
namespace Go.Proofs.Ytogmdfhicbmplaa
open Go.RowKit
set_option linter.unusedSimpArgs false
set_option linter.unusedVariables false

theorem Try.in35 (w : World) (vs : Array Value) : (callFunc 35 vs).run Try.prog w = .ok (.enter 35 vs) w := by kernel_rfl
set_option maxRecDepth 8000 in
set_option maxHeartbeats 1000000 in
theorem next_first (d : Nat) (v : VX) (r : List Hs) (Av : Nat → Prop) (g : DG) (w : World) (hD : DagAt w Av d g) (hQ : g.queue = v.id :: r) (hF : g.wait.find? (isV v.id) = some v) (hA : v.ps.all (hasB g.held) = true) (hL : v.ps.length ≤ 4398046511104) : Calls Try.prog 35 #[ptr d] w fun e w' => ∃ a n c, e = .returned (.tuple #[.agg (vtx v.id.f v.ck (.slice a n c)), .bool true]) ∧ Below w.heap.size w w' := by
  have HD := Keep.mk hD
  have HQ := Keep.mk hQ
  have HF := Keep.mk hF
  have HA := Keep.mk hA
  have HL := Keep.mk hL
  clear hD hQ hF hA hL
  go_enter Try.func35, Try.ntmps35
  refine wp_seq_k fun K1 hK1 => ?_
  refine wp_region_list (WL.out ?_)
  refine WL.new (by kernel_rfl) 39 rfl _ Try.new39 ?_
  obtain ⟨vz, hvz⟩ : ∃ a : Array Value, Keep (a = vtx (fun _ => 0) 0 (.slice none 0 0)) := ⟨_, ⟨rfl⟩⟩
  rw [← hvz.out]
  have HZ1 := Keep.mk (Blk.new w 39 vz)
  have LB1 := Keep.mk (below_new w (.cells vz 39))
  generalize w.alloc (.cells vz 39) = w1 at *
  have HD1 := Keep.mk (HD.out.below LB1.out)
  obtain ⟨qa, qc, hqv⟩ := HD1.out.oq.sl
  have hql : 0 < g.queue.length := by rw [HQ.out]; simp
  have hql' : (0 : Int) < (g.queue.length : Int) := by omega
  have hrw : HRow w1 (.slice qa g.queue.length qc) g.queue := hqv ▸ HD1.out.oq.row
  obtain ⟨gp, op, hpa, _, _, hrg⟩ := hrw.at hql
  subst hpa
  have hel := rangeAt_elem hrg 0 hql
  rw [Nat.zero_mul, Nat.add_zero] at hel
  obtain ⟨hh, hhh⟩ : ∃ hh, hh = g.queue[0] := ⟨_, rfl⟩
  rw [← hhh] at hel
  have hhx : hh = v.id := by rw [hhh]; simp [HQ.out]
  subst hhx
  have c5 : w1.cell? ⟨d, 5, none⟩ = some (.slice (some ⟨gp, op, none⟩) g.queue.length qc) := by have h := HD1.out.blk.c 5 (by rfl : (dgA g)[5]? = some g.qv); rw [hqv] at h; exact h
  have Hel := Keep.mk hel
  clear hel hrg hrw hhh
  simp only [Act.put, List.setIfInBounds_toArray, List.set_cons_zero, List.set_cons_succ]
  refine WL.val (by kernel_rfl) (.bool false) (by go_simp) ?_
  simp only [Act.put, List.setIfInBounds_toArray, List.set_cons_zero, List.set_cons_succ]
  refine WL.nil ?_
  refine hK1 _ _ ?_
  refine wp_seq_k fun K2 hK2 => ?_
  refine wp_seq_k fun K3 hK3 => ?_
  refine wp_region_list (WL.out ?_)
  refine WL.val (by kernel_rfl) (.pointer (some ⟨d, 0, none⟩)) (by go_simp) ?_
  simp only [Act.put, List.setIfInBounds_toArray, List.set_cons_zero, List.set_cons_succ]
  refine WL.val (by kernel_rfl) (.pointer (some ⟨d, 0, none⟩)) (by go_simp) ?_
  simp only [Act.put, List.setIfInBounds_toArray, List.set_cons_zero, List.set_cons_succ]
  refine WL.val (by kernel_rfl) (.pointer (some ⟨d, 5, none⟩)) (by go_simp) ?_
  simp only [Act.put, List.setIfInBounds_toArray, List.set_cons_zero, List.set_cons_succ]
  refine WL.val (by kernel_rfl) (.slice (some ⟨gp, op, none⟩) g.queue.length qc) (by go_simp) ?_
  simp only [Act.put, List.setIfInBounds_toArray, List.set_cons_zero, List.set_cons_succ]
  refine WL.val (by kernel_rfl) (.int .i64 (g.queue.length : Int)) (by go_simp) ?_
  simp only [Act.put, List.setIfInBounds_toArray, List.set_cons_zero, List.set_cons_succ]
  refine WL.val (by kernel_rfl) (.int .i64 0) (by go_simp) ?_
  simp only [Act.put, List.setIfInBounds_toArray, List.set_cons_zero, List.set_cons_succ]
  refine WL.nil ?_
  refine hK3 _ _ ?_
  refine wp_block ?_
  refine wp_loop (fun ac wr => ∃ (t : Nat) (u3 u5 u6 u13 u14 u15 u16 u17 u18 u19 u20 u21 u22 u23 u24 u25 u26 u27 u28 : Value), ac = { tmps := #[.pointer (some ⟨d, 0, none⟩), undef, .pointer (some ⟨w.heap.size, 0, none⟩), u3, undef, u5, u6, .pointer (some ⟨d, 0, none⟩), .pointer (some ⟨d, 0, none⟩), .pointer (some ⟨d, 5, none⟩), .slice (some ⟨gp, op, none⟩) g.queue.length qc, .int .i64 (g.queue.length : Int), .int .i64 0, u13, u14, u15, u16, u17, u18, u19, u20, u21, u22, u23, u24, u25, u26, u27, u28, undef], defers := [] } ∧ w1 = wr) (fun a _ => 0) ⟨0, .bool false, undef, undef, undef, undef, undef, undef, undef, undef, undef, undef, undef, undef, undef, undef, undef, undef, undef, undef, rfl, rfl⟩ ?_
  rintro ac wr ⟨t, u3, u5, u6, u13, u14, u15, u16, u17, u18, u19, u20, u21, u22, u23, u24, u25, u26, u27, u28, rfl, hW⟩
  obtain rfl := hW
  refine wp_seq_k fun K4 hK4 => ?_
  refine wp_region_list (WL.out ?_)
  refine WL.val (by kernel_rfl) (.bool true) (by go_simp) ?_
  simp only [Act.put, List.setIfInBounds_toArray, List.set_cons_zero, List.set_cons_succ]
  refine WL.nil ?_
  refine hK4 _ _ ?_
  refine wp_seq_k fun K5 hK5 => ?_
  refine wp_cond_true rfl ?_
  refine wp_skip ?_
  refine hK5 _ _ ?_
  refine wp_seq_k fun K6 hK6 => ?_
  refine wp_block ?_
  refine wp_seq_k fun K7 hK7 => ?_
  refine wp_region_list (WL.out ?_)
  refine WL.val (by kernel_rfl) (.pointer (some ⟨gp, op, none⟩)) (by go_simp) ?_
  simp only [Act.put, List.setIfInBounds_toArray, List.set_cons_zero, List.set_cons_succ]
  refine WL.mid (by kernel_rfl) 36 (.tmp 14) rfl gp op rfl (encH v.id) _ Hel.out Try.underlying36 rfl (Try.size36L v.id) ?_
  rw [enc_load]
  simp only [Act.put, List.setIfInBounds_toArray, List.set_cons_zero, List.set_cons_succ]
  refine WL.new (by kernel_rfl) 36 rfl _ Try.new36 ?_
  simp only [Act.put, List.setIfInBounds_toArray, List.set_cons_zero, List.set_cons_succ]
  refine WL.storeR (by kernel_rfl) 36 (.tmp 5) (.tmp 15) rfl w1.heap.size (bytesA 32 v.id.f) rfl rfl 36 (bytesA 32 fun _ => 0) (Blk.new w1 36 _) (Try.size36B _) (bytesA_sizes _ _ _) (bytesA_one _ _) ?_
  have HX2 := Keep.mk ((Blk.new w1 36 (bytesA 32 fun _ => 0)).setRow (bytesA 32 v.id.f))
  have B2 : Keep (Below w1.heap.size w1 ((w1.alloc (.cells (bytesA 32 fun _ => 0) 36)).setRow w1.heap.size (bytesA 32 v.id.f))) := ⟨below_setRow (below_new w1 _) (Nat.le_refl _) _⟩
  generalize (w1.alloc (.cells (bytesA 32 fun _ => 0) 36)).setRow w1.heap.size (bytesA 32 v.id.f) = w2 at *
  have HD2 := Keep.mk (HD1.out.below B2.out)
  have HZ2 := Keep.mk (HZ1.out.below B2.out HZ1.out.lt)
  have LB2 := Keep.mk (belowT LB1.out B2.out)
  generalize w1.heap.size = bb at *
  clear Hel c5 HD1 HZ1
  simp only [Act.put]
  refine WL.nil ?_
  refine hK7 _ _ ?_
  refine wp_seq_k fun K8 hK8 => ?_
  obtain ⟨es, ck, c0, k0, pa, pn, pm, hes, hl1, hl2, hcs⟩ := look1 HD2.out.wait v.id
  obtain ⟨vv, hvv⟩ : ∃ a : Array Value, Keep (a = vtx c0 k0 (.slice pa pn pm)) := ⟨_, ⟨rfl⟩⟩
  rw [← hvv.out] at hl2
  have H1 := Keep.mk hl2
  have HC : Keep (c0 = v.id.f ∧ k0 = v.ck ∧ HRow w2 (.slice pa pn pm) v.ps) := ⟨hcs.elim (fun h => absurd (HF.out.symm.trans h.1) (by simp)) fun ⟨v', h, h2, h3, h4, _⟩ => by cases Option.some.inj (HF.out.symm.trans h); exact ⟨h2, h3, h4⟩⟩
  have hSB : Keep (∀ wx, Below w2.heap.size w2 wx → (fun wx => wx.cell? ⟨d, 4, none⟩ = some (.map (some g.wb)) ∧ wx.rangeAt bb 0 (bytesA 32 v.id.f).toList ∧ wx.heap[g.wb]? = some (.map es ck)) wx) := ⟨fun wx hb => ⟨(HD2.out.blk.below hb HD2.out.blk.lt).c 4 rfl, blk_rng (HX2.out.below hb HX2.out.lt), by rw [hb.block _ (Array.getElem?_eq_some_iff.1 hes).1]; exact hes⟩⟩
  have B3 : Keep (Below w2.heap.size w2 w2.drew) := ⟨(Below.refl _ _).drew⟩
  clear hl1 hl2 hcs hes
  refine wp_region_held_drew (S := fun wx => wx.cell? ⟨d, 4, none⟩ = some (.map (some g.wb)) ∧ wx.rangeAt bb 0 (bytesA 32 v.id.f).toList ∧ wx.heap[g.wb]? = some (.map es ck)) (by kernel_rfl) (hSB.out _ B3.out) (fun hHeld => ?_)
  refine wpAnyH_take (i := 0) (oi := ⟨some 16, Op.move (Operand.tmp 0), 27, _, _, none⟩) (v := .pointer (some ⟨d, 0, none⟩)) rfl (by kernel_rfl) (by kernel_rfl) (by kernel_rfl) (fun _ _ _ h => h) (Or.inl ⟨by rfl, fun w hS => by obtain ⟨hS1, hS2, hS3⟩ := hS; go_simp⟩) hHeld ?_
  simp only [Act.put, List.setIfInBounds_toArray, List.set_cons_zero, List.set_cons_succ]
  refine wpAnyH_take (i := 1) (oi := ⟨some 17, Op.nilCheck (Operand.tmp 16), 0, _, _, none⟩) (v := .pointer (some ⟨d, 0, none⟩)) rfl (by kernel_rfl) (by kernel_rfl) (by kernel_rfl) (fun _ _ _ h => h) (Or.inl ⟨by rfl, fun w hS => by obtain ⟨hS1, hS2, hS3⟩ := hS; go_simp⟩) hHeld ?_
  simp only [Act.put, List.setIfInBounds_toArray, List.set_cons_zero, List.set_cons_succ]
  refine wpAnyH_take (i := 2) (oi := ⟨some 18, Op.fieldAddr 77 (Operand.tmp 17) 4, 0, _, _, none⟩) (v := .pointer (some ⟨d, 4, none⟩)) rfl (by kernel_rfl) (by kernel_rfl) (by kernel_rfl) (fun _ _ _ h => h) (Or.inl ⟨by rfl, fun w hS => by obtain ⟨hS1, hS2, hS3⟩ := hS; go_simp⟩) hHeld ?_
  simp only [Act.put, List.setIfInBounds_toArray, List.set_cons_zero, List.set_cons_succ]
  refine wpAnyH_take (i := 3) (oi := ⟨some 19, Op.load 75 (Operand.tmp 18), 75, _, _, none⟩) (v := .map (some g.wb)) rfl (by kernel_rfl) (by kernel_rfl) (by kernel_rfl) (fun _ _ _ h => h) (Or.inl ⟨by rfl, fun w hS => by obtain ⟨hS1, hS2, hS3⟩ := hS; go_simp⟩) hHeld ?_
  simp only [Act.put, List.setIfInBounds_toArray, List.set_cons_zero, List.set_cons_succ]
  refine wpAnyH_take (i := 4) (oi := ⟨some 20, Op.load 36 (Operand.tmp 5), 36, _, _, none⟩) (v := .agg (bytesA 32 v.id.f)) rfl (by kernel_rfl) (by kernel_rfl) (by kernel_rfl) (fun _ _ _ h => h) (yieldsIf_ld (by rfl) (Operand.tmp 5) 36 rfl bb 0 rfl (bytesA 32 v.id.f) _ Try.underlying36 rfl (size36A _) fun w hS => hS.2.1) hHeld ?_
  simp only [Act.put, List.setIfInBounds_toArray, List.set_cons_zero, List.set_cons_succ]
  refine wpAnyH_take (i := 5) (oi := ⟨some 21, Op.lookup 75 (Operand.tmp 19) (Operand.tmp 20) false, 39, _, _, none⟩) (v := .agg vv) rfl (by kernel_rfl) (by kernel_rfl) (by kernel_rfl) (fun _ _ _ h => h) (yieldsIf_look (by rfl) (Operand.tmp 19) (Operand.tmp 20) false rfl g.wb v.id.f rfl rfl _ fun wx hS => H1.out wx hS.2.2) hHeld ?_
  simp only [Act.put, List.setIfInBounds_toArray, List.set_cons_zero, List.set_cons_succ]
  refine wpAnyH_ready (rs := [6]) (by kernel_rfl) (by simp) ?_
  refine AllReadyH.cons (o := ⟨some 6, Op.alloc 39, 0, _, _, none⟩) rfl (fun K hK => ?_) AllReadyH.nil
  rw [if_pos (by rfl)]
  refine wp_newA 39 rfl vz (by rw [hvz.out]; exact Try.new39) ?_
  have B4 := Keep.mk (B3.out.alloc (Nat.le_refl _) (.cells vz 39))
  obtain ⟨w4, hw4⟩ : ∃ wx, Keep (wx = w2.drew.alloc (.cells vz 39)) := ⟨_, ⟨rfl⟩⟩
  rw [← hw4.out]
  have HB4 : Keep (Blk w4 w2.drew.heap.size 39 vz) := ⟨by rw [hw4.out]; exact Blk.new _ _ _⟩
  have B4 : Keep (Below w2.heap.size w2 w4) := ⟨by rw [hw4.out]; exact B4.out⟩
  have hL4 : Keep (w2.heap.size ≤ w2.drew.heap.size) := ⟨Nat.le_refl _⟩
  clear hw4
  generalize w2.drew.heap.size = n1 at *
  refine hK _ _ (hSB.out _ B4.out) fun hH1 => ?_
  clear hK
  simp only [Act.put, List.setIfInBounds_toArray, List.set_cons_zero, List.set_cons_succ]
  refine wpAnyH_ready (rs := [7]) (by kernel_rfl) (by simp) ?_
  refine AllReadyH.cons (o := ⟨none, Op.store 39 (Operand.tmp 6) (Operand.tmp 21), 0, _, _, none⟩) rfl (fun K hK => ?_) AllReadyH.nil
  rw [if_pos (by rfl)]
  refine wp_store_row 39 (Operand.tmp 6) (Operand.tmp 21) rfl n1 vv rfl rfl 39 vz HB4.out (by rw [hvv.out]; exact Try.info39s _ _ _) (by rw [hvv.out, hvz.out, vtx_size, vtx_size]) (by rw [hvv.out]; exact vtx_one _ _ _ (slice_one _ _ _)) ?_
  have B5 := Keep.mk (below_setRow B4.out hL4.out vv)
  have HX5 := Keep.mk (HB4.out.setRow vv)
  refine hK _ _ (hSB.out _ B5.out) fun hH2 => ?_
  generalize w4.setRow n1 vv = w5 at *
  have HD5 := Keep.mk (HD2.out.below B5.out)
  have HZ5 := Keep.mk (HZ2.out.below B5.out HZ2.out.lt)
  have LB5 := Keep.mk (belowT LB2.out B5.out)
  have HR5 := Keep.mk (HC.out.2.2.below B5.out)
  obtain ⟨_, pm', hpf⟩ := HR5.out.form
  injection hpf with _ hpn _
  subst hpn
  have c33 : w5.cell? ⟨n1, 33, none⟩ = some (.slice pa v.ps.length pm) := HX5.out.c 33 (by rw [hvv.out]; exact vtx_ps _ _ _)
  clear hK hH1 HB4 B4 B3 hSB
  simp only [Act.put, List.setIfInBounds_toArray, List.set_cons_zero, List.set_cons_succ]
  refine wpAnyH_done (by kernel_rfl) ?_ _
  refine hK8 _ _ ?_
  refine wp_seq_k fun K9 hK9 => ?_
  refine wp_region_list (WL.out ?_)
  refine WL.val (by kernel_rfl) (.pointer (some ⟨d, 0, none⟩)) (by go_simp) ?_
  simp only [Act.put, List.setIfInBounds_toArray, List.set_cons_zero, List.set_cons_succ]
  refine WL.val (by kernel_rfl) (.pointer (some ⟨n1, 33, none⟩)) (by go_simp) ?_
  simp only [Act.put, List.setIfInBounds_toArray, List.set_cons_zero, List.set_cons_succ]
  refine WL.val (by kernel_rfl) (.slice pa v.ps.length pm) (by go_simp) ?_
  simp only [Act.put, List.setIfInBounds_toArray, List.set_cons_zero, List.set_cons_succ]
  clear c33
  have hal := hasAll_any d _ v.ps Av g w5 HD5.out HR5.out (by have := HL.out; omega)
  rw [HA.out] at hal
  refine WL.callF (by kernel_rfl) 68 _ _ rfl Try.in68 #[ptr d, .slice pa v.ps.length pm] (by simp [Act.eval]) ?_
  refine (hal).mono ?_
  rintro e w6 ⟨rfl, hz⟩
  refine ⟨_, rfl, ?_⟩
  clear hal
  have HX6 := Keep.mk (HX5.out.below hz HX5.out.lt)
  have HZ6 := Keep.mk (HZ5.out.below hz HZ5.out.lt)
  have LB6 := Keep.mk (belowT LB5.out hz)
  have HR6 := Keep.mk (HR5.out.below hz)
  clear hz
  simp only [Act.put, List.setIfInBounds_toArray, List.set_cons_zero, List.set_cons_succ]
  refine WL.nil ?_
  refine hK9 _ _ ?_
  refine wp_cond_true rfl ?_
  refine wp_seq_k fun K10 hK10 => ?_
  refine wp_region_list (WL.out ?_)
  refine WL.row (by kernel_rfl) 39 (.tmp 6) rfl n1 rfl 39 vv _ HX6.out Try.underlying39 rfl (by rw [hvv.out]; exact Try.info39s _ _ _) ?_
  simp only [Act.put, List.setIfInBounds_toArray, List.set_cons_zero, List.set_cons_succ]
  have how := own_any v _ w6 HR6.out (by have := HL.out; omega)
  rw [← HC.out.1, ← HC.out.2.1, ← hvv.out] at how
  refine WL.callF (by kernel_rfl) 59 _ _ rfl Try.in59 #[.agg vv] (by simp [Act.eval]) ?_
  refine (how).mono ?_
  rintro e w7 ⟨p7, rfl, hf⟩
  refine ⟨_, rfl, ?_⟩
  clear how
  have HF7 := Keep.mk hf
  have HZ7 := Keep.mk (HZ6.out.below hf.bel HZ6.out.lt)
  have LB7 := Keep.mk (belowT LB6.out hf.bel)
  obtain ⟨pa7, pc7, hp7⟩ := hf.own.sl
  have HP7 := Keep.mk hp7
  obtain ⟨vq, hvq⟩ : ∃ a : Array Value, Keep (a = vtx c0 k0 p7) := ⟨_, ⟨rfl⟩⟩
  have HI7 : Keep ((Try.prog.info? 39).map (·.size) = some vq.size) := ⟨by rw [hvq.out]; exact Try.info39s _ _ _⟩
  have HO7 : Keep (vq.all (·.oneCell') = true) := ⟨by rw [hvq.out, hp7]; exact vtx_one _ _ _ (slice_one _ _ _)⟩
  have HS7 : Keep (vz.size = vq.size) := ⟨by rw [hvq.out, hvz.out, vtx_size, vtx_size]⟩
  rw [← hvq.out]
  clear hf hp7 HX6 HR6
  simp only [Act.put, List.setIfInBounds_toArray, List.set_cons_zero, List.set_cons_succ]
  refine WL.storeR (by kernel_rfl) 39 (.tmp 2) (.tmp 27) rfl w.heap.size vq rfl rfl 39 vz HZ7.out HI7.out HS7.out HO7.out ?_
  have HZ8 := Keep.mk (HZ7.out.setRow vq)
  have LB8 := Keep.mk (below_setRow LB7.out (b := w.heap.size) (Nat.le_refl _) vq)
  generalize w7.setRow w.heap.size vq = w8 at *
  simp only [Act.put]
  refine WL.val (by kernel_rfl) (.bool true) (by go_simp) ?_
  simp only [Act.put, List.setIfInBounds_toArray, List.set_cons_zero, List.set_cons_succ]
  refine WL.nil ?_
  refine hK10 _ _ ?_
  refine wp_ret ?_
  try simp only [Exit.inBlock, Exit.then]
  refine bodyPost_ret (v := .tuple #[.agg vq, .bool true]) (results_cell_row2 Try.results35 _ _ w.heap.size 39 _ (0, 0) _ _ rfl rfl HZ8.out Try.underlying39 rfl HI7.out) rfl ?_
  exact ⟨pa7, _, pc7, by rw [hvq.out, HC.out.1, HC.out.2.1, HP7.out], LB8.out⟩
end Go.Proofs.Ytogmdfhicbmplaa
namespace Go.Proofs.Ytogmdfhicbmplaa
open Go.RowKit
set_option linter.unusedSimpArgs false
set_option linter.unusedVariables false

theorem Try.in9 (w : World) (vs : Array Value) : (callFunc 9 vs).run Try.prog w = .ok (.enter 9 vs) w := by kernel_rfl
theorem Try.in3 (w : World) (vs : Array Value) : (callFunc 3 vs).run Try.prog w = .ok (.enter 3 vs) w := by kernel_rfl
def hOne : Hs := Vector.ofFn fun i : Fin 32 => if i.val = 0 then 1 else 0
def hTwo : Hs := Vector.ofFn fun i : Fin 32 => if i.val = 0 then 2 else 0
theorem bOne : Try.prog.built 36 [(0, .int .u8 1)] = some (bytesA 32 hOne.f) := by kernel_rfl
theorem bTwo : Try.prog.built 36 [(0, .int .u8 2)] = some (bytesA 32 hTwo.f) := by kernel_rfl
theorem one_two : ¬ hOne = hTwo := by decide
def xB : VX := ⟨hTwo, 2, [hOne]⟩
def xA : VX := ⟨hOne, 1, []⟩
theorem fitB : fitV [] [] xB = (3, 0) := by decide
theorem fitA : fitV [] [xB] xA = (2, 0) := by decide
theorem findB : ([xB] : List VX).find? (isV xB.id) = some xB := by rw [List.find?_cons]; simp [isV]
theorem allB : xB.ps.all (hasB [xA]) = true := by decide
set_option maxRecDepth 8000 in
set_option maxHeartbeats 1000000 in
theorem fixed_any (w : World) : Calls Try.prog 9 #[] w fun e w' => e = .returned (.bool true) ∧ Below w.heap.size w w' := by
  go_enter Try.func9, Try.ntmps9
  refine wp_seq_k fun K1 hK1 => ?_
  refine wp_region_list (WL.out ?_)
  refine WL.val (by kernel_rfl) (.bool false) (by go_simp) ?_
  simp only [Act.put, List.setIfInBounds_toArray, List.set_cons_zero, List.set_cons_succ]
  refine WL.nil ?_
  refine hK1 _ _ ?_
  refine wp_seq_k fun K2 hK2 => ?_
  refine wp_region_list (WL.out ?_)
  have hnw := (new_any 1 w).mono (R' := fun e w' => ∃ d g, e = .returned (.tuple #[ptr d, .int .i64 0]) ∧ DagAt w' (DgS d g) d g ∧ g.room = 1 ∧ g.held = [] ∧ g.wait = [] ∧ g.heads = [] ∧ g.order = [] ∧ g.queue = [] ∧ Below w.heap.size w w' ∧ ∀ k, DgS d g k → w.heap.size ≤ k) (fun e w' h => h.elim (fun h => absurd h.1 (by omega)) fun ⟨_, d, g, h1, h2, h3, h4, h5, h6, h7, h8, h9, h10⟩ => ⟨d, g, h1, h2, h3, h4, h5, h6, h7, h8, h9, h10⟩)
  refine WL.callF (by kernel_rfl) 10 _ _ rfl Try.in10 #[.int .i64 1] (by simp [Act.eval]) ?_
  refine (hnw).mono ?_
  rintro e w1 ⟨d, g, rfl, hD, hr, hg1, hg2, hg3, hg4, hg5, hb, hn⟩
  refine ⟨_, rfl, ?_⟩
  clear hnw
  have HN := Keep.mk hn
  clear hn
  have HD1 := Keep.mk hD
  have HGf : Keep (g.room = 1 ∧ g.held = [] ∧ g.wait = [] ∧ g.heads = [] ∧ g.order = [] ∧ g.queue = []) := ⟨⟨hr, hg1, hg2, hg3, hg4, hg5⟩⟩
  have LB1 := Keep.mk hb
  clear hD hr hg1 hg2 hg3 hg4 hg5 hb
  simp only [Act.put, List.setIfInBounds_toArray, List.set_cons_zero, List.set_cons_succ]
  refine WL.val (by kernel_rfl) (.tuple #[ptr d, .int .i64 0]) (by go_simp) ?_
  simp only [Act.put, List.setIfInBounds_toArray, List.set_cons_zero, List.set_cons_succ]
  refine WL.val (by kernel_rfl) (ptr d) (by go_simp) ?_
  simp only [Act.put, List.setIfInBounds_toArray, List.set_cons_zero, List.set_cons_succ]
  refine WL.val (by kernel_rfl) (.int .i64 0) (by go_simp) ?_
  simp only [Act.put, List.setIfInBounds_toArray, List.set_cons_zero, List.set_cons_succ]
  refine WL.val (by kernel_rfl) (ptr d) (by go_simp) ?_
  simp only [Act.put, List.setIfInBounds_toArray, List.set_cons_zero, List.set_cons_succ]
  refine WL.val (by kernel_rfl) (.int .i64 0) (by go_simp) ?_
  simp only [Act.put, List.setIfInBounds_toArray, List.set_cons_zero, List.set_cons_succ]
  refine WL.nil ?_
  refine hK2 _ _ ?_
  refine wp_seq_k fun K3 hK3 => ?_
  refine wp_seq_k fun K4 hK4 => ?_
  refine wp_region_list (WL.out ?_)
  refine WL.val (by kernel_rfl) (ptr d) (by go_simp) ?_
  simp only [Act.put, List.setIfInBounds_toArray, List.set_cons_zero, List.set_cons_succ]
  refine WL.val (by kernel_rfl) (.bool false) (by go_simp) ?_
  simp only [Act.put, List.setIfInBounds_toArray, List.set_cons_zero, List.set_cons_succ]
  refine WL.val (by kernel_rfl) (.bool false) (by go_simp) ?_
  simp only [Act.put, List.setIfInBounds_toArray, List.set_cons_zero, List.set_cons_succ]
  refine WL.val (by kernel_rfl) (.int .i64 0) (by go_simp) ?_
  simp only [Act.put, List.setIfInBounds_toArray, List.set_cons_zero, List.set_cons_succ]
  refine WL.val (by kernel_rfl) (.bool false) (by go_simp) ?_
  simp only [Act.put, List.setIfInBounds_toArray, List.set_cons_zero, List.set_cons_succ]
  refine WL.val (by kernel_rfl) (.bool false) (by go_simp) ?_
  simp only [Act.put, List.setIfInBounds_toArray, List.set_cons_zero, List.set_cons_succ]
  refine WL.nil ?_
  refine hK4 _ _ ?_
  refine wp_cond_false rfl ?_
  refine wp_skip ?_
  refine hK3 _ _ ?_
  refine wp_seq_k fun K5 hK5 => ?_
  refine wp_region_list (WL.out ?_)
  refine WL.bld (by kernel_rfl) 36 _ rfl [(0, .int .u8 1)] (by simp [Act.eval]) (bytesA 32 hOne.f) bOne ?_
  simp only [Act.put, List.setIfInBounds_toArray, List.set_cons_zero, List.set_cons_succ]
  refine WL.bld (by kernel_rfl) 36 _ rfl [(0, .int .u8 2)] (by simp [Act.eval]) (bytesA 32 hTwo.f) bTwo ?_
  simp only [Act.put, List.setIfInBounds_toArray, List.set_cons_zero, List.set_cons_succ]
  refine WL.new (by kernel_rfl) 36 rfl _ Try.new36 ?_
  have HA2 := Keep.mk (Blk.new w1 36 (bytesA 32 fun _ => 0))
  have B2 := Keep.mk (below_new w1 (.cells (bytesA 32 fun _ => 0) 36))
  generalize w1.alloc (.cells (bytesA 32 fun _ => 0) 36) = w2 at *
  have LA2 : Keep (w1.heap.size < w2.heap.size) := ⟨HA2.out.lt⟩
  obtain ⟨ga, hga⟩ : ∃ b, Keep (b = w1.heap.size) := ⟨_, ⟨rfl⟩⟩
  rw [← hga.out] at HA2 LA2 ⊢
  simp only [Act.put, List.setIfInBounds_toArray, List.set_cons_zero, List.set_cons_succ]
  refine WL.new (by kernel_rfl) 36 rfl _ Try.new36 ?_
  have HB3 := Keep.mk (Blk.new w2 36 (bytesA 32 fun _ => 0))
  have B3 := Keep.mk (below_new w2 (.cells (bytesA 32 fun _ => 0) 36))
  generalize w2.alloc (.cells (bytesA 32 fun _ => 0) 36) = w3 at *
  have HA3 := Keep.mk (HA2.out.below B3.out HA2.out.lt)
  obtain ⟨gb, hgb⟩ : ∃ b, Keep (b = w2.heap.size) := ⟨_, ⟨rfl⟩⟩
  rw [← hgb.out] at HB3 LA2 ⊢
  simp only [Act.put, List.setIfInBounds_toArray, List.set_cons_zero, List.set_cons_succ]
  refine WL.storeR (by kernel_rfl) 36 (.tmp 3) (.tmp 23) rfl ga (bytesA 32 hOne.f) rfl rfl 36 (bytesA 32 fun _ => 0) HA3.out (Try.size36B _) (bytesA_sizes _ _ _) (bytesA_one _ _) ?_
  have HA4 := Keep.mk (HA3.out.setRow (bytesA 32 hOne.f))
  have HB4 := Keep.mk (HB3.out.setRow_ne (b' := ga) (by have := LA2.out; omega) (bytesA 32 hOne.f))
  have B4 : Keep (Below w1.heap.size w1 (w3.setRow ga (bytesA 32 hOne.f))) := ⟨below_setRow (belowT B2.out B3.out) (by rw [hga.out]; exact Nat.le_refl _) _⟩
  generalize w3.setRow ga (bytesA 32 hOne.f) = w4 at *
  simp only [Act.put]
  refine WL.storeR (by kernel_rfl) 36 (.tmp 4) (.tmp 24) rfl gb (bytesA 32 hTwo.f) rfl rfl 36 (bytesA 32 fun _ => 0) HB4.out (Try.size36B _) (bytesA_sizes _ _ _) (bytesA_one _ _) ?_
  have HB5 := Keep.mk (HB4.out.setRow (bytesA 32 hTwo.f))
  have HA5 := Keep.mk (HA4.out.setRow_ne (b' := gb) (by have := LA2.out; omega) (bytesA 32 hTwo.f))
  have B5 : Keep (Below w1.heap.size w1 (w4.setRow gb (bytesA 32 hTwo.f))) := ⟨below_setRow B4.out (by rw [hgb.out]; exact B2.out.size) _⟩
  generalize w4.setRow gb (bytesA 32 hTwo.f) = w5 at *
  have HD5 := Keep.mk (HD1.out.below B5.out)
  have LB5 := Keep.mk (belowT LB1.out B5.out)
  have NA : Keep (∀ k, DgS d g k → k ≠ ga ∧ k ≠ gb) := ⟨fun k hk => by have := HD1.out.lt k hk; have := hga.out; have := hgb.out; have := B2.out.size; omega⟩
  clear HA2 HA3 HA4 HB3 HB4 B2 B3 B4 LA2
  simp only [Act.put]
  refine WL.nil ?_
  refine hK5 _ _ ?_
  refine wp_seq_k fun K6 hK6 => ?_
  refine wp_region_list (WL.out ?_)
  refine WL.val (by kernel_rfl) (ptr d) (by go_simp) ?_
  simp only [Act.put, List.setIfInBounds_toArray, List.set_cons_zero, List.set_cons_succ]
  refine WL.row (by kernel_rfl) 36 (.tmp 4) rfl gb rfl 36 (bytesA 32 hTwo.f) _ HB5.out Try.underlying36 rfl (Try.size36B _) ?_
  simp only [Act.put, List.setIfInBounds_toArray, List.set_cons_zero, List.set_cons_succ]
  refine WL.row (by kernel_rfl) 36 (.tmp 3) rfl ga rfl 36 (bytesA 32 hOne.f) _ HA5.out Try.underlying36 rfl (Try.size36B _) ?_
  simp only [Act.put, List.setIfInBounds_toArray, List.set_cons_zero, List.set_cons_succ]
  refine WL.bs (by kernel_rfl) 37 1 _ rfl #[(0, .agg (bytesA 32 hOne.f))] (by simp [Act.eval]) _ _ (bsH hOne w5) ?_
  have hrp := one_row hOne w5
  rw [encH_arr] at hrp
  have HRp := Keep.mk hrp
  have B6 := Keep.mk (below_new w5 (.cells (bytesA 32 hOne.f) 36))
  clear hrp
  generalize w5.alloc (.cells (bytesA 32 hOne.f) 36) = w6 at *
  have HD6 := Keep.mk (HD5.out.below B6.out)
  have HA6 := Keep.mk (HA5.out.below B6.out HA5.out.lt)
  have HB6 := Keep.mk (HB5.out.below B6.out HB5.out.lt)
  have LB6 := Keep.mk (belowT LB5.out B6.out)
  obtain ⟨gpp, hgpp⟩ : ∃ b, Keep (b = w5.heap.size) := ⟨_, ⟨rfl⟩⟩
  rw [← hgpp.out] at HRp ⊢
  clear B6 HD5 HA5 HB5 LB5
  simp only [Act.put, List.setIfInBounds_toArray, List.set_cons_zero, List.set_cons_succ]
  obtain ⟨vb, hvb⟩ : ∃ a : Array Value, Keep (a = vtx hTwo.f 2 (.slice (some ⟨gpp, 0, none⟩) 1 1)) := ⟨_, ⟨rfl⟩⟩
  refine WL.bld (by kernel_rfl) 39 _ rfl [(0, .agg (bytesA 32 hTwo.f)), (1, .int .i64 2), (2, .slice (some ⟨gpp, 0, none⟩) 1 1)] (by simp [Act.eval]) vb (by rw [hvb.out]; exact built_ps _ _ _ _ _) ?_
  simp only [Act.put, List.setIfInBounds_toArray, List.set_cons_zero, List.set_cons_succ]
  have had := add_waits d xB (.slice (some ⟨gpp, 0, none⟩) 1 1) _ g w6 HD6.out HRp.out (by rw [HGf.out.2.1]; intro v hv; cases hv) (by decide) (by decide) (by rw [HGf.out.2.1, HGf.out.2.2.1]; exact fitB) (by rw [HGf.out.2.2.1]; rfl) (by rw [HGf.out.2.2.2.2.2, HGf.out.1]; decide) (by rw [HGf.out.2.2.2.2.2]; decide)
  rw [show vtx xB.id.f xB.ck (.slice (some ⟨gpp, 0, none⟩) 1 1) = vb from hvb.out.symm] at had
  refine WL.callF (by kernel_rfl) 17 _ _ rfl Try.in17 #[ptr d, .agg vb] (by simp [Act.eval]) ?_
  refine (had).mono ?_
  rintro e w7 ⟨rfl, g7, hs, e1, e2, e3, e4, e5, e6⟩
  refine ⟨_, rfl, ?_⟩
  clear had
  rw [HGf.out.1] at e1
  rw [HGf.out.2.1] at e2
  rw [HGf.out.2.2.1, List.nil_append] at e3
  rw [HGf.out.2.2.2.2.2, List.nil_append] at e4
  rw [HGf.out.2.2.2.2.1] at e5
  rw [HGf.out.2.2.2.1] at e6
  have HS7 := Keep.mk hs
  have HG7 : Keep (g7.room = 1 ∧ g7.held = [] ∧ g7.wait = [xB] ∧ g7.queue = [xB.id] ∧ g7.order = [] ∧ g7.heads = []) := ⟨⟨e1, e2, e3, e4, e5, e6⟩⟩
  have HA7 := Keep.mk (hs.grown.blk HA6.out fun e => (NA.out _ e).1 rfl)
  have HB7 := Keep.mk (hs.grown.blk HB6.out fun e => (NA.out _ e).2 rfl)
  have NA7 : Keep (∀ k, DgS d g7 k → k ≠ ga ∧ k ≠ gb ∧ w.heap.size ≤ k) := ⟨fun k hk => (hs.sub k hk).elim (fun h => ⟨(NA.out k h).1, (NA.out k h).2, HN.out k h⟩) fun h => by have := HA6.out.lt; have := HB6.out.lt; have := LB6.out.size; omega⟩
  have LB7 : Keep (Below w.heap.size w w7) := ⟨LB6.out.trans (hs.grown.to_below (fun k hk e => by have := HN.out k e; omega) LB6.out.size)⟩
  clear hs e1 e2 e3 e4 e5 e6 HA6 HB6 LB6 HD6 HRp hvb
  simp only [Act.put, List.setIfInBounds_toArray, List.set_cons_zero, List.set_cons_succ]
  refine WL.val (by kernel_rfl) (.tuple #[.int .i64 3, .slice none 0 0, .int .i64 0]) (by go_simp) ?_
  simp only [Act.put, List.setIfInBounds_toArray, List.set_cons_zero, List.set_cons_succ]
  refine WL.val (by kernel_rfl) (.int .i64 3) (by go_simp) ?_
  simp only [Act.put, List.setIfInBounds_toArray, List.set_cons_zero, List.set_cons_succ]
  refine WL.val (by kernel_rfl) (.slice none 0 0) (by go_simp) ?_
  simp only [Act.put, List.setIfInBounds_toArray, List.set_cons_zero, List.set_cons_succ]
  refine WL.val (by kernel_rfl) (.int .i64 0) (by go_simp) ?_
  simp only [Act.put, List.setIfInBounds_toArray, List.set_cons_zero, List.set_cons_succ]
  refine WL.val (by kernel_rfl) (.int .i64 3) (by go_simp) ?_
  simp only [Act.put, List.setIfInBounds_toArray, List.set_cons_zero, List.set_cons_succ]
  refine WL.val (by kernel_rfl) (.slice none 0 0) (by go_simp) ?_
  simp only [Act.put, List.setIfInBounds_toArray, List.set_cons_zero, List.set_cons_succ]
  refine WL.val (by kernel_rfl) (.int .i64 0) (by go_simp) ?_
  simp only [Act.put, List.setIfInBounds_toArray, List.set_cons_zero, List.set_cons_succ]
  refine WL.nil ?_
  refine hK6 _ _ ?_
  refine wp_seq_k fun K7 hK7 => ?_
  refine wp_region_list (WL.out ?_)
  refine WL.val (by kernel_rfl) (ptr d) (by go_simp) ?_
  simp only [Act.put, List.setIfInBounds_toArray, List.set_cons_zero, List.set_cons_succ]
  refine WL.row (by kernel_rfl) 36 (.tmp 3) rfl ga rfl 36 (bytesA 32 hOne.f) _ HA7.out Try.underlying36 rfl (Try.size36B _) ?_
  simp only [Act.put, List.setIfInBounds_toArray, List.set_cons_zero, List.set_cons_succ]
  obtain ⟨va, hva⟩ : ∃ a : Array Value, Keep (a = vtx hOne.f 1 (.slice none 0 0)) := ⟨_, ⟨rfl⟩⟩
  refine WL.bld (by kernel_rfl) 39 _ rfl [(0, .agg (bytesA 32 hOne.f)), (1, .int .i64 1)] (by simp [Act.eval]) va (by rw [hva.out]; exact built_none _ _) ?_
  simp only [Act.put, List.setIfInBounds_toArray, List.set_cons_zero, List.set_cons_succ]
  have had := add_took d xA (.slice none 0 0) _ g7 w7 (fun g' => g'.held = [xA] ∧ g'.wait = [xB] ∧ g'.queue = [xB.id]) HS7.out.at' (.inl ⟨none, 0, rfl, rfl, fun _ => rfl⟩) (by rw [HG7.out.2.1]; intro v hv; cases hv) (by decide) (by decide) (by rw [HG7.out.2.1, HG7.out.2.2.1]; exact fitA) (fun w1 p1 h1 h2 h3 => (take_nil d xA p1 _ g7 w1 h1 h2 h3 HG7.out.2.1 HG7.out.2.2.2.2.1 HG7.out.2.2.2.2.2).mono fun e w' ⟨k1, g', k2, k3, k4, k5, k6, k7, k8⟩ => ⟨k1, g', k2, by rw [k4, HG7.out.2.1]; rfl, by rw [k5, HG7.out.2.2.1], by rw [k6, HG7.out.2.2.2.1]⟩)
  rw [show vtx xA.id.f xA.ck (.slice none 0 0) = va from hva.out.symm] at had
  refine WL.callF (by kernel_rfl) 17 _ _ rfl Try.in17 #[ptr d, .agg va] (by simp [Act.eval]) ?_
  refine (had).mono ?_
  rintro e w8 ⟨rfl, g8, hs, e1, e2, e3⟩
  refine ⟨_, rfl, ?_⟩
  clear had
  have HD8 := Keep.mk hs.at'
  have HG8 : Keep (g8.held = [xA] ∧ g8.wait = [xB] ∧ g8.queue = [xB.id]) := ⟨⟨e1, e2, e3⟩⟩
  have HB8 := Keep.mk (hs.grown.blk HB7.out fun e => (NA7.out _ e).2.1 rfl)
  have LB8 : Keep (Below w.heap.size w w8) := ⟨LB7.out.trans (hs.grown.to_below (fun k hk e => by have := (NA7.out k e).2.2; omega) LB7.out.size)⟩
  clear hs e1 e2 e3 HA7 HB7 LB7 HS7 hva
  simp only [Act.put, List.setIfInBounds_toArray, List.set_cons_zero, List.set_cons_succ]
  refine WL.val (by kernel_rfl) (.tuple #[.int .i64 2, .slice none 0 0, .int .i64 0]) (by go_simp) ?_
  simp only [Act.put, List.setIfInBounds_toArray, List.set_cons_zero, List.set_cons_succ]
  refine WL.val (by kernel_rfl) (.int .i64 2) (by go_simp) ?_
  simp only [Act.put, List.setIfInBounds_toArray, List.set_cons_zero, List.set_cons_succ]
  refine WL.val (by kernel_rfl) (.slice none 0 0) (by go_simp) ?_
  simp only [Act.put, List.setIfInBounds_toArray, List.set_cons_zero, List.set_cons_succ]
  refine WL.val (by kernel_rfl) (.int .i64 0) (by go_simp) ?_
  simp only [Act.put, List.setIfInBounds_toArray, List.set_cons_zero, List.set_cons_succ]
  refine WL.val (by kernel_rfl) (.int .i64 2) (by go_simp) ?_
  simp only [Act.put, List.setIfInBounds_toArray, List.set_cons_zero, List.set_cons_succ]
  refine WL.val (by kernel_rfl) (.slice none 0 0) (by go_simp) ?_
  simp only [Act.put, List.setIfInBounds_toArray, List.set_cons_zero, List.set_cons_succ]
  refine WL.val (by kernel_rfl) (.int .i64 0) (by go_simp) ?_
  simp only [Act.put, List.setIfInBounds_toArray, List.set_cons_zero, List.set_cons_succ]
  refine WL.nil ?_
  refine hK7 _ _ ?_
  refine wp_seq_k fun K8 hK8 => ?_
  refine wp_region_list (WL.out ?_)
  refine WL.val (by kernel_rfl) (ptr d) (by go_simp) ?_
  simp only [Act.put, List.setIfInBounds_toArray, List.set_cons_zero, List.set_cons_succ]
  have hnx := next_first d xB [] _ g8 w8 HD8.out HG8.out.2.2 (by rw [HG8.out.2.1]; exact findB) (by rw [HG8.out.1]; exact allB) (by decide)
  refine WL.callF (by kernel_rfl) 35 _ _ rfl Try.in35 #[ptr d] (by simp [Act.eval]) ?_
  refine (hnx).mono ?_
  rintro e w9 ⟨a9, n9, c9, rfl, hb⟩
  refine ⟨_, rfl, ?_⟩
  clear hnx
  have HD9 := Keep.mk (HD8.out.below hb)
  have HB9 := Keep.mk (HB8.out.below hb HB8.out.lt)
  have LB9 := Keep.mk (belowT LB8.out hb)
  obtain ⟨vn, hvn⟩ : ∃ a : Array Value, Keep (a = vtx xB.id.f xB.ck (.slice a9 n9 c9)) := ⟨_, ⟨rfl⟩⟩
  rw [← hvn.out]
  clear hb HD8 HB8 LB8
  simp only [Act.put, List.setIfInBounds_toArray, List.set_cons_zero, List.set_cons_succ]
  refine WL.val (by kernel_rfl) (.tuple #[.agg vn, .bool true]) (by go_simp) ?_
  simp only [Act.put, List.setIfInBounds_toArray, List.set_cons_zero, List.set_cons_succ]
  refine WL.val (by kernel_rfl) (.agg vn) (by go_simp) ?_
  simp only [Act.put, List.setIfInBounds_toArray, List.set_cons_zero, List.set_cons_succ]
  refine WL.val (by kernel_rfl) (.bool true) (by go_simp) ?_
  simp only [Act.put, List.setIfInBounds_toArray, List.set_cons_zero, List.set_cons_succ]
  refine WL.new (by kernel_rfl) 39 rfl _ Try.new39 ?_
  obtain ⟨vz, hvz⟩ : ∃ a : Array Value, Keep (a = vtx (fun _ => 0) 0 (.slice none 0 0)) := ⟨_, ⟨rfl⟩⟩
  rw [← hvz.out]
  have HN10 := Keep.mk (Blk.new w9 39 vz)
  have B10 := Keep.mk (below_new w9 (.cells vz 39))
  generalize w9.alloc (.cells vz 39) = w10 at *
  obtain ⟨gn, hgn⟩ : ∃ b, Keep (b = w9.heap.size) := ⟨_, ⟨rfl⟩⟩
  rw [← hgn.out] at HN10 ⊢
  simp only [Act.put, List.setIfInBounds_toArray, List.set_cons_zero, List.set_cons_succ]
  refine WL.storeR (by kernel_rfl) 39 (.tmp 11) (.tmp 46) rfl gn vn rfl rfl 39 vz HN10.out (by rw [hvn.out]; exact Try.info39s _ _ _) (by rw [hvn.out, hvz.out, vtx_size, vtx_size]) (by rw [hvn.out]; exact vtx_one _ _ _ (slice_one _ _ _)) ?_
  have HN11 := Keep.mk (HN10.out.setRow vn)
  have B11 : Keep (Below w9.heap.size w9 (w10.setRow gn vn)) := ⟨below_setRow B10.out (by rw [hgn.out]; exact Nat.le_refl _) vn⟩
  generalize w10.setRow gn vn = w11 at *
  have HD11 := Keep.mk (HD9.out.below B11.out)
  have HB11 := Keep.mk (HB9.out.below B11.out HB9.out.lt)
  have LB11 := Keep.mk (belowT LB9.out B11.out)
  clear HN10 B10 HD9 HB9 LB9
  simp only [Act.put]
  refine WL.val (by kernel_rfl) (.bool true) (by go_simp) ?_
  simp only [Act.put, List.setIfInBounds_toArray, List.set_cons_zero, List.set_cons_succ]
  refine WL.nil ?_
  refine hK8 _ _ ?_
  refine wp_seq_k fun K9 hK9 => ?_
  refine wp_region_list (WL.out ?_)
  refine WL.val (by kernel_rfl) (.int .i64 3) (by go_simp) ?_
  simp only [Act.put, List.setIfInBounds_toArray, List.set_cons_zero, List.set_cons_succ]
  refine WL.val (by kernel_rfl) (.bool true) (by go_simp) ?_
  simp only [Act.put, List.setIfInBounds_toArray, List.set_cons_zero, List.set_cons_succ]
  refine WL.val (by kernel_rfl) (.bool true) (by go_simp) ?_
  simp only [Act.put, List.setIfInBounds_toArray, List.set_cons_zero, List.set_cons_succ]
  refine WL.val (by kernel_rfl) (.int .i64 0) (by go_simp) ?_
  simp only [Act.put, List.setIfInBounds_toArray, List.set_cons_zero, List.set_cons_succ]
  refine WL.val (by kernel_rfl) (.bool true) (by go_simp) ?_
  simp only [Act.put, List.setIfInBounds_toArray, List.set_cons_zero, List.set_cons_succ]
  refine WL.val (by kernel_rfl) (.bool true) (by go_simp) ?_
  simp only [Act.put, List.setIfInBounds_toArray, List.set_cons_zero, List.set_cons_succ]
  refine WL.val (by kernel_rfl) (.bool true) (by go_simp) ?_
  simp only [Act.put, List.setIfInBounds_toArray, List.set_cons_zero, List.set_cons_succ]
  refine WL.val (by kernel_rfl) (.int .i64 2) (by go_simp) ?_
  simp only [Act.put, List.setIfInBounds_toArray, List.set_cons_zero, List.set_cons_succ]
  refine WL.val (by kernel_rfl) (.bool true) (by go_simp) ?_
  simp only [Act.put, List.setIfInBounds_toArray, List.set_cons_zero, List.set_cons_succ]
  refine WL.val (by kernel_rfl) (.bool true) (by go_simp) ?_
  simp only [Act.put, List.setIfInBounds_toArray, List.set_cons_zero, List.set_cons_succ]
  refine WL.val (by kernel_rfl) (.bool true) (by go_simp) ?_
  simp only [Act.put, List.setIfInBounds_toArray, List.set_cons_zero, List.set_cons_succ]
  refine WL.val (by kernel_rfl) (.int .i64 0) (by go_simp) ?_
  simp only [Act.put, List.setIfInBounds_toArray, List.set_cons_zero, List.set_cons_succ]
  refine WL.val (by kernel_rfl) (.bool true) (by go_simp) ?_
  simp only [Act.put, List.setIfInBounds_toArray, List.set_cons_zero, List.set_cons_succ]
  refine WL.val (by kernel_rfl) (.bool true) (by go_simp) ?_
  simp only [Act.put, List.setIfInBounds_toArray, List.set_cons_zero, List.set_cons_succ]
  refine WL.val (by kernel_rfl) (.bool true) (by go_simp) ?_
  simp only [Act.put, List.setIfInBounds_toArray, List.set_cons_zero, List.set_cons_succ]
  refine WL.val (by kernel_rfl) (.bool true) (by go_simp) ?_
  simp only [Act.put, List.setIfInBounds_toArray, List.set_cons_zero, List.set_cons_succ]
  refine WL.val (by kernel_rfl) (.bool true) (by go_simp) ?_
  simp only [Act.put, List.setIfInBounds_toArray, List.set_cons_zero, List.set_cons_succ]
  refine WL.val (by kernel_rfl) (.bool true) (by go_simp) ?_
  simp only [Act.put, List.setIfInBounds_toArray, List.set_cons_zero, List.set_cons_succ]
  refine WL.val (by kernel_rfl) (.pointer (some ⟨gn, 0, none⟩)) (by go_simp) ?_
  simp only [Act.put, List.setIfInBounds_toArray, List.set_cons_zero, List.set_cons_succ]
  refine WL.midA (by kernel_rfl) 36 (.tmp 66) rfl gn 0 rfl (bytesA 32 hTwo.f) _ (vtx_rng (hvn.out ▸ HN11.out)) Try.underlying36 rfl (Try.size36B _) ?_
  simp only [Act.put, List.setIfInBounds_toArray, List.set_cons_zero, List.set_cons_succ]
  refine WL.row (by kernel_rfl) 36 (.tmp 4) rfl gb rfl 36 (bytesA 32 hTwo.f) _ HB11.out Try.underlying36 rfl (Try.size36B _) ?_
  simp only [Act.put, List.setIfInBounds_toArray, List.set_cons_zero, List.set_cons_succ]
  refine WL.val (by kernel_rfl) (.bool true) (by go_simp; rw [run_equal_arr2, all_eq_iff, decide_eq_true rfl]; rfl) ?_
  simp only [Act.put, List.setIfInBounds_toArray, List.set_cons_zero, List.set_cons_succ]
  refine WL.val (by kernel_rfl) (.bool true) (by go_simp) ?_
  simp only [Act.put, List.setIfInBounds_toArray, List.set_cons_zero, List.set_cons_succ]
  refine WL.val (by kernel_rfl) (.bool true) (by go_simp) ?_
  simp only [Act.put, List.setIfInBounds_toArray, List.set_cons_zero, List.set_cons_succ]
  refine WL.val (by kernel_rfl) (ptr d) (by go_simp) ?_
  simp only [Act.put, List.setIfInBounds_toArray, List.set_cons_zero, List.set_cons_succ]
  have hln := dlen_any d _ g8 w11 HD11.out
  rw [HG8.out.1] at hln
  refine WL.callF (by kernel_rfl) 36 _ _ rfl Try.in36 #[ptr d] (by simp [Act.eval]) ?_
  refine (hln).mono ?_
  rintro e w12 ⟨rfl, hz⟩
  refine ⟨_, rfl, ?_⟩
  clear hln
  subst hz
  simp only [Act.put, List.setIfInBounds_toArray, List.set_cons_zero, List.set_cons_succ]
  refine WL.val (by kernel_rfl) (.bool true) (by go_simp) ?_
  simp only [Act.put, List.setIfInBounds_toArray, List.set_cons_zero, List.set_cons_succ]
  refine WL.val (by kernel_rfl) (.bool true) (by go_simp) ?_
  simp only [Act.put, List.setIfInBounds_toArray, List.set_cons_zero, List.set_cons_succ]
  refine WL.val (by kernel_rfl) (.bool true) (by go_simp) ?_
  simp only [Act.put, List.setIfInBounds_toArray, List.set_cons_zero, List.set_cons_succ]
  refine WL.nil ?_
  refine hK9 _ _ ?_
  refine wp_ret ?_
  go_ret
  exact ⟨rfl, LB11.out⟩
theorem dnames_any (w : World) : Calls Try.prog 3 #[] w fun e w' => e = .returned (.bool true) ∧ Below w.heap.size w w' := by
  go_enter Try.func3, Try.ntmps3
  refine wp_seq_k fun K1 hK1 => ?_
  refine wp_region_list (WL.out ?_)
  refine WL.val (by kernel_rfl) (.bool false) (by go_simp) ?_
  simp only [Act.put, List.setIfInBounds_toArray, List.set_cons_zero, List.set_cons_succ]
  refine WL.nil ?_
  refine hK1 _ _ ?_
  refine wp_seq_k fun K2 hK2 => ?_
  refine wp_region_list (WL.out ?_)
  refine WL.val (by kernel_rfl) (.bool true) (by go_simp) ?_
  simp only [Act.put, List.setIfInBounds_toArray, List.set_cons_zero, List.set_cons_succ]
  refine WL.nil ?_
  refine hK2 _ _ ?_
  refine wp_seq_k fun K3 hK3 => ?_
  refine wp_region_list (WL.out ?_)
  refine WL.val (by kernel_rfl) (.bool true) (by go_simp) ?_
  simp only [Act.put, List.setIfInBounds_toArray, List.set_cons_zero, List.set_cons_succ]
  refine WL.nil ?_
  refine hK3 _ _ ?_
  refine wp_seq_k fun K4 hK4 => ?_
  refine wp_region_list (WL.out ?_)
  refine WL.val (by kernel_rfl) (.bool true) (by go_simp) ?_
  simp only [Act.put, List.setIfInBounds_toArray, List.set_cons_zero, List.set_cons_succ]
  refine WL.val (by kernel_rfl) (.bool true) (by go_simp) ?_
  simp only [Act.put, List.setIfInBounds_toArray, List.set_cons_zero, List.set_cons_succ]
  refine WL.val (by kernel_rfl) (.bool true) (by go_simp) ?_
  simp only [Act.put, List.setIfInBounds_toArray, List.set_cons_zero, List.set_cons_succ]
  refine WL.val (by kernel_rfl) (.bool true) (by go_simp) ?_
  simp only [Act.put, List.setIfInBounds_toArray, List.set_cons_zero, List.set_cons_succ]
  refine WL.val (by kernel_rfl) (.bool true) (by go_simp) ?_
  simp only [Act.put, List.setIfInBounds_toArray, List.set_cons_zero, List.set_cons_succ]
  refine WL.val (by kernel_rfl) (.bool true) (by go_simp) ?_
  simp only [Act.put, List.setIfInBounds_toArray, List.set_cons_zero, List.set_cons_succ]
  refine WL.val (by kernel_rfl) (.bool true) (by go_simp) ?_
  simp only [Act.put, List.setIfInBounds_toArray, List.set_cons_zero, List.set_cons_succ]
  refine WL.val (by kernel_rfl) (.bool true) (by go_simp) ?_
  simp only [Act.put, List.setIfInBounds_toArray, List.set_cons_zero, List.set_cons_succ]
  refine WL.val (by kernel_rfl) (.bool true) (by go_simp) ?_
  simp only [Act.put, List.setIfInBounds_toArray, List.set_cons_zero, List.set_cons_succ]
  refine WL.val (by kernel_rfl) (.bool true) (by go_simp) ?_
  simp only [Act.put, List.setIfInBounds_toArray, List.set_cons_zero, List.set_cons_succ]
  refine WL.val (by kernel_rfl) (.bool true) (by go_simp) ?_
  simp only [Act.put, List.setIfInBounds_toArray, List.set_cons_zero, List.set_cons_succ]
  refine WL.callF (by kernel_rfl) 9 _ _ rfl Try.in9 #[] (by simp) ?_
  refine (fixed_any w).mono ?_
  rintro e w1 ⟨rfl, hb⟩
  refine ⟨_, rfl, ?_⟩
  have LB1 := Keep.mk hb
  clear hb
  simp only [Act.put, List.setIfInBounds_toArray, List.set_cons_zero, List.set_cons_succ]
  refine WL.val (by kernel_rfl) (.bool true) (by go_simp) ?_
  simp only [Act.put, List.setIfInBounds_toArray, List.set_cons_zero, List.set_cons_succ]
  refine WL.val (by kernel_rfl) (.bool true) (by go_simp) ?_
  simp only [Act.put, List.setIfInBounds_toArray, List.set_cons_zero, List.set_cons_succ]
  refine WL.nil ?_
  refine hK4 _ _ ?_
  refine wp_ret ?_
  go_ret
  exact ⟨rfl, LB1.out⟩
end Go.Proofs.Ytogmdfhicbmplaa
