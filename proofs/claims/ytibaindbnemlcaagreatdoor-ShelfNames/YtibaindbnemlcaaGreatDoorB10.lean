import Derived.Test.YtibaindbnemlcaaGreatDoorB09
namespace Go.Proofs.YtibaindbnemlcaaGreatDoor
open Go.RowKit
set_option linter.unusedSimpArgs false
set_option linter.unusedVariables false
theorem Tryz.in7 (w : World) (vs : Array Value) : (callFunc 7 vs).run Tryz.prog w = .ok (.enter 7 vs) w := by kernel_rfl
theorem Tryz.in16 (w : World) (vs : Array Value) : (callFunc 16 vs).run Tryz.prog w = .ok (.enter 16 vs) w := by kernel_rfl
theorem Tryz.in4 (w : World) (vs : Array Value) : (callFunc 4 vs).run Tryz.prog w = .ok (.enter 4 vs) w := by kernel_rfl
theorem Tryz.in3 (w : World) (vs : Array Value) : (callFunc 3 vs).run Tryz.prog w = .ok (.enter 3 vs) w := by kernel_rfl
theorem Tryz.in8 (w : World) (vs : Array Value) : (callFunc 8 vs).run Tryz.prog w = .ok (.enter 8 vs) w := by kernel_rfl
def ErrT (w : World) : Prop := w.cell? ⟨0, 0, none⟩ = some (.iface 110 (.agg #[.pointer (some ⟨1, 29, none⟩)]))
theorem ErrT.lt {w : World} (h : ErrT w) : 0 < w.heap.size := cell_lt h
theorem ErrT.below {w w' : World} {B : Nat} (h : ErrT w) (hb : Below B w w') (h0 : 0 < B) : ErrT w' := by
  unfold ErrT
  rw [hb.cell (p := ⟨0, 0, none⟩) h0]
  exact h
theorem ErrT.grown {w w' : World} {S : Nat → Prop} (h : ErrT w) (hg : Grown w w' S) (hs : ¬ S 0) : ErrT w' := hg.cell h hs
theorem as_hit2 (g t : Nat) (w : World) (hg : ErrT w) (ht : Blk w t 64 #[.pointer none]) :
    Calls Tryz.prog 16 #[.iface 64 (ptr g), .iface 66 (ptr t)] w fun ev w' => ev = .returned (.bool true) ∧ Blk w' t 64 #[ptr g] ∧ Grown w w' fun k => k = t := by
  refine (as_hit ⟨g, 0, none⟩ ⟨t, 0, none⟩ (.pointer none) w hg (by rw [ht.cell]; rfl) (ht.frozen 0)).mono ?_
  rintro e w' ⟨rfl, rfl⟩
  refine ⟨rfl, ?_, ?_⟩
  · have h := ((((ht.alloc (.cells #[.pointer (some ⟨t, 0, none⟩)] 66)).alloc (.cells #[.pointer (some ⟨1, 66, none⟩), .pointer (some ⟨w.heap.size, 0, none⟩), .int .u64 150] 88)).alloc (.cells #[.pointer (some ⟨1, 66, none⟩), .pointer (some ⟨w.heap.size, 0, none⟩), .int .u64 150] 88)).alloc (.cells #[.pointer (some ⟨g, 0, none⟩)] 64)).set 0 (ptr g)
    exact h
  · refine Grown.next ?_ (Grown.setCell _ t 0 _ (S := fun k => k = t) fun _ => rfl) fun _ _ h => h
    exact (((Grown.alloc w _ _).next (Grown.alloc _ _ fun _ => False) fun _ _ h => h.elim).next (Grown.alloc _ _ fun _ => False) fun _ _ h => h.elim).next (Grown.alloc _ _ fun _ => False) fun _ _ h => h.elim
theorem Tryz.new34 (w : World) : (Instr.alloc 34 true (.tuple #[])).run Tryz.prog w = .ok (.pointer (some ⟨w.heap.size, 0, none⟩)) (w.alloc (.cells #[.int .i64 0, .int .i64 0] 34)) := by kernel_rfl
theorem Tryz.new64 (w : World) : (Instr.alloc 64 true (.tuple #[])).run Tryz.prog w = .ok (.pointer (some ⟨w.heap.size, 0, none⟩)) (w.alloc (.cells #[.pointer none] 64)) := by kernel_rfl
theorem yieldsIf_bld34 {ops : Array Oper} {S : World → Prop} {op : Oper} {a : Act} (hw : Region.wanted op (yielded ops a.tmps) = true) (v : Value) (hr : ∀ w : World, (execOp a.eval op).run Tryz.prog w = .ok (.value v) w) : YieldsIf Tryz.prog ops S op v a := .inl ⟨hw, fun w _ => hr w⟩
theorem bsB5 (w : World) : (Instr.buildSlice 32 5 #[(0, .int .u8 1), (1, .int .u8 1), (2, .int .u8 1), (3, .int .u8 0), (4, .int .u8 0)]).run Tryz.prog w = .ok (.slice (some ⟨w.heap.size, 0, none⟩) 5 5) (w.alloc (.cells #[.int .u8 1, .int .u8 1, .int .u8 1, .int .u8 0, .int .u8 0] 5)) := by kernel_rfl
theorem row_l0 (w : World) : RowAt (w.alloc (.cells #[.int .u8 1, .int .u8 1, .int .u8 1, .int .u8 0, .int .u8 0] 5)) (.slice (some ⟨w.heap.size, 0, none⟩) 5 5) [1, 1, 1, 0, 0] := by
  have h := Blk.new w 5 #[.int .u8 1, .int .u8 1, .int .u8 1, .int .u8 0, .int .u8 0]
  refine .inr (.inr ⟨w.heap.size, 0, 5, rfl, Nat.le_refl _, fun i hi => ?_⟩)
  rw [Nat.zero_add]
  match i, hi with
  | 0, _ => exact h.c 0 rfl
  | 1, _ => exact h.c 1 rfl
  | 2, _ => exact h.c 2 rfl
  | 3, _ => exact h.c 3 rfl
  | 4, _ => exact h.c 4 rfl
theorem hb_new {w : World} {s d mb : Nat} {g : DG} {Av : Nat → Prop} (h : ShAt w s d mb g Av) {b : Nat} (hb : b = w.heap.size) : b ≠ s ∧ b ≠ mb ∧ ¬ DgS d g b := by
  obtain ⟨es, ck, hm⟩ := h.mp
  have h1 := h.bl.lt
  have h2 := (Array.getElem?_eq_some_iff.1 hm).1
  exact ⟨by omega, by omega, fun e => by have := h.dg.lt b (h.dg.av b e); omega⟩
set_option maxRecDepth 8000 in
theorem told_20 (q : Nat) (w : World) (HB : Keep (Blk w q 68 #[.int .i64 20, .int .i64 0])) (HE : Keep (ErrT w)) : Calls Tryz.prog 7 #[.iface 64 (ptr q)] w fun e w' => e = .returned (.tuple #[.agg #[.int .i64 20, .int .i64 0], .bool true]) ∧ Below w.heap.size w w' := by
  go_enter Tryz.func7, Tryz.ntmps7
  refine wp_seq_k fun K1 hK1 => ?_
  refine wp_region_list (WL.out ?_)
  refine WL.new (by kernel_rfl) 34 rfl _ Tryz.new34 ?_
  have H2 := Keep.mk (Blk.new w 34 #[.int .i64 0, .int .i64 0])
  have b_b2 := Keep.mk (below_new w (.cells #[.int .i64 0, .int .i64 0] 34))
  generalize w.alloc (.cells #[.int .i64 0, .int .i64 0] 34) = w1 at *
  obtain ⟨b2, hb2⟩ : ∃ z, Keep (z = w.heap.size) := ⟨_, ⟨rfl⟩⟩
  rw [← hb2.out] at H2 ⊢
  simp only [Act.put, List.setIfInBounds_toArray, List.set_cons_zero, List.set_cons_succ]
  refine WL.val (by kernel_rfl) (.bool false) (by go_simp) ?_
  simp only [Act.put, List.setIfInBounds_toArray, List.set_cons_zero, List.set_cons_succ]
  refine WL.nil ?_
  refine hK1 _ _ ?_
  refine wp_seq_k fun K2 hK2 => ?_
  refine wp_seq_k fun K3 hK3 => ?_
  refine wp_region_list (WL.out ?_)
  refine WL.val (by kernel_rfl) (.iface 64 (ptr q)) (by go_simp) ?_
  simp only [Act.put, List.setIfInBounds_toArray, List.set_cons_zero, List.set_cons_succ]
  refine WL.val (by kernel_rfl) (.bool false) (by go_simp) ?_
  simp only [Act.put, List.setIfInBounds_toArray, List.set_cons_zero, List.set_cons_succ]
  refine WL.nil ?_
  refine hK3 _ _ ?_
  refine wp_cond_false rfl ?_
  refine wp_skip ?_
  refine hK2 _ _ ?_
  refine wp_seq_k fun K4 hK4 => ?_
  refine wp_region_list (WL.out ?_)
  refine WL.new (by kernel_rfl) 64 rfl _ Tryz.new64 ?_
  have H4 := Keep.mk (Blk.new w1 64 #[.pointer none])
  have b_b4 := Keep.mk (below_new w1 (.cells #[.pointer none] 64))
  generalize w1.alloc (.cells #[.pointer none] 64) = w2 at *
  obtain ⟨b4, hb4⟩ : ∃ z, Keep (z = w1.heap.size) := ⟨_, ⟨rfl⟩⟩
  rw [← hb4.out] at H4 ⊢
  have H22 := Keep.mk (H2.out.below b_b4.out H2.out.lt)
  have B2 : Keep (Below w.heap.size w w2) := ⟨b_b2.out.trans (b_b4.out.mono b_b2.out.size)⟩
  have HE2 : Keep (ErrT w2) := ⟨HE.out.below B2.out HE.out.lt⟩
  have HB2 : Keep (Blk w2 q 68 #[.int .i64 20, .int .i64 0]) := ⟨HB.out.below B2.out HB.out.lt⟩
  have LT : Keep (w.heap.size ≤ b2 ∧ b2 < b4 ∧ q < w.heap.size) := ⟨by have h1 := hb2.out; have h2 := hb4.out; have h3 := H2.out.lt; have h4 := HB.out.lt; exact ⟨by omega, by omega, h4⟩⟩
  clear H2 b_b2 b_b4
  simp only [Act.put, List.setIfInBounds_toArray, List.set_cons_zero, List.set_cons_succ]
  refine WL.nil ?_
  refine hK4 _ _ ?_
  refine wp_seq_k fun K5 hK5 => ?_
  refine wp_region_list (WL.out ?_)
  refine WL.val (by kernel_rfl) (.iface 64 (ptr q)) (by go_simp) ?_
  simp only [Act.put, List.setIfInBounds_toArray, List.set_cons_zero, List.set_cons_succ]
  refine WL.val (by kernel_rfl) (.iface 66 (.pointer (some ⟨b4, 0, none⟩))) (by go_simp) ?_
  simp only [Act.put, List.setIfInBounds_toArray, List.set_cons_zero, List.set_cons_succ]
  refine WL.callF (by kernel_rfl) 16 _ _ rfl Tryz.in16 #[.iface 64 (ptr q), .iface 66 (.pointer (some ⟨b4, 0, none⟩))] (by simp [Act.eval]) ?_
  refine (as_hit2 q b4 w2 HE2.out H4.out).mono ?_
  rintro e w3 ⟨rfl, k1, k2⟩
  refine ⟨_, rfl, ?_⟩
  have H43 := Keep.mk k1
  have H23 := Keep.mk (k2.blk H22.out (by have := LT.out; omega))
  have HB3 := Keep.mk (k2.blk HB2.out (by have := LT.out; omega))
  have B3 : Keep (Below w.heap.size w w3) := ⟨B2.out.trans (k2.to_below (fun k hk e => by have := LT.out; omega) B2.out.size)⟩
  have c4 := H43.out.c 0 (rfl : _ = some (ptr q))
  have cq0 := HB3.out.c 0 (rfl : _ = some (Value.int .i64 20))
  have cq1 := HB3.out.c 1 (rfl : _ = some (Value.int .i64 0))
  clear k1 k2
  simp only [Act.put, List.setIfInBounds_toArray, List.set_cons_zero, List.set_cons_succ]
  refine WL.val (by kernel_rfl) (.bool true) (by go_simp) ?_
  simp only [Act.put, List.setIfInBounds_toArray, List.set_cons_zero, List.set_cons_succ]
  refine WL.nil ?_
  refine hK5 _ _ ?_
  refine wp_seq_k fun K6 hK6 => ?_
  refine wp_seq_k fun K7 hK7 => ?_
  refine wp_region_list (WL.out ?_)
  refine WL.val (by kernel_rfl) (.bool true) (by go_simp) ?_
  simp only [Act.put, List.setIfInBounds_toArray, List.set_cons_zero, List.set_cons_succ]
  refine WL.val (by kernel_rfl) (.bool false) (by go_simp) ?_
  simp only [Act.put, List.setIfInBounds_toArray, List.set_cons_zero, List.set_cons_succ]
  refine WL.val (by kernel_rfl) (.bool false) (by go_simp) ?_
  simp only [Act.put, List.setIfInBounds_toArray, List.set_cons_zero, List.set_cons_succ]
  refine WL.val (by kernel_rfl) (.pointer (some ⟨q, 0, none⟩)) (by go_simp) ?_
  simp only [Act.put, List.setIfInBounds_toArray, List.set_cons_zero, List.set_cons_succ]
  refine WL.val (by kernel_rfl) (.bool false) (by go_simp) ?_
  simp only [Act.put, List.setIfInBounds_toArray, List.set_cons_zero, List.set_cons_succ]
  refine WL.val (by kernel_rfl) (.bool false) (by go_simp) ?_
  simp only [Act.put, List.setIfInBounds_toArray, List.set_cons_zero, List.set_cons_succ]
  refine WL.val (by kernel_rfl) (.bool false) (by go_simp) ?_
  simp only [Act.put, List.setIfInBounds_toArray, List.set_cons_zero, List.set_cons_succ]
  refine WL.val (by kernel_rfl) (.pointer (some ⟨q, 0, none⟩)) (by go_simp) ?_
  simp only [Act.put, List.setIfInBounds_toArray, List.set_cons_zero, List.set_cons_succ]
  refine WL.val (by kernel_rfl) (.pointer (some ⟨q, 0, none⟩)) (by go_simp) ?_
  simp only [Act.put, List.setIfInBounds_toArray, List.set_cons_zero, List.set_cons_succ]
  refine WL.val (by kernel_rfl) (.pointer (some ⟨q, 0, none⟩)) (by go_simp) ?_
  simp only [Act.put, List.setIfInBounds_toArray, List.set_cons_zero, List.set_cons_succ]
  refine WL.val (by kernel_rfl) (.int .i64 20) (by go_simp) ?_
  simp only [Act.put, List.setIfInBounds_toArray, List.set_cons_zero, List.set_cons_succ]
  refine WL.val (by kernel_rfl) (.bool false) (by go_simp) ?_
  simp only [Act.put, List.setIfInBounds_toArray, List.set_cons_zero, List.set_cons_succ]
  refine WL.val (by kernel_rfl) (.bool false) (by go_simp) ?_
  simp only [Act.put, List.setIfInBounds_toArray, List.set_cons_zero, List.set_cons_succ]
  refine WL.nil ?_
  refine hK7 _ _ ?_
  refine wp_cond_false rfl ?_
  refine wp_skip ?_
  refine hK6 _ _ ?_
  refine wp_seq_k fun K8 hK8 => ?_
  clear c4 cq0 cq1
  refine wp_region_held_drew (S := fun wx => wx.cell? ⟨b4, 0, none⟩ = some (.pointer (some ⟨q, 0, none⟩)) ∧ wx.cell? ⟨q, 0, none⟩ = some (.int .i64 20) ∧ wx.cell? ⟨q, 1, none⟩ = some (.int .i64 0)) (by kernel_rfl) (⟨H43.out.drew.c 0 rfl, HB3.out.drew.c 0 rfl, HB3.out.drew.c 1 rfl⟩) (fun hHeld => ?_)
  have H24 := Keep.mk H23.out.drew
  have H44 := Keep.mk H43.out.drew
  have HB4 := Keep.mk HB3.out.drew
  have B4 : Keep (Below w.heap.size w w3.drew) := ⟨B3.out.drew⟩
  clear H23 H43 HB3 B3
  generalize w3.drew = w4 at *
  refine wpAnyH_take (i := 0) (oi := ⟨some 26, Op.load 64 (Operand.tmp 4), 64, _, _, none⟩) (v := .pointer (some ⟨q, 0, none⟩)) rfl (by kernel_rfl) (by kernel_rfl) (by kernel_rfl) (fun _ _ _ h => h) (Or.inl ⟨by rfl, fun w hS => by have c4 := hS.1; have cq0 := hS.2.1; have cq1 := hS.2.2; go_simp⟩) hHeld ?_
  simp only [Act.put, List.setIfInBounds_toArray, List.set_cons_zero, List.set_cons_succ]
  refine wpAnyH_take (i := 1) (oi := ⟨some 27, Op.nilCheck (Operand.tmp 26), 0, _, _, none⟩) (v := .pointer (some ⟨q, 0, none⟩)) rfl (by kernel_rfl) (by kernel_rfl) (by kernel_rfl) (fun _ _ _ h => h) (Or.inl ⟨by rfl, fun w hS => by have c4 := hS.1; have cq0 := hS.2.1; have cq1 := hS.2.2; go_simp⟩) hHeld ?_
  simp only [Act.put, List.setIfInBounds_toArray, List.set_cons_zero, List.set_cons_succ]
  refine wpAnyH_take (i := 2) (oi := ⟨some 28, Op.fieldAddr 68 (Operand.tmp 27) 0, 0, _, _, none⟩) (v := .pointer (some ⟨q, 0, none⟩)) rfl (by kernel_rfl) (by kernel_rfl) (by kernel_rfl) (fun _ _ _ h => h) (Or.inl ⟨by rfl, fun w hS => by have c4 := hS.1; have cq0 := hS.2.1; have cq1 := hS.2.2; go_simp⟩) hHeld ?_
  simp only [Act.put, List.setIfInBounds_toArray, List.set_cons_zero, List.set_cons_succ]
  refine wpAnyH_take (i := 3) (oi := ⟨some 29, Op.load 43 (Operand.tmp 28), 43, _, _, none⟩) (v := .int .i64 20) rfl (by kernel_rfl) (by kernel_rfl) (by kernel_rfl) (fun _ _ _ h => h) (Or.inl ⟨by rfl, fun w hS => by have c4 := hS.1; have cq0 := hS.2.1; have cq1 := hS.2.2; go_simp⟩) hHeld ?_
  simp only [Act.put, List.setIfInBounds_toArray, List.set_cons_zero, List.set_cons_succ]
  refine wpAnyH_take (i := 4) (oi := ⟨some 30, Op.load 64 (Operand.tmp 4), 64, _, _, none⟩) (v := .pointer (some ⟨q, 0, none⟩)) rfl (by kernel_rfl) (by kernel_rfl) (by kernel_rfl) (fun _ _ _ h => h) (Or.inl ⟨by rfl, fun w hS => by have c4 := hS.1; have cq0 := hS.2.1; have cq1 := hS.2.2; go_simp⟩) hHeld ?_
  simp only [Act.put, List.setIfInBounds_toArray, List.set_cons_zero, List.set_cons_succ]
  refine wpAnyH_take (i := 5) (oi := ⟨some 31, Op.nilCheck (Operand.tmp 30), 0, _, _, none⟩) (v := .pointer (some ⟨q, 0, none⟩)) rfl (by kernel_rfl) (by kernel_rfl) (by kernel_rfl) (fun _ _ _ h => h) (Or.inl ⟨by rfl, fun w hS => by have c4 := hS.1; have cq0 := hS.2.1; have cq1 := hS.2.2; go_simp⟩) hHeld ?_
  simp only [Act.put, List.setIfInBounds_toArray, List.set_cons_zero, List.set_cons_succ]
  refine wpAnyH_take (i := 6) (oi := ⟨some 32, Op.fieldAddr 68 (Operand.tmp 31) 1, 0, _, _, none⟩) (v := .pointer (some ⟨q, 1, none⟩)) rfl (by kernel_rfl) (by kernel_rfl) (by kernel_rfl) (fun _ _ _ h => h) (Or.inl ⟨by rfl, fun w hS => by have c4 := hS.1; have cq0 := hS.2.1; have cq1 := hS.2.2; go_simp⟩) hHeld ?_
  simp only [Act.put, List.setIfInBounds_toArray, List.set_cons_zero, List.set_cons_succ]
  refine wpAnyH_take (i := 7) (oi := ⟨some 33, Op.load 3 (Operand.tmp 32), 3, _, _, none⟩) (v := .int .i64 0) rfl (by kernel_rfl) (by kernel_rfl) (by kernel_rfl) (fun _ _ _ h => h) (Or.inl ⟨by rfl, fun w hS => by have c4 := hS.1; have cq0 := hS.2.1; have cq1 := hS.2.2; go_simp⟩) hHeld ?_
  simp only [Act.put, List.setIfInBounds_toArray, List.set_cons_zero, List.set_cons_succ]
  refine wpAnyH_take (i := 8) (oi := ⟨some 34, Op.build 34 #[(0, Operand.tmp 29), (1, Operand.tmp 33)], 34, _, _, none⟩) (v := .agg #[.int .i64 20, .int .i64 0]) rfl (by kernel_rfl) (by kernel_rfl) (by kernel_rfl) (fun _ _ _ h => h) (yieldsIf_bld34 (by rfl) _ fun w => by kernel_rfl) hHeld ?_
  simp only [Act.put, List.setIfInBounds_toArray, List.set_cons_zero, List.set_cons_succ]
  refine wpAnyH_ready (rs := [9]) (by kernel_rfl) (by simp) ?_
  refine AllReadyH.cons (o := ⟨none, Op.store 34 (Operand.tmp 2) (Operand.tmp 34), 0, _, _, none⟩) rfl (fun K hK => ?_) AllReadyH.nil
  rw [if_pos (by rfl)]
  refine wp_store_row 34 (.tmp 2) (.tmp 34) rfl b2 #[.int .i64 20, .int .i64 0] rfl rfl 34 #[.int .i64 0, .int .i64 0] H24.out (by kernel_rfl) rfl (by simp [Value.oneCell']) ?_
  have H25 := Keep.mk (H24.out.setRow #[.int .i64 20, .int .i64 0])
  have g5 : Keep (Grown w4 (w4.setRow b2 #[.int .i64 20, .int .i64 0]) fun k => k = b2) := ⟨Grown.setRow w4 b2 _ fun _ => rfl⟩
  have H45 := Keep.mk (g5.out.blk H44.out (by have := LT.out; omega))
  have HB5 := Keep.mk (g5.out.blk HB4.out (by have := LT.out; omega))
  generalize w4.setRow b2 #[.int .i64 20, .int .i64 0] = w5 at *
  refine hK _ _ ⟨H45.out.c 0 rfl, HB5.out.c 0 rfl, HB5.out.c 1 rfl⟩ fun hHa => ?_
  clear hK
  simp only [Act.put, List.setIfInBounds_toArray, List.set_cons_zero, List.set_cons_succ]
  refine wpAnyH_take (i := 10) (oi := ⟨some 3, Op.assign (Operand.const (Value.bool true)), 4, _, _, none⟩) (v := .bool true) rfl (by kernel_rfl) (by kernel_rfl) (by kernel_rfl) (fun _ _ _ h => h) (Or.inl ⟨by rfl, fun w hS => by have c4 := hS.1; have cq0 := hS.2.1; have cq1 := hS.2.2; go_simp⟩) hHa ?_
  simp only [Act.put, List.setIfInBounds_toArray, List.set_cons_zero, List.set_cons_succ]
  refine wpAnyH_done (by kernel_rfl) ?_ _
  refine hK8 _ _ ?_
  refine wp_ret ?_
  try simp only [Exit.inBlock, Exit.then]
  exact bodyPost_ret (Nd.results_cell_row2 Tryz.results7 _ _ b2 34 _ (0, 0) _ _ rfl rfl H25.out Tryz.underlying34 rfl (by kernel_rfl)) rfl ⟨rfl, B4.out.trans (g5.out.to_below (fun k hk e => by have := LT.out; omega) B4.out.size)⟩
set_option maxRecDepth 8000 in
theorem len_any_ (s d mb : Nat) (g : DG) (Av : Nat → Prop) (w : World) (HS : Keep (ShAt w s d mb g Av)) : Calls Tryz.prog 8 #[.pointer (some ⟨s, 0, none⟩)] w fun e w' => e = .returned (.int .i64 (g.held.length : Int)) ∧ w' = w := by
  go_enter Tryz.func8, Tryz.ntmps8
  refine wp_seq_k fun K1 hK1 => ?_
  refine wp_region_list (WL.out ?_)
  refine WL.val (by kernel_rfl) (.int .i64 0) (by go_simp) ?_
  simp only [Act.put, List.setIfInBounds_toArray, List.set_cons_zero, List.set_cons_succ]
  refine WL.nil ?_
  refine hK1 _ _ ?_
  refine wp_seq_k fun K2 hK2 => ?_
  refine wp_region_list (WL.out ?_)
  refine WL.val (by kernel_rfl) (.pointer (some ⟨s, 0, none⟩)) (by go_simp) ?_
  simp only [Act.put, List.setIfInBounds_toArray, List.set_cons_zero, List.set_cons_succ]
  refine WL.val (by kernel_rfl) (.pointer (some ⟨s, 0, none⟩)) (by go_simp) ?_
  simp only [Act.put, List.setIfInBounds_toArray, List.set_cons_zero, List.set_cons_succ]
  refine WL.val (by kernel_rfl) (.pointer (some ⟨s, 1, none⟩)) (by go_simp) ?_
  simp only [Act.put, List.setIfInBounds_toArray, List.set_cons_zero, List.set_cons_succ]
  have cs := HS.out.bl.c 1 rfl
  refine WL.val (by kernel_rfl) (.pointer (some ⟨d, 0, none⟩)) (by go_simp) ?_
  clear cs
  simp only [Act.put, List.setIfInBounds_toArray, List.set_cons_zero, List.set_cons_succ]
  refine WL.callF (by kernel_rfl) 17 _ _ rfl Tryz.in17 #[.pointer (some ⟨d, 0, none⟩)] (by simp [Act.eval]) ?_
  refine (dlen_any d Av g w HS.out.dg).mono ?_
  rintro e w1 ⟨rfl, hw_⟩
  refine ⟨_, rfl, ?_⟩
  have hw_ := hw_.symm
  subst hw_
  simp only [Act.put, List.setIfInBounds_toArray, List.set_cons_zero, List.set_cons_succ]
  refine WL.val (by kernel_rfl) (.int .i64 (g.held.length : Int)) (by go_simp) ?_
  simp only [Act.put, List.setIfInBounds_toArray, List.set_cons_zero, List.set_cons_succ]
  refine WL.nil ?_
  refine hK2 _ _ ?_
  refine wp_ret ?_
  go_ret
  exact ⟨rfl, rfl⟩
theorem len_1 (s d mb : Nat) (g : DG) (Av : Nat → Prop) (w : World) (HS : Keep (ShAt w s d mb g Av)) (h : g.held = [⟨x0, 1, []⟩]) : Calls Tryz.prog 8 #[.pointer (some ⟨s, 0, none⟩)] w fun e w' => e = .returned (.int .i64 1) ∧ w' = w := by
  have h2 := len_any_ s d mb g Av w HS
  rw [h] at h2
  exact h2
set_option maxRecDepth 8000 in
set_option maxHeartbeats 2000000 in
theorem fixed_any (w : World) (HE : Keep (ErrT w)) : Calls Tryz.prog 4 #[] w fun e w' => e = .returned (.bool true) ∧ Below w.heap.size w w' := by
  go_enter Tryz.func4, Tryz.ntmps4
  refine wp_seq_k fun K1 hK1 => ?_
  refine wp_region_list (WL.out ?_)
  refine WL.val (by kernel_rfl) (.bool false) (by go_simp) ?_
  simp only [Act.put, List.setIfInBounds_toArray, List.set_cons_zero, List.set_cons_succ]
  refine WL.nil ?_
  refine hK1 _ _ ?_
  refine wp_seq_k fun K2 hK2 => ?_
  refine wp_region_list (WL.out ?_)
  refine WL.callF (by kernel_rfl) 5 _ _ rfl Tryz.in5 #[.nilIface] (by simp [Act.eval]) ?_
  refine (new_shelf w).mono ?_
  rintro e w1 ⟨s, d, mb, g, Av, rfl, k1, k2, k3, k4, k5, k6, k7, k8, k9⟩
  refine ⟨_, rfl, ?_⟩
  have HS1 := Keep.mk k1
  have HM1 := Keep.mk k2
  have Hg := Keep.mk (And.intro k3 (And.intro k4 (And.intro k5 (And.intro k6 k7))))
  have HF := Keep.mk k8
  have B1 := Keep.mk k9
  clear k1 k2 k3 k4 k5 k6 k7 k8 k9
  simp only [Act.put, List.setIfInBounds_toArray, List.set_cons_zero, List.set_cons_succ]
  refine WL.val (by kernel_rfl) (.pointer (some ⟨s, 0, none⟩)) (by go_simp) ?_
  simp only [Act.put, List.setIfInBounds_toArray, List.set_cons_zero, List.set_cons_succ]
  refine WL.nil ?_
  refine hK2 _ _ ?_
  refine wp_seq_k fun K3 hK3 => ?_
  refine wp_seq_k fun K4 hK4 => ?_
  refine wp_region_list (WL.out ?_)
  refine WL.val (by kernel_rfl) (.pointer (some ⟨s, 0, none⟩)) (by go_simp) ?_
  simp only [Act.put, List.setIfInBounds_toArray, List.set_cons_zero, List.set_cons_succ]
  refine WL.val (by kernel_rfl) (.bool false) (by go_simp) ?_
  simp only [Act.put, List.setIfInBounds_toArray, List.set_cons_zero, List.set_cons_succ]
  refine WL.nil ?_
  refine hK4 _ _ ?_
  refine wp_cond_false rfl ?_
  refine wp_skip ?_
  refine hK3 _ _ ?_
  refine wp_seq_k fun K5 hK5 => ?_
  refine wp_region_list (WL.out ?_)
  refine WL.val (by kernel_rfl) (.pointer (some ⟨s, 0, none⟩)) (by go_simp) ?_
  simp only [Act.put, List.setIfInBounds_toArray, List.set_cons_zero, List.set_cons_succ]
  refine WL.bs (by kernel_rfl) 32 5 _ rfl #[(0, .int .u8 1), (1, .int .u8 1), (2, .int .u8 1), (3, .int .u8 0), (4, .int .u8 0)] (by simp [Act.eval]) _ _ (bsB5 w1) ?_
  have HR2 : Keep (RowAt (w1.alloc (.cells #[.int .u8 1, .int .u8 1, .int .u8 1, .int .u8 0, .int .u8 0] 5)) (.slice (some ⟨w1.heap.size, 0, none⟩) 5 5) [1, 1, 1, 0, 0]) := ⟨row_l0 w1⟩
  have b_ := below_new w1 (.cells #[.int .u8 1, .int .u8 1, .int .u8 1, .int .u8 0, .int .u8 0] 5)
  have HS2 := Keep.mk (HS1.out.below b_)
  have HM2 : Keep ((w1.alloc (.cells #[.int .u8 1, .int .u8 1, .int .u8 1, .int .u8 0, .int .u8 0] 5)).heap[mb]? = some (.map #[] 0)) := ⟨by rw [b_.block mb (Array.getElem?_eq_some_iff.1 HM1.out).1]; exact HM1.out⟩
  have B2 := Keep.mk (B1.out.trans (b_.mono B1.out.size))
  clear HS1 HM1 B1
  clear b_
  generalize w1.alloc (.cells #[.int .u8 1, .int .u8 1, .int .u8 1, .int .u8 0, .int .u8 0] 5) = w2 at *
  generalize w1.heap.size = ga at *
  simp only [Act.put, List.setIfInBounds_toArray, List.set_cons_zero, List.set_cons_succ]
  refine WL.callF (by kernel_rfl) 6 _ _ rfl Tryz.in6 #[.pointer (some ⟨s, 0, none⟩), .slice (some ⟨ga, 0, none⟩) 5 5] (by simp [Act.eval]) ?_
  refine (take_took s d mb g Av w2 HS2 ⟨ga, 0, none⟩ 5 HR2 HM2 Hg).mono ?_
  rintro e w3 ⟨gx, rfl, g', Av', k1, k2, k3, k4, k5⟩
  refine ⟨_, rfl, ?_⟩
  have HS3 := Keep.mk k1
  have HG3 := Keep.mk (And.intro k2 k3)
  have B3 : Keep (Below w.heap.size w w3) := ⟨B2.out.trans (k5.to_below (fun k hk e => by have := HF.out k (.inr e); omega) B2.out.size)⟩
  clear k1 k2 k3 k4 k5 HS2 HM2 Hg B2 HR2 HF
  simp only [Act.put, List.setIfInBounds_toArray, List.set_cons_zero, List.set_cons_succ]
  refine WL.val (by kernel_rfl) (.tuple #[.agg #[.int .i64 2, .slice (some ⟨gx, 0, none⟩) 1 1, .slice none 0 0], .nilIface]) (by go_simp) ?_
  simp only [Act.put, List.setIfInBounds_toArray, List.set_cons_zero, List.set_cons_succ]
  refine WL.val (by kernel_rfl) (.agg #[.int .i64 2, .slice (some ⟨gx, 0, none⟩) 1 1, .slice none 0 0]) (by go_simp) ?_
  simp only [Act.put, List.setIfInBounds_toArray, List.set_cons_zero, List.set_cons_succ]
  refine WL.val (by kernel_rfl) (.nilIface) (by go_simp) ?_
  simp only [Act.put, List.setIfInBounds_toArray, List.set_cons_zero, List.set_cons_succ]
  refine WL.new (by kernel_rfl) 27 rfl _ Tryz.new27 ?_
  have T5z := Keep.mk (Blk.new w3 27 #[.int .i64 0, .slice none 0 0, .slice none 0 0])
  have b_b2 := Keep.mk (below_new w3 (.cells #[.int .i64 0, .slice none 0 0, .slice none 0 0] 27))
  generalize w3.alloc (.cells #[.int .i64 0, .slice none 0 0, .slice none 0 0] 27) = w4 at *
  obtain ⟨b2, hb2⟩ : ∃ z, Keep (z = w3.heap.size) := ⟨_, ⟨rfl⟩⟩
  rw [← hb2.out] at T5z ⊢
  have HS4 := Keep.mk (HS3.out.below b_b2.out)
  simp only [Act.put, List.setIfInBounds_toArray, List.set_cons_zero, List.set_cons_succ]
  refine WL.storeR (by kernel_rfl) 27 (.tmp 2) (.tmp 17) rfl b2 #[.int .i64 2, .slice (some ⟨gx, 0, none⟩) 1 1, .slice none 0 0] rfl rfl 27 #[.int .i64 0, .slice none 0 0, .slice none 0 0] T5z.out (by kernel_rfl) rfl (by simp [Value.oneCell']) ?_
  have T5 := Keep.mk (T5z.out.setRow #[.int .i64 2, .slice (some ⟨gx, 0, none⟩) 1 1, .slice none 0 0])
  have g_w5 : Keep (Grown w4 (w4.setRow b2 #[.int .i64 2, .slice (some ⟨gx, 0, none⟩) 1 1, .slice none 0 0]) fun k => k = b2) := ⟨Grown.setRow w4 b2 _ fun _ => rfl⟩
  clear T5z
  generalize w4.setRow b2 #[.int .i64 2, .slice (some ⟨gx, 0, none⟩) 1 1, .slice none 0 0] = w5 at *
  have HS5 := Keep.mk (HS4.out.keep1 HG3.out.1 HG3.out.2 g_w5.out fun k e => by subst e; exact hb_new HS3.out hb2.out)
  have B5 : Keep (Below w.heap.size w w5) := ⟨B3.out.trans ((b_b2.out.mono B3.out.size).trans (g_w5.out.to_below (fun k hk e => by have h1 := hb2.out; have h2 := B3.out.size; omega) (Nat.le_trans B3.out.size b_b2.out.size)))⟩
  clear HS3 HS4 b_b2 g_w5 B3 hb2
  simp only [Act.put]
  refine WL.val (by kernel_rfl) (.nilIface) (by go_simp) ?_
  simp only [Act.put, List.setIfInBounds_toArray, List.set_cons_zero, List.set_cons_succ]
  refine WL.nil ?_
  refine hK5 _ _ ?_
  refine wp_seq_k fun K6 hK6 => ?_
  refine wp_region_list (WL.out ?_)
  refine WL.val (by kernel_rfl) (.pointer (some ⟨s, 0, none⟩)) (by go_simp) ?_
  simp only [Act.put, List.setIfInBounds_toArray, List.set_cons_zero, List.set_cons_succ]
  refine WL.callF (by kernel_rfl) 6 _ _ rfl Tryz.in6 #[.pointer (some ⟨s, 0, none⟩), .slice none 0 0] (by simp [Act.eval]) ?_
  refine (take_nil_ s d mb g' Av' w5 HS5).mono ?_
  rintro e w6 ⟨q, rfl, hq, hb⟩
  refine ⟨_, rfl, ?_⟩
  have HQ6 : Keep (Blk w6 q 68 #[.int .i64 20, .int .i64 0]) := ⟨hq⟩
  have HS6 := Keep.mk (HS5.out.below hb)
  have T6 := Keep.mk (T5.out.below hb T5.out.lt)
  have B6 : Keep (Below w.heap.size w w6) := ⟨B5.out.trans (hb.mono B5.out.size)⟩
  clear hq hb HS5 T5 B5
  simp only [Act.put, List.setIfInBounds_toArray, List.set_cons_zero, List.set_cons_succ]
  refine WL.val (by kernel_rfl) (.tuple #[.agg #[.int .i64 0, .slice none 0 0, .slice none 0 0], .iface 64 (ptr q)]) (by go_simp) ?_
  simp only [Act.put, List.setIfInBounds_toArray, List.set_cons_zero, List.set_cons_succ]
  refine WL.val (by kernel_rfl) (.agg #[.int .i64 0, .slice none 0 0, .slice none 0 0]) (by go_simp) ?_
  simp only [Act.put, List.setIfInBounds_toArray, List.set_cons_zero, List.set_cons_succ]
  refine WL.val (by kernel_rfl) (.iface 64 (ptr q)) (by go_simp) ?_
  simp only [Act.put, List.setIfInBounds_toArray, List.set_cons_zero, List.set_cons_succ]
  refine WL.new (by kernel_rfl) 27 rfl _ Tryz.new27 ?_
  have Z8z := Keep.mk (Blk.new w6 27 #[.int .i64 0, .slice none 0 0, .slice none 0 0])
  have b_b4 := Keep.mk (below_new w6 (.cells #[.int .i64 0, .slice none 0 0, .slice none 0 0] 27))
  generalize w6.alloc (.cells #[.int .i64 0, .slice none 0 0, .slice none 0 0] 27) = w7 at *
  obtain ⟨b4, hb4⟩ : ∃ z, Keep (z = w6.heap.size) := ⟨_, ⟨rfl⟩⟩
  rw [← hb4.out] at Z8z ⊢
  have HS7 := Keep.mk (HS6.out.below b_b4.out)
  simp only [Act.put, List.setIfInBounds_toArray, List.set_cons_zero, List.set_cons_succ]
  refine WL.storeR (by kernel_rfl) 27 (.tmp 4) (.tmp 22) rfl b4 #[.int .i64 0, .slice none 0 0, .slice none 0 0] rfl rfl 27 #[.int .i64 0, .slice none 0 0, .slice none 0 0] Z8z.out (by kernel_rfl) rfl (by simp [Value.oneCell']) ?_
  have Z8 := Keep.mk (Z8z.out.setRow #[.int .i64 0, .slice none 0 0, .slice none 0 0])
  have g_w8 : Keep (Grown w7 (w7.setRow b4 #[.int .i64 0, .slice none 0 0, .slice none 0 0]) fun k => k = b4) := ⟨Grown.setRow w7 b4 _ fun _ => rfl⟩
  clear Z8z
  generalize w7.setRow b4 #[.int .i64 0, .slice none 0 0, .slice none 0 0] = w8 at *
  have HS8 := Keep.mk (HS7.out.keep1 HG3.out.1 HG3.out.2 g_w8.out fun k e => by subst e; exact hb_new HS6.out hb4.out)
  have B8 : Keep (Below w6.heap.size w6 w8) := ⟨b_b4.out.trans (g_w8.out.to_below (fun k hk e => by have h1 := hb4.out; omega) b_b4.out.size)⟩
  have T8 := Keep.mk (T6.out.below B8.out T6.out.lt)
  have HQ8 := Keep.mk (HQ6.out.below B8.out HQ6.out.lt)
  have B8 : Keep (Below w.heap.size w w8) := ⟨B6.out.trans (B8.out.mono B6.out.size)⟩
  clear HS6 HS7 b_b4 g_w8 B6 hb4 T6 HQ6 Z8
  simp only [Act.put]
  refine WL.val (by kernel_rfl) (.iface 64 (ptr q)) (by go_simp) ?_
  simp only [Act.put, List.setIfInBounds_toArray, List.set_cons_zero, List.set_cons_succ]
  refine WL.nil ?_
  refine hK6 _ _ ?_
  refine wp_seq_k fun K7 hK7 => ?_
  refine wp_region_list (WL.out ?_)
  refine WL.val (by kernel_rfl) (.pointer (some ⟨s, 0, none⟩)) (by go_simp) ?_
  simp only [Act.put, List.setIfInBounds_toArray, List.set_cons_zero, List.set_cons_succ]
  refine WL.bs (by kernel_rfl) 32 5 _ rfl #[(0, .int .u8 1), (1, .int .u8 1), (2, .int .u8 1), (3, .int .u8 0), (4, .int .u8 0)] (by simp [Act.eval]) _ _ (bsB5 w8) ?_
  have HR9 : Keep (RowAt (w8.alloc (.cells #[.int .u8 1, .int .u8 1, .int .u8 1, .int .u8 0, .int .u8 0] 5)) (.slice (some ⟨w8.heap.size, 0, none⟩) 5 5) [1, 1, 1, 0, 0]) := ⟨row_l0 w8⟩
  have b_ := below_new w8 (.cells #[.int .u8 1, .int .u8 1, .int .u8 1, .int .u8 0, .int .u8 0] 5)
  have HS9 := Keep.mk (HS8.out.below b_)
  have T9 := Keep.mk (T8.out.below b_ T8.out.lt)
  have HQ9 := Keep.mk (HQ8.out.below b_ HQ8.out.lt)
  have B9 := Keep.mk (B8.out.trans (b_.mono B8.out.size))
  clear HS8 T8 HQ8 B8
  clear b_
  generalize w8.alloc (.cells #[.int .u8 1, .int .u8 1, .int .u8 1, .int .u8 0, .int .u8 0] 5) = w9 at *
  generalize w8.heap.size = gb at *
  simp only [Act.put, List.setIfInBounds_toArray, List.set_cons_zero, List.set_cons_succ]
  refine WL.callF (by kernel_rfl) 6 _ _ rfl Tryz.in6 #[.pointer (some ⟨s, 0, none⟩), .slice (some ⟨gb, 0, none⟩) 5 5] (by simp [Act.eval]) ?_
  refine (take_known s d mb g' Av' w9 HS9 ⟨gb, 0, none⟩ 5 HR9 ⟨by rw [HG3.out.1, HG3.out.2]; exact fit_again x0⟩ ⟨HG3.out.1⟩).mono ?_
  rintro e w10 ⟨rfl, hb⟩
  refine ⟨_, rfl, ?_⟩
  have HS10 := Keep.mk (HS9.out.below hb)
  have T10 := Keep.mk (T9.out.below hb T9.out.lt)
  have HQ10 := Keep.mk (HQ9.out.below hb HQ9.out.lt)
  have B10 : Keep (Below w.heap.size w w10) := ⟨B9.out.trans (hb.mono B9.out.size)⟩
  clear hb HS9 T9 HQ9 B9 HR9
  simp only [Act.put, List.setIfInBounds_toArray, List.set_cons_zero, List.set_cons_succ]
  refine WL.val (by kernel_rfl) (.tuple #[.agg #[.int .i64 1, .slice none 0 0, .slice none 0 0], .nilIface]) (by go_simp) ?_
  simp only [Act.put, List.setIfInBounds_toArray, List.set_cons_zero, List.set_cons_succ]
  refine WL.val (by kernel_rfl) (.agg #[.int .i64 1, .slice none 0 0, .slice none 0 0]) (by go_simp) ?_
  simp only [Act.put, List.setIfInBounds_toArray, List.set_cons_zero, List.set_cons_succ]
  refine WL.val (by kernel_rfl) (.nilIface) (by go_simp) ?_
  simp only [Act.put, List.setIfInBounds_toArray, List.set_cons_zero, List.set_cons_succ]
  refine WL.new (by kernel_rfl) 27 rfl _ Tryz.new27 ?_
  have U12z := Keep.mk (Blk.new w10 27 #[.int .i64 0, .slice none 0 0, .slice none 0 0])
  have b_b6 := Keep.mk (below_new w10 (.cells #[.int .i64 0, .slice none 0 0, .slice none 0 0] 27))
  generalize w10.alloc (.cells #[.int .i64 0, .slice none 0 0, .slice none 0 0] 27) = w11 at *
  obtain ⟨b6, hb6⟩ : ∃ z, Keep (z = w10.heap.size) := ⟨_, ⟨rfl⟩⟩
  rw [← hb6.out] at U12z ⊢
  have HS11 := Keep.mk (HS10.out.below b_b6.out)
  simp only [Act.put, List.setIfInBounds_toArray, List.set_cons_zero, List.set_cons_succ]
  refine WL.storeR (by kernel_rfl) 27 (.tmp 6) (.tmp 28) rfl b6 #[.int .i64 1, .slice none 0 0, .slice none 0 0] rfl rfl 27 #[.int .i64 0, .slice none 0 0, .slice none 0 0] U12z.out (by kernel_rfl) rfl (by simp [Value.oneCell']) ?_
  have U12 := Keep.mk (U12z.out.setRow #[.int .i64 1, .slice none 0 0, .slice none 0 0])
  have g_w12 : Keep (Grown w11 (w11.setRow b6 #[.int .i64 1, .slice none 0 0, .slice none 0 0]) fun k => k = b6) := ⟨Grown.setRow w11 b6 _ fun _ => rfl⟩
  clear U12z
  generalize w11.setRow b6 #[.int .i64 1, .slice none 0 0, .slice none 0 0] = w12 at *
  have HS12 := Keep.mk (HS11.out.keep1 HG3.out.1 HG3.out.2 g_w12.out fun k e => by subst e; exact hb_new HS10.out hb6.out)
  have B12 : Keep (Below w10.heap.size w10 w12) := ⟨b_b6.out.trans (g_w12.out.to_below (fun k hk e => by have h1 := hb6.out; omega) b_b6.out.size)⟩
  have T12 := Keep.mk (T10.out.below B12.out T10.out.lt)
  have HQ12 := Keep.mk (HQ10.out.below B12.out HQ10.out.lt)
  have B12 : Keep (Below w.heap.size w w12) := ⟨B10.out.trans (B12.out.mono B10.out.size)⟩
  clear HS10 HS11 b_b6 g_w12 B10 hb6 T10 HQ10
  simp only [Act.put]
  refine WL.val (by kernel_rfl) (.nilIface) (by go_simp) ?_
  simp only [Act.put, List.setIfInBounds_toArray, List.set_cons_zero, List.set_cons_succ]
  refine WL.nil ?_
  refine hK7 _ _ ?_
  refine wp_seq_k fun K8 hK8 => ?_
  refine wp_region_list (WL.out ?_)
  refine WL.val (by kernel_rfl) (.iface 64 (ptr q)) (by go_simp) ?_
  simp only [Act.put, List.setIfInBounds_toArray, List.set_cons_zero, List.set_cons_succ]
  refine WL.callF (by kernel_rfl) 7 _ _ rfl Tryz.in7 #[.iface 64 (ptr q)] (by simp [Act.eval]) ?_
  refine (told_20 q w12 HQ12 ⟨HE.out.below B12.out HE.out.lt⟩).mono ?_
  rintro e w13 ⟨rfl, hb⟩
  refine ⟨_, rfl, ?_⟩
  have HS13 := Keep.mk (HS12.out.below hb)
  have T13 := Keep.mk (T12.out.below hb T12.out.lt)
  have U13 := Keep.mk (U12.out.below hb U12.out.lt)
  have B13 : Keep (Below w.heap.size w w13) := ⟨B12.out.trans (hb.mono B12.out.size)⟩
  clear hb HS12 T12 U12 B12 HQ12
  simp only [Act.put, List.setIfInBounds_toArray, List.set_cons_zero, List.set_cons_succ]
  refine WL.val (by kernel_rfl) (.tuple #[.agg #[.int .i64 20, .int .i64 0], .bool true]) (by go_simp) ?_
  simp only [Act.put, List.setIfInBounds_toArray, List.set_cons_zero, List.set_cons_succ]
  refine WL.val (by kernel_rfl) (.agg #[.int .i64 20, .int .i64 0]) (by go_simp) ?_
  simp only [Act.put, List.setIfInBounds_toArray, List.set_cons_zero, List.set_cons_succ]
  refine WL.val (by kernel_rfl) (.bool true) (by go_simp) ?_
  simp only [Act.put, List.setIfInBounds_toArray, List.set_cons_zero, List.set_cons_succ]
  refine WL.new (by kernel_rfl) 34 rfl _ Tryz.new34 ?_
  have E14z := Keep.mk (Blk.new w13 34 #[.int .i64 0, .int .i64 0])
  have b_b8 := Keep.mk (below_new w13 (.cells #[.int .i64 0, .int .i64 0] 34))
  generalize w13.alloc (.cells #[.int .i64 0, .int .i64 0] 34) = w14 at *
  obtain ⟨b8, hb8⟩ : ∃ z, Keep (z = w13.heap.size) := ⟨_, ⟨rfl⟩⟩
  rw [← hb8.out] at E14z ⊢
  have HS14 := Keep.mk (HS13.out.below b_b8.out)
  simp only [Act.put, List.setIfInBounds_toArray, List.set_cons_zero, List.set_cons_succ]
  refine WL.storeR (by kernel_rfl) 34 (.tmp 8) (.tmp 33) rfl b8 #[.int .i64 20, .int .i64 0] rfl rfl 34 #[.int .i64 0, .int .i64 0] E14z.out (by kernel_rfl) rfl (by simp [Value.oneCell']) ?_
  have E15 := Keep.mk (E14z.out.setRow #[.int .i64 20, .int .i64 0])
  have g_w15 : Keep (Grown w14 (w14.setRow b8 #[.int .i64 20, .int .i64 0]) fun k => k = b8) := ⟨Grown.setRow w14 b8 _ fun _ => rfl⟩
  clear E14z
  generalize w14.setRow b8 #[.int .i64 20, .int .i64 0] = w15 at *
  have HS15 := Keep.mk (HS14.out.keep1 HG3.out.1 HG3.out.2 g_w15.out fun k e => by subst e; exact hb_new HS13.out hb8.out)
  have B15a : Keep (Below w13.heap.size w13 w15) := ⟨b_b8.out.trans (g_w15.out.to_below (fun k hk e => by have h1 := hb8.out; omega) b_b8.out.size)⟩
  have T15 := Keep.mk (T13.out.below B15a.out T13.out.lt)
  have U15 := Keep.mk (U13.out.below B15a.out U13.out.lt)
  have B15 : Keep (Below w.heap.size w w15) := ⟨B13.out.trans (B15a.out.mono B13.out.size)⟩
  have ct0 := T15.out.c 0 (rfl : _ = some (Value.int .i64 2))
  have ct1 := T15.out.c 1 (rfl : _ = some (Value.slice (some ⟨gx, 0, none⟩) 1 1))
  have cu0 := U15.out.c 0 (rfl : _ = some (Value.int .i64 1))
  have ce0 := E15.out.c 0 (rfl : _ = some (Value.int .i64 20))
  simp only [Act.put]
  refine WL.val (by kernel_rfl) (.bool true) (by go_simp) ?_
  simp only [Act.put, List.setIfInBounds_toArray, List.set_cons_zero, List.set_cons_succ]
  refine WL.nil ?_
  refine hK8 _ _ ?_
  refine wp_seq_k fun K9 hK9 => ?_
  refine wp_region_list (WL.out ?_)
  refine WL.val (by kernel_rfl) (.nilIface) (by go_simp) ?_
  simp only [Act.put, List.setIfInBounds_toArray, List.set_cons_zero, List.set_cons_succ]
  refine WL.val (by kernel_rfl) (.bool true) (by go_simp) ?_
  simp only [Act.put, List.setIfInBounds_toArray, List.set_cons_zero, List.set_cons_succ]
  refine WL.val (by kernel_rfl) (.bool true) (by go_simp) ?_
  simp only [Act.put, List.setIfInBounds_toArray, List.set_cons_zero, List.set_cons_succ]
  refine WL.val (by kernel_rfl) (.pointer (some ⟨b2, 0, none⟩)) (by go_simp) ?_
  simp only [Act.put, List.setIfInBounds_toArray, List.set_cons_zero, List.set_cons_succ]
  refine WL.val (by kernel_rfl) (.int .i64 2) (by go_simp) ?_
  simp only [Act.put, List.setIfInBounds_toArray, List.set_cons_zero, List.set_cons_succ]
  refine WL.val (by kernel_rfl) (.bool true) (by go_simp) ?_
  simp only [Act.put, List.setIfInBounds_toArray, List.set_cons_zero, List.set_cons_succ]
  refine WL.val (by kernel_rfl) (.bool true) (by go_simp) ?_
  simp only [Act.put, List.setIfInBounds_toArray, List.set_cons_zero, List.set_cons_succ]
  refine WL.val (by kernel_rfl) (.bool true) (by go_simp) ?_
  simp only [Act.put, List.setIfInBounds_toArray, List.set_cons_zero, List.set_cons_succ]
  refine WL.val (by kernel_rfl) (.pointer (some ⟨b2, 1, none⟩)) (by go_simp) ?_
  simp only [Act.put, List.setIfInBounds_toArray, List.set_cons_zero, List.set_cons_succ]
  refine WL.val (by kernel_rfl) (.slice (some ⟨gx, 0, none⟩) 1 1) (by go_simp) ?_
  simp only [Act.put, List.setIfInBounds_toArray, List.set_cons_zero, List.set_cons_succ]
  refine WL.val (by kernel_rfl) (.int .i64 1) (by go_simp) ?_
  simp only [Act.put, List.setIfInBounds_toArray, List.set_cons_zero, List.set_cons_succ]
  refine WL.val (by kernel_rfl) (.bool true) (by go_simp) ?_
  simp only [Act.put, List.setIfInBounds_toArray, List.set_cons_zero, List.set_cons_succ]
  refine WL.val (by kernel_rfl) (.bool true) (by go_simp) ?_
  simp only [Act.put, List.setIfInBounds_toArray, List.set_cons_zero, List.set_cons_succ]
  refine WL.val (by kernel_rfl) (.bool true) (by go_simp) ?_
  simp only [Act.put, List.setIfInBounds_toArray, List.set_cons_zero, List.set_cons_succ]
  refine WL.val (by kernel_rfl) (.bool true) (by go_simp) ?_
  simp only [Act.put, List.setIfInBounds_toArray, List.set_cons_zero, List.set_cons_succ]
  refine WL.val (by kernel_rfl) (.bool true) (by go_simp) ?_
  simp only [Act.put, List.setIfInBounds_toArray, List.set_cons_zero, List.set_cons_succ]
  refine WL.val (by kernel_rfl) (.bool true) (by go_simp) ?_
  simp only [Act.put, List.setIfInBounds_toArray, List.set_cons_zero, List.set_cons_succ]
  refine WL.val (by kernel_rfl) (.pointer (some ⟨b8, 0, none⟩)) (by go_simp) ?_
  simp only [Act.put, List.setIfInBounds_toArray, List.set_cons_zero, List.set_cons_succ]
  refine WL.val (by kernel_rfl) (.int .i64 20) (by go_simp) ?_
  simp only [Act.put, List.setIfInBounds_toArray, List.set_cons_zero, List.set_cons_succ]
  refine WL.val (by kernel_rfl) (.bool true) (by go_simp) ?_
  simp only [Act.put, List.setIfInBounds_toArray, List.set_cons_zero, List.set_cons_succ]
  refine WL.val (by kernel_rfl) (.bool true) (by go_simp) ?_
  simp only [Act.put, List.setIfInBounds_toArray, List.set_cons_zero, List.set_cons_succ]
  refine WL.val (by kernel_rfl) (.bool true) (by go_simp) ?_
  simp only [Act.put, List.setIfInBounds_toArray, List.set_cons_zero, List.set_cons_succ]
  refine WL.val (by kernel_rfl) (.nilIface) (by go_simp) ?_
  simp only [Act.put, List.setIfInBounds_toArray, List.set_cons_zero, List.set_cons_succ]
  refine WL.val (by kernel_rfl) (.bool true) (by go_simp) ?_
  simp only [Act.put, List.setIfInBounds_toArray, List.set_cons_zero, List.set_cons_succ]
  refine WL.val (by kernel_rfl) (.bool true) (by go_simp) ?_
  simp only [Act.put, List.setIfInBounds_toArray, List.set_cons_zero, List.set_cons_succ]
  refine WL.val (by kernel_rfl) (.bool true) (by go_simp) ?_
  simp only [Act.put, List.setIfInBounds_toArray, List.set_cons_zero, List.set_cons_succ]
  refine WL.val (by kernel_rfl) (.pointer (some ⟨b6, 0, none⟩)) (by go_simp) ?_
  simp only [Act.put, List.setIfInBounds_toArray, List.set_cons_zero, List.set_cons_succ]
  refine WL.val (by kernel_rfl) (.int .i64 1) (by go_simp) ?_
  simp only [Act.put, List.setIfInBounds_toArray, List.set_cons_zero, List.set_cons_succ]
  refine WL.val (by kernel_rfl) (.bool true) (by go_simp) ?_
  simp only [Act.put, List.setIfInBounds_toArray, List.set_cons_zero, List.set_cons_succ]
  refine WL.val (by kernel_rfl) (.bool true) (by go_simp) ?_
  simp only [Act.put, List.setIfInBounds_toArray, List.set_cons_zero, List.set_cons_succ]
  refine WL.val (by kernel_rfl) (.bool true) (by go_simp) ?_
  simp only [Act.put, List.setIfInBounds_toArray, List.set_cons_zero, List.set_cons_succ]
  refine WL.val (by kernel_rfl) (.pointer (some ⟨s, 0, none⟩)) (by go_simp) ?_
  simp only [Act.put, List.setIfInBounds_toArray, List.set_cons_zero, List.set_cons_succ]
  refine WL.callF (by kernel_rfl) 8 _ _ rfl Tryz.in8 #[.pointer (some ⟨s, 0, none⟩)] (by simp [Act.eval]) ?_
  refine (len_1 s d mb g' Av' w15 HS15 HG3.out.1).mono ?_
  rintro e w16 ⟨rfl, hw_⟩
  refine ⟨_, rfl, ?_⟩
  have hw_ := hw_.symm
  subst hw_
  simp only [Act.put, List.setIfInBounds_toArray, List.set_cons_zero, List.set_cons_succ]
  refine WL.val (by kernel_rfl) (.bool true) (by go_simp) ?_
  simp only [Act.put, List.setIfInBounds_toArray, List.set_cons_zero, List.set_cons_succ]
  refine WL.val (by kernel_rfl) (.bool true) (by go_simp) ?_
  simp only [Act.put, List.setIfInBounds_toArray, List.set_cons_zero, List.set_cons_succ]
  refine WL.val (by kernel_rfl) (.bool true) (by go_simp) ?_
  simp only [Act.put, List.setIfInBounds_toArray, List.set_cons_zero, List.set_cons_succ]
  refine WL.nil ?_
  refine hK9 _ _ ?_
  refine wp_ret ?_
  go_ret
  exact ⟨rfl, B15.out⟩
set_option maxRecDepth 8000 in
theorem names_any (w : World) (hE : ErrT w) : Calls Tryz.prog 3 #[] w fun e w' => e = .returned (.bool true) ∧ Below w.heap.size w w' := by
  go_enter Tryz.func3, Tryz.ntmps3
  refine wp_seq_k fun K1 hK1 => ?_
  refine wp_region_list (WL.out ?_)
  refine WL.val (by kernel_rfl) (.bool false) (by go_simp) ?_
  simp only [Act.put, List.setIfInBounds_toArray, List.set_cons_zero, List.set_cons_succ]
  refine WL.nil ?_
  refine hK1 _ _ ?_
  refine wp_seq_k fun K2 hK2 => ?_
  refine wp_region_list (WL.out ?_)
  refine WL.val (by kernel_rfl) (.bool true) (by go_simp) ?_
  simp only [Act.put, List.setIfInBounds_toArray, List.set_cons_zero, List.set_cons_succ]
  refine WL.nil ?_
  refine hK2 _ _ ?_
  refine wp_seq_k fun K3 hK3 => ?_
  refine wp_region_list (WL.out ?_)
  refine WL.callF (by kernel_rfl) 4 _ _ rfl Tryz.in4 #[] (by simp) ?_
  refine (fixed_any w ⟨hE⟩).mono ?_
  rintro e w1 ⟨rfl, hb⟩
  refine ⟨_, rfl, ?_⟩
  simp only [Act.put, List.setIfInBounds_toArray, List.set_cons_zero, List.set_cons_succ]
  refine WL.val (by kernel_rfl) (.bool true) (by go_simp) ?_
  simp only [Act.put, List.setIfInBounds_toArray, List.set_cons_zero, List.set_cons_succ]
  refine WL.nil ?_
  refine hK3 _ _ ?_
  refine wp_seq_k fun K4 hK4 => ?_
  refine wp_region_list (WL.out ?_)
  refine WL.val (by kernel_rfl) (.bool true) (by go_simp) ?_
  simp only [Act.put, List.setIfInBounds_toArray, List.set_cons_zero, List.set_cons_succ]
  refine WL.val (by kernel_rfl) (.bool true) (by go_simp) ?_
  simp only [Act.put, List.setIfInBounds_toArray, List.set_cons_zero, List.set_cons_succ]
  refine WL.val (by kernel_rfl) (.bool true) (by go_simp) ?_
  simp only [Act.put, List.setIfInBounds_toArray, List.set_cons_zero, List.set_cons_succ]
  refine WL.val (by kernel_rfl) (.bool true) (by go_simp) ?_
  simp only [Act.put, List.setIfInBounds_toArray, List.set_cons_zero, List.set_cons_succ]
  refine WL.val (by kernel_rfl) (.bool true) (by go_simp) ?_
  simp only [Act.put, List.setIfInBounds_toArray, List.set_cons_zero, List.set_cons_succ]
  refine WL.val (by kernel_rfl) (.bool true) (by go_simp) ?_
  simp only [Act.put, List.setIfInBounds_toArray, List.set_cons_zero, List.set_cons_succ]
  refine WL.val (by kernel_rfl) (.bool true) (by go_simp) ?_
  simp only [Act.put, List.setIfInBounds_toArray, List.set_cons_zero, List.set_cons_succ]
  refine WL.val (by kernel_rfl) (.bool true) (by go_simp) ?_
  simp only [Act.put, List.setIfInBounds_toArray, List.set_cons_zero, List.set_cons_succ]
  refine WL.val (by kernel_rfl) (.bool true) (by go_simp) ?_
  simp only [Act.put, List.setIfInBounds_toArray, List.set_cons_zero, List.set_cons_succ]
  refine WL.nil ?_
  refine hK4 _ _ ?_
  refine wp_ret ?_
  go_ret
  exact ⟨rfl, hb⟩

end Go.Proofs.YtibaindbnemlcaaGreatDoor
