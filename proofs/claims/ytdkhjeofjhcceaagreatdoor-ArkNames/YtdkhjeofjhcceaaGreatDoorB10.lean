import Derived.Test.YtdkhjeofjhcceaaGreatDoorB09
namespace Go.Proofs.YtdkhjeofjhcceaaGreatDoor
open Go.RowKit
set_option linter.unusedSimpArgs false
set_option linter.unusedVariables false
theorem Tryz.in46 (w : World) (vs : Array Value) : (callFunc 46 vs).run Tryz.prog w = .ok (.enter 46 vs) w := by kernel_rfl
theorem neq_self (x : Hs) (w : World) : (binOp .neq 50 (.agg (bytesA 32 x.f)) (.agg (bytesA 32 x.f))).run Tryz.prog w = .ok (.bool false) w := by
  have h := Nd.Sh.run_neqH x x w
  rw [decide_eq_true rfl] at h
  exact h
theorem row_pre {w : World} {q : Nat} (h : RowAt w (.slice (some ⟨q, 0, none⟩) 47 47) arkL) : RowAt w (.slice (some ⟨q, 0, none⟩) 15 47) A15 := by
  rcases h with ⟨e, _⟩ | ⟨_, _, e, _⟩ | ⟨h, off, cap, e, h2, h3⟩
  · cases e
  · cases e
  · rw [arkL_len] at e
    cases e
    refine .inr (.inr ⟨q, 0, 47, rfl, by decide, fun i hi => ?_⟩)
    have hi2 : i < 15 := hi
    rw [h3 i (by rw [arkL_len]; omega)]
    congr 2
    unfold arkL
    simp [List.getD_eq_getElem?_getD, List.getElem?_append_left hi]
set_option maxRecDepth 8000 in
theorem sum_is (p q : Nat) (w : World) (HI : Keep (Nd.InAt w p sA 15 none)) (HR : Keep (RowAt w (.slice (some ⟨q, 0, none⟩) 47 47) arkL)) (Hqp : Keep (q ≠ p)) : Calls Tryz.prog 47 #[.pointer (some ⟨p, 0, none⟩), .slice (some ⟨q, 0, none⟩) 47 47] w fun e w' => e = .returned (.tuple #[]) ∧ Nd.InAt w' p sA 47 none ∧ (Nd.Grown w w' fun k => k = p) := by
  go_enter Tryz.func47, Tryz.ntmps47
  refine wp_seq_k fun K1 hK1 => ?_
  refine wp_region_list (WL.out ?_)
  refine WL.val (by kernel_rfl) (.pointer (some ⟨p, 0, none⟩)) (by go_simp) ?_
  simp only [Act.put, List.setIfInBounds_toArray, List.set_cons_zero, List.set_cons_succ]
  refine WL.callF (by kernel_rfl) 69 _ _ rfl Nd.Tryz.in69 #[.pointer (some ⟨p, 0, none⟩)] (by simp [Act.eval]) ?_
  refine (at_n p 15 15 rfl w HI.out).mono ?_
  rintro e wx ⟨rfl, hwx⟩
  refine ⟨_, rfl, ?_⟩
  subst hwx
  simp only [Act.put, List.setIfInBounds_toArray, List.set_cons_zero, List.set_cons_succ]
  refine WL.val (by kernel_rfl) (.int .i64 15) (by go_simp) ?_
  simp only [Act.put, List.setIfInBounds_toArray, List.set_cons_zero, List.set_cons_succ]
  refine WL.nil ?_
  refine hK1 _ _ ?_
  refine wp_seq_k fun K2 hK2 => ?_
  refine wp_region_held_drew (S := fun _ => True) (by kernel_rfl) (trivial) (fun hHeld => ?_)
  have HI2 : Keep (Nd.InAt wx.drew p sA 15 none) := ⟨⟨HI.out.blk.drew, HI.out.le⟩⟩
  have G2 : Keep (Nd.Grown wx wx.drew fun k => k = p) := ⟨(Nd.Grown.refl wx _).drew⟩
  clear HI
  generalize wx.drew = w2 at *
  refine wpAnyH_take (i := 0) (oi := ⟨some 7, Op.move (Operand.tmp 0), 103, _, _, none⟩) (v := .pointer (some ⟨p, 0, none⟩)) rfl (by kernel_rfl) (by kernel_rfl) (by kernel_rfl) (fun _ _ _ h => h) (Or.inl ⟨by rfl, fun w hS => by go_simp⟩) hHeld ?_
  simp only [Act.put, List.setIfInBounds_toArray, List.set_cons_zero, List.set_cons_succ]
  refine wpAnyH_take (i := 5) (oi := ⟨some 12, Op.move (Operand.tmp 1), 32, _, _, none⟩) (v := .slice (some ⟨q, 0, none⟩) 47 47) rfl (by kernel_rfl) (by kernel_rfl) (by kernel_rfl) (fun _ _ _ h => h) (Or.inl ⟨by rfl, fun w hS => by go_simp⟩) hHeld ?_
  simp only [Act.put, List.setIfInBounds_toArray, List.set_cons_zero, List.set_cons_succ]
  refine wpAnyH_take (i := 6) (oi := ⟨some 13, Op.move (Operand.tmp 4), 3, _, _, none⟩) (v := .int .i64 15) rfl (by kernel_rfl) (by kernel_rfl) (by kernel_rfl) (fun _ _ _ h => h) (Or.inl ⟨by rfl, fun w hS => by go_simp⟩) hHeld ?_
  simp only [Act.put, List.setIfInBounds_toArray, List.set_cons_zero, List.set_cons_succ]
  refine wpAnyH_take (i := 7) (oi := ⟨some 14, Op.slice 32 (Operand.tmp 12) none (some (Operand.tmp 13)) none, 32, _, _, none⟩) (v := .slice (some ⟨q, 0, none⟩) 15 47) rfl (by kernel_rfl) (by kernel_rfl) (by kernel_rfl) (fun _ _ _ h => h) (Or.inl ⟨by rfl, fun w hS => by go_simp⟩) hHeld ?_
  simp only [Act.put, List.setIfInBounds_toArray, List.set_cons_zero, List.set_cons_succ]
  refine wpAnyH_ready (rs := [1]) (by kernel_rfl) (by simp) ?_
  refine AllReadyH.cons (o := ⟨some 8, Op.call { callee := Callee.value (Operand.func 77), args := #[Operand.tmp 7], argTypes := #[103] }, 145, _, _, none⟩) rfl (fun K hK => ?_) AllReadyH.nil
  rw [if_pos (by rfl)]
  refine wp_callF 77 _ _ rfl Nd.Tryz.in77 #[.pointer (some ⟨p, 0, none⟩)] (by simp [Act.eval]) (fun vz wz => vz = .tuple #[.agg (bytesA 32 (shaH A15).f), .nilIface] ∧ Nd.InAt wz p sA 47 none ∧ (Nd.Grown w2 wz fun k => k = p)) ?_ ?_
  · refine (hash32 p w2 HI2.out).mono ?_
    rintro e wz ⟨rfl, k1, k2⟩
    exact ⟨_, rfl, rfl, k1, k2⟩
  rintro vz w3 ⟨rfl, k1, k2⟩
  have HI3 := Keep.mk k1
  have G3 : Keep (Nd.Grown wx w3 fun k => k = p) := ⟨G2.out.trans k2⟩
  clear k1 k2 HI2 G2
  refine hK _ _ (trivial) fun hHa => ?_
  clear hK
  simp only [Act.put, List.setIfInBounds_toArray, List.set_cons_zero, List.set_cons_succ]
  refine wpAnyH_take (i := 2) (oi := ⟨some 9, Op.extract (Operand.tmp 8) 0, 50, _, _, none⟩) (v := .agg (bytesA 32 (shaH A15).f)) rfl (by kernel_rfl) (by kernel_rfl) (by kernel_rfl) (fun _ _ _ h => h) (Or.inl ⟨by rfl, fun w hS => by go_simp⟩) hHa ?_
  simp only [Act.put, List.setIfInBounds_toArray, List.set_cons_zero, List.set_cons_succ]
  refine wpAnyH_take (i := 3) (oi := ⟨some 10, Op.extract (Operand.tmp 8) 1, 29, _, _, none⟩) (v := .nilIface) rfl (by kernel_rfl) (by kernel_rfl) (by kernel_rfl) (fun _ _ _ h => h) (Or.inl ⟨by rfl, fun w hS => by go_simp⟩) hHa ?_
  simp only [Act.put, List.setIfInBounds_toArray, List.set_cons_zero, List.set_cons_succ]
  refine wpAnyH_ready (rs := [4]) (by kernel_rfl) (by simp) ?_
  refine AllReadyH.cons (o := ⟨some 11, Op.call { callee := Callee.value (Operand.func 76), args := #[Operand.tmp 9, Operand.tmp 10], argTypes := #[50, 29] }, 50, _, _, none⟩) rfl (fun K hK => ?_) AllReadyH.nil
  rw [if_pos (by rfl)]
  refine wp_callF 76 _ _ rfl Nd.Tryz.in76 #[.agg (bytesA 32 (shaH A15).f), .nilIface] (by simp [Act.eval]) (fun vz wz => vz = .agg (bytesA 32 (shaH A15).f) ∧ Below w3.heap.size w3 wz) ?_ ?_
  · refine (must76 (shaH A15).f w3).mono ?_
    rintro e wz ⟨rfl, k1⟩
    exact ⟨_, rfl, rfl, k1⟩
  rintro vz w4 ⟨rfl, k1⟩
  have HI4 : Keep (Nd.InAt w4 p sA 47 none) := ⟨⟨HI3.out.blk.below k1 HI3.out.blk.lt, HI3.out.le⟩⟩
  have G4 : Keep (Nd.Grown wx w4 fun k => k = p) := ⟨G3.out.trans (Nd.Grown.below k1)⟩
  have HR4 : Keep (RowAt w4 (.slice (some ⟨q, 0, none⟩) 47 47) arkL) := ⟨Nd.RowAt.grown HR.out G4.out (fun b hb _ e => by cases hb; exact Hqp.out e)⟩
  clear k1 HI3 G3
  refine hK _ _ (trivial) fun hHb => ?_
  clear hK
  simp only [Act.put, List.setIfInBounds_toArray, List.set_cons_zero, List.set_cons_succ]
  refine wpAnyH_ready (rs := [8]) (by kernel_rfl) (by simp) ?_
  refine AllReadyH.cons (o := ⟨some 15, Op.call { callee := Callee.value (Operand.func 24), args := #[Operand.tmp 14], argTypes := #[32] }, 50, _, _, none⟩) rfl (fun K hK => ?_) AllReadyH.nil
  rw [if_pos (by rfl)]
  refine wp_callF 24 _ _ rfl Nd.Tryz.in24 #[.slice (some ⟨q, 0, none⟩) 15 47] (by simp [Act.eval]) (fun vz wz => vz = .agg (bytesA 32 (shaH A15).f) ∧ Below w4.heap.size w4 wz) ?_ ?_
  · refine (sha_is _ A15 w4 (row_pre HR4.out) (by decide)).mono ?_
    rintro e wz ⟨rfl, k1⟩
    exact ⟨_, rfl, rfl, k1⟩
  rintro vz w5 ⟨rfl, k1⟩
  have HI5 : Keep (Nd.InAt w5 p sA 47 none) := ⟨⟨HI4.out.blk.below k1 HI4.out.blk.lt, HI4.out.le⟩⟩
  have G5 : Keep (Nd.Grown wx w5 fun k => k = p) := ⟨G4.out.trans (Nd.Grown.below k1)⟩
  have hne := neq_self (shaH A15)
  clear k1 HI4 G4 HR4
  refine hK _ _ (trivial) fun hHc => ?_
  clear hK
  simp only [Act.put, List.setIfInBounds_toArray, List.set_cons_zero, List.set_cons_succ]
  refine wpAnyH_take (i := 9) (oi := ⟨some 16, Op.binOp BinOp.neq 50 (Operand.tmp 11) (Operand.tmp 15) 50, 4, _, _, none⟩) (v := .bool false) rfl (by kernel_rfl) (by kernel_rfl) (by kernel_rfl) (fun _ _ _ h => h) (Or.inl ⟨by rfl, fun w hS => by go_simp⟩) hHc ?_
  simp only [Act.put, List.setIfInBounds_toArray, List.set_cons_zero, List.set_cons_succ]
  refine wpAnyH_done (by kernel_rfl) ?_ _
  refine hK2 _ _ ?_
  refine wp_cond_false rfl ?_
  refine wp_skip ?_
  go_end0
  exact ⟨rfl, HI5.out, G5.out⟩
def ptA (b : Int) (row : Value) (c : Nat → Int) (ck : Int) (ps : Value) : Array Value := #[.int .i64 b, row] ++ vtx c ck ps
theorem ptA_size (b : Int) (row : Value) (c : Nat → Int) (ck : Int) (ps : Value) : (ptA b row c ck ps).size = 36 := by simp [ptA, vtx_size]
theorem ptA_one (b : Int) (row : Value) (c : Nat → Int) (ck : Int) (ps : Value) (h : row.oneCell' = true) (h2 : ps.oneCell' = true) : (ptA b row c ck ps).all (·.oneCell') = true := by
  have h3 : (Value.int IntKind.i64 b).oneCell' = true := rfl
  simp only [ptA, Array.all_append, vtx_one c ck ps h2, Bool.and_true]
  rw [← Array.all_toList]
  simp only [List.all_cons, List.all_nil, h, h3, Bool.and_self]
theorem sizePt (b : Int) (row : Value) (c : Nat → Int) (ck : Int) (ps : Value) : (Tryz.prog.info? 79).map (·.size) = some (ptA b row c ck ps).size := by rw [ptA_size]; kernel_rfl
def ptZ : Array Value := ptA 0 (.slice none 0 0) (fun _ => 0) 0 (.slice none 0 0)
theorem ptZ_size : ptZ.size = 36 := ptA_size _ _ _ _ _
theorem Tryz.new79p (w : World) : (Instr.alloc 79 true (.tuple #[])).run Tryz.prog w = .ok (.pointer (some ⟨w.heap.size, 0, none⟩)) (w.alloc (.cells ptZ 79)) := by kernel_rfl
theorem Tryz.results46 : Tryz.f46.results = #[.cell 2 79] := by kernel_rfl
set_option maxRecDepth 8000 in
set_option maxHeartbeats 1000000 in
theorem part_is (p : Nat) (w : World) (HI : Keep (Nd.InAt w p sA 9 none)) : Calls Tryz.prog 46 #[.pointer (some ⟨p, 0, none⟩)] w fun e w' => ∃ g c bp, e = .returned (.agg (ptA 10 (.slice (some ⟨g, 0, none⟩) 5 c) x0.f 1 (.slice (some ⟨bp, 0, none⟩) 0 0))) ∧ Nd.InAt w' p sA 15 none ∧ (Nd.Grown w w' fun k => k = p) ∧ w.heap.size ≤ g ∧ Nd.OwnT w' (.slice (some ⟨g, 0, none⟩) 5 c) [1, 1, 1, 0, 0] := by
  go_enter Tryz.func46, Tryz.ntmps46
  refine wp_seq_k fun K1 hK1 => ?_
  refine wp_region_list (WL.out ?_)
  refine WL.new (by kernel_rfl) 79 rfl _ Tryz.new79p ?_
  have H2 := Keep.mk (Blk.new w 79 ptZ)
  have b_b2 := Keep.mk (below_new w (.cells ptZ 79))
  generalize w.alloc (.cells ptZ 79) = w1 at *
  obtain ⟨b2, hb2⟩ : ∃ z, Keep (z = w.heap.size) := ⟨_, ⟨rfl⟩⟩
  rw [← hb2.out] at H2 ⊢
  have HI1 : Keep (Nd.InAt w1 p sA 9 none) := ⟨⟨HI.out.blk.below b_b2.out HI.out.blk.lt, HI.out.le⟩⟩
  have N2 : Keep (b2 ≠ p) := ⟨fun e => by have h1 := hb2.out; have h2 := HI.out.blk.lt; omega⟩
  have G1 : Keep (Nd.Grown w w1 fun k => k = p) := ⟨Nd.Grown.below b_b2.out⟩
  simp only [Act.put, List.setIfInBounds_toArray, List.set_cons_zero, List.set_cons_succ]
  refine WL.nil ?_
  refine hK1 _ _ ?_
  refine wp_seq_k fun K2 hK2 => ?_
  refine wp_region_list (WL.out ?_)
  refine WL.val (by kernel_rfl) (.pointer (some ⟨p, 0, none⟩)) (by go_simp) ?_
  simp only [Act.put, List.setIfInBounds_toArray, List.set_cons_zero, List.set_cons_succ]
  refine WL.callF (by kernel_rfl) 74 _ _ rfl Tryz.in74 #[.pointer (some ⟨p, 0, none⟩), .int .i64 1048576] (by simp [Act.eval]) ?_
  refine (bytes5 p w1 HI1.out).mono ?_
  rintro e w2 ⟨g, c, rfl, k1, k2, k3, k4⟩
  refine ⟨_, rfl, ?_⟩
  have HI2 := Keep.mk k1
  have HO2 := Keep.mk k4
  have H22 := Keep.mk (k2.blk H2.out N2.out)
  have Ng : Keep (w.heap.size ≤ g ∧ g ≠ b2 ∧ g ≠ p) := ⟨Nat.le_trans b_b2.out.size k3, fun e => by have := H2.out.lt; omega, fun e => by have := HI1.out.blk.lt; omega⟩
  have G2 : Keep (Nd.Grown w w2 fun k => k = p) := ⟨G1.out.trans k2⟩
  clear k1 k2 k3 k4 H2 HI1 G1
  simp only [Act.put, List.setIfInBounds_toArray, List.set_cons_zero, List.set_cons_succ]
  refine WL.val (by kernel_rfl) (.slice (some ⟨g, 0, none⟩) 5 c) (by go_simp) ?_
  simp only [Act.put, List.setIfInBounds_toArray, List.set_cons_zero, List.set_cons_succ]
  refine WL.val (by kernel_rfl) (.nilIface) (by go_simp) ?_
  simp only [Act.put, List.setIfInBounds_toArray, List.set_cons_zero, List.set_cons_succ]
  refine WL.callF (by kernel_rfl) 70 _ _ rfl Tryz.in70 #[.slice (some ⟨g, 0, none⟩) 5 c, .nilIface] (by simp [Act.eval]) ?_
  refine (must70 (some ⟨g, 0, none⟩) 5 c w2).mono ?_
  rintro e wy ⟨rfl, hwy⟩
  refine ⟨_, rfl, ?_⟩
  have hwy := hwy.symm
  subst hwy
  simp only [Act.put, List.setIfInBounds_toArray, List.set_cons_zero, List.set_cons_succ]
  refine WL.val (by kernel_rfl) (.slice (some ⟨g, 0, none⟩) 5 c) (by go_simp) ?_
  simp only [Act.put, List.setIfInBounds_toArray, List.set_cons_zero, List.set_cons_succ]
  refine WL.nil ?_
  refine hK2 _ _ ?_
  refine wp_seq_k fun K3 hK3 => ?_
  refine wp_region_list (WL.out ?_)
  refine WL.val (by kernel_rfl) (.pointer (some ⟨p, 0, none⟩)) (by go_simp) ?_
  simp only [Act.put, List.setIfInBounds_toArray, List.set_cons_zero, List.set_cons_succ]
  refine WL.callF (by kernel_rfl) 69 _ _ rfl Nd.Tryz.in69 #[.pointer (some ⟨p, 0, none⟩)] (by simp [Act.eval]) ?_
  refine (at_n p 15 15 rfl w2 HI2.out).mono ?_
  rintro e wz ⟨rfl, hwz⟩
  refine ⟨_, rfl, ?_⟩
  have hwz := hwz.symm
  subst hwz
  simp only [Act.put, List.setIfInBounds_toArray, List.set_cons_zero, List.set_cons_succ]
  refine WL.val (by kernel_rfl) (.slice (some ⟨g, 0, none⟩) 5 c) (by go_simp) ?_
  simp only [Act.put, List.setIfInBounds_toArray, List.set_cons_zero, List.set_cons_succ]
  refine WL.val (by kernel_rfl) (.int .i64 5) (by go_simp) ?_
  simp only [Act.put, List.setIfInBounds_toArray, List.set_cons_zero, List.set_cons_succ]
  refine WL.val (by kernel_rfl) (.int .i64 10) (by kernel_rfl) ?_
  simp only [Act.put, List.setIfInBounds_toArray, List.set_cons_zero, List.set_cons_succ]
  refine WL.val (by kernel_rfl) (.int .i64 10) (by go_simp) ?_
  simp only [Act.put, List.setIfInBounds_toArray, List.set_cons_zero, List.set_cons_succ]
  refine WL.nil ?_
  refine hK3 _ _ ?_
  refine wp_seq_k fun K4 hK4 => ?_
  refine wp_region_list (WL.out ?_)
  refine WL.val (by kernel_rfl) (.slice (some ⟨g, 0, none⟩) 5 c) (by go_simp) ?_
  simp only [Act.put, List.setIfInBounds_toArray, List.set_cons_zero, List.set_cons_succ]
  refine WL.callF (by kernel_rfl) 13 _ _ rfl Tryz.in13 #[.slice (some ⟨g, 0, none⟩) 5 c] (by simp [Act.eval]) ?_
  refine (entry_one w2 ⟨g, 0, none⟩ c HO2.out.row).mono ?_
  rintro e w3 ⟨pa, pc, qa, qc, rfl, hb⟩
  refine ⟨_, rfl, ?_⟩
  have HI3 : Keep (Nd.InAt w3 p sA 15 none) := ⟨⟨HI2.out.blk.below hb HI2.out.blk.lt, HI2.out.le⟩⟩
  have H23 := Keep.mk (H22.out.below hb H22.out.lt)
  have HO3 : Keep (Nd.OwnT w3 (.slice (some ⟨g, 0, none⟩) 5 c) [1, 1, 1, 0, 0]) := ⟨HO2.out.grown (Nd.Grown.below (S := fun _ => False) hb) fun _ _ h => h⟩
  have G3 : Keep (Nd.Grown w w3 fun k => k = p) := ⟨G2.out.trans (Nd.Grown.below hb)⟩
  clear hb HI2 H22 HO2 G2
  obtain ⟨ee, hee⟩ : ∃ a : Array Value, Keep (a = enE x0.f 1 1 (.slice pa 0 pc) (.slice qa 0 qc)) := ⟨_, ⟨rfl⟩⟩
  rw [← hee.out]
  have e1 : (Tryz.prog.info? 55).map (·.size) = some ee.size := by rw [hee.out]; exact Nd.Tryz.size55B _ _ _ _ _
  have e2 : ee.all (·.oneCell') = true := by rw [hee.out]; exact Nd.enA_one _ 1 1 pa 0 pc qa 0 qc
  have e3 : ee.size = 36 := by rw [hee.out]; exact Nd.enA_size _ _ _ _ _
  have E1 := Keep.mk e1
  have E2 := Keep.mk e2
  have E3 := Keep.mk e3
  clear e1 e2 e3
  simp only [Act.put, List.setIfInBounds_toArray, List.set_cons_zero, List.set_cons_succ]
  refine WL.val (by kernel_rfl) (.tuple #[.agg ee, .nilIface]) (by go_simp) ?_
  simp only [Act.put, List.setIfInBounds_toArray, List.set_cons_zero, List.set_cons_succ]
  refine WL.val (by kernel_rfl) (.agg ee) (by go_simp) ?_
  simp only [Act.put, List.setIfInBounds_toArray, List.set_cons_zero, List.set_cons_succ]
  refine WL.val (by kernel_rfl) (.nilIface) (by go_simp) ?_
  simp only [Act.put, List.setIfInBounds_toArray, List.set_cons_zero, List.set_cons_succ]
  refine WL.new (by kernel_rfl) 55 rfl _ Nd.Tryz.new55 ?_
  have H5 := Keep.mk (Blk.new w3 55 Nd.zEn)
  have H5L := Keep.mk H5.out.lt
  have b_b5 := Keep.mk (below_new w3 (.cells Nd.zEn 55))
  generalize w3.alloc (.cells Nd.zEn 55) = w4 at *
  obtain ⟨b5, hb5⟩ : ∃ z, Keep (z = w3.heap.size) := ⟨_, ⟨rfl⟩⟩
  rw [← hb5.out] at H5 ⊢
  have H5M : Keep (w.heap.size ≤ w3.heap.size) := ⟨G3.out.size⟩
  have HI4 : Keep (Nd.InAt w4 p sA 15 none) := ⟨⟨HI3.out.blk.below b_b5.out HI3.out.blk.lt, HI3.out.le⟩⟩
  have H24 := Keep.mk (H23.out.below b_b5.out H23.out.lt)
  have HO4 : Keep (Nd.OwnT w4 (.slice (some ⟨g, 0, none⟩) 5 c) [1, 1, 1, 0, 0]) := ⟨HO3.out.grown (Nd.Grown.below (S := fun _ => False) b_b5.out) fun _ _ h => h⟩
  have G4 : Keep (Nd.Grown w w4 fun k => k = p) := ⟨G3.out.trans (Nd.Grown.below b_b5.out)⟩
  have N5 : Keep (p < b5 ∧ b2 < b5 ∧ g < b5) := ⟨by have h1 := hb5.out; have h2 := HI3.out.blk.lt; have h3 := H23.out.lt; have h4 := HO3.out.lt g rfl; omega⟩
  clear HI3 H23 HO3 G3 b_b5
  simp only [Act.put, List.setIfInBounds_toArray, List.set_cons_zero, List.set_cons_succ]
  refine WL.storeR (by kernel_rfl) 55 (.tmp 5) (.tmp 20) rfl b5 ee rfl rfl 55 Nd.zEn H5.out E1.out (by rw [E3.out, Nd.zEn_size]) E2.out ?_
  have H55 := Keep.mk (H5.out.setRow ee)
  have g_w5 : Keep (Grown w4 (w4.setRow b5 ee) fun k => k = b5) := ⟨Grown.setRow w4 b5 _ fun _ => rfl⟩
  clear H5
  generalize w4.setRow b5 ee = w5 at *
  have HI5 : Keep (Nd.InAt w5 p sA 15 none) := ⟨⟨g_w5.out.blk HI4.out.blk (by have := N5.out; omega), HI4.out.le⟩⟩
  have H25 := Keep.mk (g_w5.out.blk H24.out (by have := N5.out; omega))
  have bs5 : Keep (Below b5 w4 w5) := ⟨g_w5.out.to_below (fun k hk e => by omega) (by have h1 := hb5.out; have h2 := H5L.out; omega)⟩
  have HO5 : Keep (Nd.OwnT w5 (.slice (some ⟨g, 0, none⟩) 5 c) [1, 1, 1, 0, 0]) := ⟨HO4.out.grown (S := fun k => k = b5) ⟨g_w5.out.os, g_w5.out.tape, g_w5.out.output, g_w5.out.size, g_w5.out.block⟩ fun k hk e => by cases hk; have h1 := N5.out; have e : g = b5 := e; omega⟩
  have G5 : Keep (Nd.Grown w w5 fun k => k = p) := ⟨G4.out.next (T := fun k => k = b5) ⟨g_w5.out.os, g_w5.out.tape, g_w5.out.output, g_w5.out.size, g_w5.out.block⟩ fun k hk e => by have := N5.out; have := hb5.out; have h := H5M.out; omega⟩
  clear HI4 H24 HO4 G4
  simp only [Act.put]
  refine WL.val (by kernel_rfl) (.nilIface) (by go_simp) ?_
  simp only [Act.put, List.setIfInBounds_toArray, List.set_cons_zero, List.set_cons_succ]
  refine WL.nil ?_
  refine hK4 _ _ ?_
  refine wp_seq_k fun K5 hK5 => ?_
  refine wp_seq_k fun K6 hK6 => ?_
  refine wp_region_list (WL.out ?_)
  refine WL.val (by kernel_rfl) (.nilIface) (by go_simp) ?_
  simp only [Act.put, List.setIfInBounds_toArray, List.set_cons_zero, List.set_cons_succ]
  refine WL.val (by kernel_rfl) (.bool false) (by go_simp) ?_
  simp only [Act.put, List.setIfInBounds_toArray, List.set_cons_zero, List.set_cons_succ]
  refine WL.nil ?_
  refine hK6 _ _ ?_
  refine wp_cond_false rfl ?_
  refine wp_skip ?_
  refine hK5 _ _ ?_
  refine wp_seq_k fun K7 hK7 => ?_
  refine wp_region_list (WL.out ?_)
  refine WL.val (by kernel_rfl) (.int .i64 10) (by go_simp) ?_
  simp only [Act.put, List.setIfInBounds_toArray, List.set_cons_zero, List.set_cons_succ]
  refine WL.val (by kernel_rfl) (.slice (some ⟨g, 0, none⟩) 5 c) (by go_simp) ?_
  simp only [Act.put, List.setIfInBounds_toArray, List.set_cons_zero, List.set_cons_succ]
  refine WL.row (by kernel_rfl) 55 (.tmp 5) rfl b5 rfl 55 ee _ H55.out Tryz.underlying55 rfl E1.out ?_
  simp only [Act.put, List.setIfInBounds_toArray, List.set_cons_zero, List.set_cons_succ]
  refine WL.callF (by kernel_rfl) 15 _ _ rfl Tryz.in15 #[.agg ee] (by simp [Act.eval]) ?_
  refine (vertex0 x0.f 1 1 pa pc (.slice qa 0 qc) ee hee w5).mono ?_
  rintro e w6 ⟨bp, rfl, hbp, hb⟩
  refine ⟨_, rfl, ?_⟩
  have HI6 : Keep (Nd.InAt w6 p sA 15 none) := ⟨⟨HI5.out.blk.below hb HI5.out.blk.lt, HI5.out.le⟩⟩
  have H26 := Keep.mk (H25.out.below hb H25.out.lt)
  have HO6 : Keep (Nd.OwnT w6 (.slice (some ⟨g, 0, none⟩) 5 c) [1, 1, 1, 0, 0]) := ⟨HO5.out.grown (Nd.Grown.below (S := fun _ => False) hb) fun _ _ h => h⟩
  have G6 : Keep (Nd.Grown w w6 fun k => k = p) := ⟨G5.out.trans (Nd.Grown.below hb)⟩
  clear hb HI5 H25 HO5 G5 H55
  simp only [Act.put, List.setIfInBounds_toArray, List.set_cons_zero, List.set_cons_succ]
  refine WL.bld (by kernel_rfl) 79 _ rfl [(0, .int .i64 10), (1, .slice (some ⟨g, 0, none⟩) 5 c), (2, .agg (vtx x0.f 1 (.slice (some ⟨bp, 0, none⟩) 0 0)))] (by simp [Act.eval]) (ptA 10 (.slice (some ⟨g, 0, none⟩) 5 c) x0.f 1 (.slice (some ⟨bp, 0, none⟩) 0 0)) (by kernel_rfl) ?_
  simp only [Act.put, List.setIfInBounds_toArray, List.set_cons_zero, List.set_cons_succ]
  refine WL.storeR (by kernel_rfl) 79 (.tmp 2) (.tmp 32) rfl b2 (ptA 10 (.slice (some ⟨g, 0, none⟩) 5 c) x0.f 1 (.slice (some ⟨bp, 0, none⟩) 0 0)) rfl rfl 79 ptZ H26.out (sizePt _ _ _ _ _) (by rw [ptA_size, ptZ_size]) (ptA_one _ _ _ _ _ rfl rfl) ?_
  have H27 := Keep.mk (H26.out.setRow (ptA 10 (.slice (some ⟨g, 0, none⟩) 5 c) x0.f 1 (.slice (some ⟨bp, 0, none⟩) 0 0)))
  have g_w7 : Keep (Grown w6 (w6.setRow b2 (ptA 10 (.slice (some ⟨g, 0, none⟩) 5 c) x0.f 1 (.slice (some ⟨bp, 0, none⟩) 0 0))) fun k => k = b2) := ⟨Grown.setRow w6 b2 _ fun _ => rfl⟩
  clear H26
  generalize w6.setRow b2 (ptA 10 (.slice (some ⟨g, 0, none⟩) 5 c) x0.f 1 (.slice (some ⟨bp, 0, none⟩) 0 0)) = w7 at *
  simp only [Act.put]
  refine WL.nil ?_
  refine hK7 _ _ ?_
  refine wp_ret ?_
  have k1 := hb2.out
  have Gz : Nd.Grown w6 w7 (fun k => k = b2) := ⟨g_w7.out.os, g_w7.out.tape, g_w7.out.output, g_w7.out.size, g_w7.out.block⟩
  refine bodyPost_ret (v := .agg (ptA 10 (.slice (some ⟨g, 0, none⟩) 5 c) x0.f 1 (.slice (some ⟨bp, 0, none⟩) 0 0))) (results_cell_row Tryz.results46 _ _ b2 79 _ (0, 0) _ rfl H27.out Tryz.underlying79 rfl (sizePt _ _ _ _ _)) rfl ?_
  exact ⟨g, c, bp, rfl, ⟨Gz.blk HI6.out.blk (fun e => N2.out e.symm), HI6.out.le⟩, G6.out.next Gz (fun k hk e => by omega), Ng.out.1, HO6.out.grown Gz (fun k hk e => by cases hk; exact Ng.out.2.1 e)⟩

theorem Tryz.in27 (w : World) (vs : Array Value) : (callFunc 27 vs).run Tryz.prog w = .ok (.enter 27 vs) w := by kernel_rfl
theorem app_one (sl el sz by_ : Nat) (z : Value) (hu : Tryz.prog.underlying sl = some (.slice el)) (hi : (Tryz.prog.info? el).map (fun i => (i.zero, i.size, i.bytes)) = some (some z, sz, by_)) (hz : z.cells.size = sz) (h0 : 0 < sz) (hb : by_ ≤ 1000) (ty : TypeId) (w : World) (v : Value) (hv : w.ownsRow 0 el sz v 0 []) (g : Nat) (X : Array Value) (hX : X.size = sz) (h1 : ∀ u ∈ X.toList, u.oneCell' = true) (hg : Blk w g el X) :
    ∃ g' cap w', (Builtin.append_ #[sl, sl] ty #[v, .slice (some ⟨g, 0, none⟩) 1 1]).run Tryz.prog w = .ok (.slice (some ⟨g', 0, none⟩) 1 cap) w' ∧ w'.rangeAt g' 0 X.toList ∧ (Grown w w' fun k => v.ownBlock = some k) ∧ (v.ownBlock = some g' ∨ g' = w.heap.size) := by
  obtain ⟨i, hi, hzz⟩ := Option.map_eq_some_iff.1 hi
  simp only [Prod.mk.injEq] at hzz
  obtain ⟨hzo, hsz, hby⟩ := hzz
  obtain ⟨v', w', hr, h2, h3, _, h4⟩ := run_append_own_at (P := Tryz.prog) w 0 sl ty el i z sz by_ hu hi hzo hsz hby hz h0 v 0 [] hv ⟨g, 0, none⟩ 1 1 X.toList (by rw [Array.length_toList, hX]; omega) (fun j u hu => by
      rw [Addr.add_mid, Nat.zero_add, hg.cell, ← Array.getElem?_toList]
      exact hu) h1 (by unfold maxLen; omega) (by omega) (Nat.zero_le _)
  obtain ⟨h5, h6⟩ := h2
  rcases h6 with ⟨_, h⟩ | ⟨g', cap, cur, rfl, _, h7, h8, h9, h10, h11⟩
  · omega
  · refine ⟨g', cap, w', hr, fun j u hu => ?_, Grown.of h3 fun k _ e => e, ?_⟩
    · have hj : j < X.toList.length := (List.getElem?_eq_some_iff.1 hu).1
      have h11' : cur.toList.take (1 * sz) = X.toList := by simpa using h11
      rw [Nat.zero_add, cell_of_row w' g' j cur el (0, 0) h7, ← Array.getElem?_toList]
      rw [← h11', List.getElem?_take_of_lt (by rw [Array.length_toList, hX] at hj; omega)] at hu
      exact hu
    · rcases h4 with h4 | h4
      · exact .inl h4.symm
      · right
        simpa [Value.ownBlock] using h4
theorem WL.app1 {ops : Array Oper} {rest : List Oper} {o : Oper} {a : Act} {w : World} {Q : Exit → Act → World → Prop} (hw : Region.wanted o (yielded ops a.tmps) = true) (sl : TypeId) (s x : Operand)
    (ho : o.op = .call { callee := .builtin .append, args := #[s, x], argTypes := #[sl, sl] }) (v : Value) (g : Nat)
    (hs : a.eval s = v) (hx : a.eval x = .slice (some ⟨g, 0, none⟩) 1 1) (R : Value → World → Prop) (hr : ∀ ty, ∃ v' w', (Builtin.append_ #[sl, sl] ty #[v, .slice (some ⟨g, 0, none⟩) 1 1]).run Tryz.prog w = .ok v' w' ∧ R v' w')
    (h : ∀ v' w', R v' w' → WL Tryz.prog ops Q rest (a.put o.dst v') w') : WL Tryz.prog ops Q (o :: rest) a w :=
  ⟨wpList_wanted hw fun K hK => by
    obtain ⟨v', w', hr, h1⟩ := hr o.type
    unfold Oper.wp execOp
    simp only [ho, resolve, invoke, builtin, Sem.run_bind, Sem.run_pure, Result.andThen_ok, List.map_toArray, List.map_cons, List.map_nil, hs, hx, hr]
    exact hK _ _ (h v' w' h1).out⟩
theorem rng_grown {w w' : World} {S : Nat → Prop} {g of : Nat} {l : List Value} (h : w.rangeAt g of l) (hg : Grown w w' S) (hs : ¬ S g) : w'.rangeAt g of l := fun j v hv => hg.cell (h j v hv) hs
theorem rng_lt {w : World} {g of : Nat} {v : Value} {l : List Value} (h : w.rangeAt g of (v :: l)) : g < w.heap.size := cell_lt (h 0 v rfl)
theorem row_lt {w : World} {q : Nat} (h : RowAt w (.slice (some ⟨q, 0, none⟩) 47 47) arkL) : q < w.heap.size := by
  rcases h with ⟨e, _⟩ | ⟨_, _, e, _⟩ | ⟨h, off, cap, e, h2, h3⟩
  · cases e
  · cases e
  · cases e
    exact cell_lt (h3 0 (by rw [arkL_len]; omega))
theorem infoPt : (Tryz.prog.info? 79).map (fun i => (i.zero, i.size, i.bytes)) = some (some (.agg ptZ), 36, 96) := by kernel_rfl
theorem bsPt (b : Int) (row : Value) (c : Nat → Int) (ck : Int) (ps : Value) (w : World) : (Instr.buildSlice 75 1 #[(0, .agg (ptA b row c ck ps))]).run Tryz.prog w = .ok (.slice (some ⟨w.heap.size, 0, none⟩) 1 1) (w.alloc (.cells (ptA b row c ck ps) 79)) := by kernel_rfl
theorem bsPE (w : World) : (Instr.buildSlice 75 0 #[]).run Tryz.prog w = .ok (.slice (some ⟨w.heap.size, 0, none⟩) 0 0) (w.alloc (.cells #[] 79)) := by kernel_rfl
theorem Nd_grown {w w' : World} {S : Nat → Prop} (h : Nd.Grown w w' S) : Grown w w' S := ⟨h.os, h.tape, h.output, h.size, h.block⟩
theorem grown_Nd {w w' : World} {S : Nat → Prop} (h : Grown w w' S) : Nd.Grown w w' S := ⟨h.os, h.tape, h.output, h.size, h.block⟩
theorem pt_ones (b : Int) (row : Value) (c : Nat → Int) (ck : Int) (ps : Value) (h : row.oneCell' = true) (h2 : ps.oneCell' = true) : ∀ u ∈ (ptA b row c ck ps).toList, u.oneCell' = true := by
  have h3 := ptA_one b row c ck ps h h2
  rw [← Array.all_toList, List.all_eq_true] at h3
  exact h3
set_option maxRecDepth 8000 in
set_option maxHeartbeats 1000000 in
theorem ark_is (q : Nat) (w : World) (HR : Keep (RowAt w (.slice (some ⟨q, 0, none⟩) 47 47) arkL)) : Calls Tryz.prog 27 #[.slice (some ⟨q, 0, none⟩) 47 47] w fun e w' => ∃ g cap gr cr bp, e = .returned (.slice (some ⟨g, 0, none⟩) 1 cap) ∧ w'.rangeAt g 0 (ptA 10 (.slice (some ⟨gr, 0, none⟩) 5 cr) x0.f 1 (.slice (some ⟨bp, 0, none⟩) 0 0)).toList ∧ w.heap.size ≤ g ∧ Nd.OwnT w' (.slice (some ⟨gr, 0, none⟩) 5 cr) [1, 1, 1, 0, 0] ∧ w.heap.size ≤ gr ∧ Below w.heap.size w w' := by
  go_enter Tryz.func27, Tryz.ntmps27
  refine wp_seq_k fun K1 hK1 => ?_
  refine wp_region_list (WL.out ?_)
  refine WL.val (by kernel_rfl) (.slice none 0 0) (by go_simp) ?_
  simp only [Act.put, List.setIfInBounds_toArray, List.set_cons_zero, List.set_cons_succ]
  refine WL.nil ?_
  refine hK1 _ _ ?_
  refine wp_seq_k fun K2 hK2 => ?_
  refine wp_region_list (WL.out ?_)
  refine WL.val (by kernel_rfl) (.slice (some ⟨q, 0, none⟩) 47 47) (by go_simp) ?_
  simp only [Act.put, List.setIfInBounds_toArray, List.set_cons_zero, List.set_cons_succ]
  refine WL.callF (by kernel_rfl) 42 _ _ rfl Nd.Tryz.in42 #[.slice (some ⟨q, 0, none⟩) 47 47] (by simp [Act.eval]) ?_
  refine (Nd.newIn_any _ arkL w HR.out).mono ?_
  rintro e w1 ⟨rfl, hw1⟩
  refine ⟨_, rfl, ?_⟩
  have HI1 : Keep (Nd.InAt w1 w.heap.size sA 0 none) := ⟨by
    rw [hw1]
    exact ⟨Blk.new w 136 _, Nat.zero_le _⟩⟩
  have G1 : Keep (Below w.heap.size w w1) := ⟨by rw [hw1]; exact below_new w _⟩
  have Lq : Keep (q < w.heap.size) := ⟨row_lt HR.out⟩
  clear hw1
  obtain ⟨p, hp⟩ : ∃ z, Keep (z = w.heap.size) := ⟨_, ⟨rfl⟩⟩
  rw [← hp.out] at HI1 ⊢
  simp only [Act.put, List.setIfInBounds_toArray, List.set_cons_zero, List.set_cons_succ]
  refine WL.val (by kernel_rfl) (.pointer (some ⟨p, 0, none⟩)) (by go_simp) ?_
  simp only [Act.put, List.setIfInBounds_toArray, List.set_cons_zero, List.set_cons_succ]
  refine WL.nil ?_
  refine hK2 _ _ ?_
  refine wp_seq_k fun K3 hK3 => ?_
  refine wp_region_list (WL.out ?_)
  refine WL.val (by kernel_rfl) (.pointer (some ⟨p, 0, none⟩)) (by go_simp) ?_
  simp only [Act.put, List.setIfInBounds_toArray, List.set_cons_zero, List.set_cons_succ]
  refine WL.callF (by kernel_rfl) 43 _ _ rfl Tryz.in43 #[.pointer (some ⟨p, 0, none⟩)] (by simp [Act.eval]) ?_
  refine (mark_is p w1 HI1).mono ?_
  rintro e w2 ⟨rfl, k1, k2⟩
  refine ⟨_, rfl, ?_⟩
  have HI2 := Keep.mk k1
  have G2 : Keep (Below w.heap.size w w2) := ⟨G1.out.trans ((Nd_grown k2).to_below (fun k hk e => by have := hp.out; omega) G1.out.size)⟩
  clear k1 k2 HI1 G1
  simp only [Act.put, List.setIfInBounds_toArray, List.set_cons_zero, List.set_cons_succ]
  refine WL.nil ?_
  refine hK3 _ _ ?_
  refine wp_seq_k fun K4 hK4 => ?_
  refine wp_region_list (WL.out ?_)
  refine WL.bs (by kernel_rfl) 75 0 _ rfl #[] (by simp [Act.eval]) _ _ (bsPE w2) ?_
  have HM3 := Keep.mk (Blk.new w2 79 #[])
  have b_m := Keep.mk (below_new w2 (.cells #[] 79))
  generalize w2.alloc (.cells #[] 79) = w3 at *
  obtain ⟨m, hm⟩ : ∃ z, Keep (z = w2.heap.size) := ⟨_, ⟨rfl⟩⟩
  rw [← hm.out] at HM3 ⊢
  have HI3 : Keep (Nd.InAt w3 p sA 8 none) := ⟨⟨HI2.out.blk.below b_m.out HI2.out.blk.lt, HI2.out.le⟩⟩
  have G3 : Keep (Below w.heap.size w w3) := ⟨G2.out.trans (b_m.out.mono G2.out.size)⟩
  have Nm : Keep (w.heap.size ≤ m ∧ p < m) := ⟨by have h1 := hm.out; have h2 := HI2.out.blk.lt; have h3 := G2.out.size; omega⟩
  clear HI2 G2 b_m
  simp only [Act.put, List.setIfInBounds_toArray, List.set_cons_zero, List.set_cons_succ]
  refine WL.val (by kernel_rfl) (.slice (some ⟨m, 0, none⟩) 0 0) (by go_simp) ?_
  simp only [Act.put, List.setIfInBounds_toArray, List.set_cons_zero, List.set_cons_succ]
  refine WL.nil ?_
  refine hK4 _ _ ?_
  refine wp_seq_k fun K5 hK5 => ?_
  refine wp_seq_k fun K6 hK6 => ?_
  refine wp_region_list (WL.out ?_)
  refine WL.val (by kernel_rfl) (.pointer (some ⟨p, 0, none⟩)) (by go_simp) ?_
  simp only [Act.put, List.setIfInBounds_toArray, List.set_cons_zero, List.set_cons_succ]
  refine WL.callF (by kernel_rfl) 45 _ _ rfl Nd.Tryz.in45 #[.pointer (some ⟨p, 0, none⟩), .int .u64 4096] (by simp [Act.eval]) ?_
  refine (num1 p w3 HI3.out).mono ?_
  rintro e w4 ⟨rfl, k1, k2⟩
  refine ⟨_, rfl, ?_⟩
  have HI4 := Keep.mk k1
  have HM4 : Keep (Blk w4 m 79 #[]) := ⟨(Nd_grown k2).blk HM3.out (by have := Nm.out; omega)⟩
  have G4 : Keep (Below w.heap.size w w4) := ⟨G3.out.trans ((Nd_grown k2).to_below (fun k hk e => by have := hp.out; omega) G3.out.size)⟩
  clear k1 k2 HI3 G3 HM3
  simp only [Act.put, List.setIfInBounds_toArray, List.set_cons_zero, List.set_cons_succ]
  refine WL.val (by kernel_rfl) (.int .u64 1) (by go_simp) ?_
  simp only [Act.put, List.setIfInBounds_toArray, List.set_cons_zero, List.set_cons_succ]
  refine WL.val (by kernel_rfl) (.nilIface) (by go_simp) ?_
  simp only [Act.put, List.setIfInBounds_toArray, List.set_cons_zero, List.set_cons_succ]
  refine WL.callF (by kernel_rfl) 44 _ _ rfl Nd.Tryz.in44 #[.int .u64 1, .nilIface] (by simp [Act.eval]) ?_
  refine (must44 1 w4).mono ?_
  rintro e wy ⟨rfl, hwy⟩
  refine ⟨_, rfl, ?_⟩
  have hwy := hwy.symm
  subst hwy
  simp only [Act.put, List.setIfInBounds_toArray, List.set_cons_zero, List.set_cons_succ]
  refine WL.val (by kernel_rfl) (.int .u64 0) (by go_simp) ?_
  simp only [Act.put, List.setIfInBounds_toArray, List.set_cons_zero, List.set_cons_succ]
  refine WL.nil ?_
  refine hK6 _ _ ?_
  refine wp_block ?_
  refine wp_loop_rounds 2 ?_
  rw [rounds_succ]
  refine wp_seq_k fun K7 hK7 => ?_
  refine wp_region_list (WL.out ?_)
  refine WL.val (by kernel_rfl) (.bool true) (by go_simp) ?_
  simp only [Act.put, List.setIfInBounds_toArray, List.set_cons_zero, List.set_cons_succ]
  refine WL.nil ?_
  refine hK7 _ _ ?_
  refine wp_seq_k fun K8 hK8 => ?_
  refine wp_cond_true rfl ?_
  refine wp_skip ?_
  refine hK8 _ _ ?_
  refine wp_seq_k fun K9 hK9 => ?_
  refine wp_block ?_
  refine wp_region_list (WL.out ?_)
  refine WL.val (by kernel_rfl) (.slice (some ⟨m, 0, none⟩) 0 0) (by go_simp) ?_
  simp only [Act.put, List.setIfInBounds_toArray, List.set_cons_zero, List.set_cons_succ]
  refine WL.val (by kernel_rfl) (.pointer (some ⟨p, 0, none⟩)) (by go_simp) ?_
  simp only [Act.put, List.setIfInBounds_toArray, List.set_cons_zero, List.set_cons_succ]
  refine WL.callF (by kernel_rfl) 46 _ _ rfl Tryz.in46 #[.pointer (some ⟨p, 0, none⟩)] (by simp [Act.eval]) ?_
  refine (part_is p w4 HI4).mono ?_
  rintro e w5 ⟨gr, cr, bp, rfl, k1, k2, k3, k4⟩
  refine ⟨_, rfl, ?_⟩
  have HI5 := Keep.mk k1
  have HO5 := Keep.mk k4
  have Ngr : Keep (m < gr) := ⟨by have := HM4.out.lt; omega⟩
  have HM5 : Keep (Blk w5 m 79 #[]) := ⟨(Nd_grown k2).blk HM4.out (by have := Nm.out; omega)⟩
  have G5 : Keep (Below w.heap.size w w5) := ⟨G4.out.trans ((Nd_grown k2).to_below (fun k hk e => by have := hp.out; omega) G4.out.size)⟩
  clear k1 k2 k3 k4 HI4 G4 HM4
  obtain ⟨X, hX⟩ : ∃ z, Keep (z = (ptA 10 (.slice (some ⟨gr, 0, none⟩) 5 cr) x0.f 1 (.slice (some ⟨bp, 0, none⟩) 0 0))) := ⟨_, ⟨rfl⟩⟩
  rw [← hX.out]
  simp only [Act.put, List.setIfInBounds_toArray, List.set_cons_zero, List.set_cons_succ]
  refine WL.bs (by kernel_rfl) 75 1 _ rfl #[(0, .agg X)] (by simp [Act.eval]) (.slice (some ⟨w5.heap.size, 0, none⟩) 1 1) (w5.alloc (.cells X 79)) (by rw [hX.out]; exact bsPt _ _ _ _ _ w5) ?_
  have HX6 := Keep.mk (Blk.new w5 79 X)
  have b_n := Keep.mk (below_new w5 (.cells X 79))
  generalize w5.alloc (.cells X 79) = w6 at *
  obtain ⟨n, hn⟩ : ∃ z, Keep (z = w5.heap.size) := ⟨_, ⟨rfl⟩⟩
  rw [← hn.out] at HX6 ⊢
  have HI6 : Keep (Nd.InAt w6 p sA 15 none) := ⟨⟨HI5.out.blk.below b_n.out HI5.out.blk.lt, HI5.out.le⟩⟩
  have HM6 := Keep.mk (HM5.out.below b_n.out HM5.out.lt)
  have HO6 : Keep (Nd.OwnT w6 (.slice (some ⟨gr, 0, none⟩) 5 cr) [1, 1, 1, 0, 0]) := ⟨HO5.out.grown (Nd.Grown.below (S := fun _ => False) b_n.out) fun _ _ h => h⟩
  have G6 : Keep (Below w.heap.size w w6) := ⟨G5.out.trans (b_n.out.mono G5.out.size)⟩
  clear HI5 HM5 HO5 G5 b_n
  simp only [Act.put, List.setIfInBounds_toArray, List.set_cons_zero, List.set_cons_succ]
  refine WL.app1 (by kernel_rfl) 75 _ _ rfl (.slice (some ⟨m, 0, none⟩) 0 0) n rfl rfl (fun v' w' => ∃ g cap, v' = .slice (some ⟨g, 0, none⟩) 1 cap ∧ w'.rangeAt g 0 X.toList ∧ (Grown w6 w' fun k => k = m) ∧ (g = m ∨ g = w6.heap.size)) (fun ty => by
    obtain ⟨g', cap, w', h1, h2, h3, h4⟩ := app_one 75 79 36 96 (.agg ptZ) Tryz.underlying75 infoPt ptZ_size (by decide) (by decide) ty w6 (.slice (some ⟨m, 0, none⟩) 0 0) ⟨rfl, .inr ⟨m, 0, #[], rfl, Nat.zero_le _, HM6.out, Nat.le_refl _, by unfold maxLen; omega, rfl, rfl⟩⟩ n X (by rw [hX.out, ptA_size]) (by rw [hX.out]; exact pt_ones _ _ _ _ _ rfl rfl) HX6.out
    refine ⟨_, w', h1, g', cap, rfl, h2, h3.mono (fun k _ e => by simpa [Value.ownBlock, eq_comm] using e), ?_⟩
    rcases h4 with e | e
    · exact .inl (by simpa [Value.ownBlock, eq_comm] using e)
    · exact .inr e) ?_
  rintro v7 w7 ⟨g, cap, rfl, k1, k2, k3⟩
  have HX7 := Keep.mk k1
  have Ng7 : Keep (m ≤ g ∧ p < g ∧ g ≠ gr) := ⟨by
    have h1 := Nm.out
    have h2 := HM6.out.lt
    have h3 := HO6.out.lt gr rfl
    have h4 := Ngr.out
    rcases k3 with e | e <;> omega⟩
  have HI7 : Keep (Nd.InAt w7 p sA 15 none) := ⟨⟨k2.blk HI6.out.blk (by have := Nm.out; omega), HI6.out.le⟩⟩
  have HO7 : Keep (Nd.OwnT w7 (.slice (some ⟨gr, 0, none⟩) 5 cr) [1, 1, 1, 0, 0]) := ⟨HO6.out.grown (grown_Nd k2) fun k hk e => by cases hk; have e : gr = m := e; have := Ngr.out; omega⟩
  have G7 : Keep (Below w.heap.size w w7) := ⟨G6.out.trans (k2.to_below (fun k hk e => by have := Nm.out; omega) G6.out.size)⟩
  clear k1 k2 k3 HI6 HM6 HO6 G6 HX6
  simp only [Act.put, List.setIfInBounds_toArray, List.set_cons_zero, List.set_cons_succ]
  refine WL.val (by kernel_rfl) (.slice (some ⟨g, 0, none⟩) 1 cap) (by go_simp) ?_
  simp only [Act.put, List.setIfInBounds_toArray, List.set_cons_zero, List.set_cons_succ]
  refine WL.nil ?_
  refine hK9 _ _ ?_
  refine wp_region_list (WL.out ?_)
  refine WL.val (by kernel_rfl) (.int .u64 1) (by kernel_rfl) ?_
  simp only [Act.put, List.setIfInBounds_toArray, List.set_cons_zero, List.set_cons_succ]
  refine WL.val (by kernel_rfl) (.int .u64 1) (by go_simp) ?_
  simp only [Act.put, List.setIfInBounds_toArray, List.set_cons_zero, List.set_cons_succ]
  refine WL.nil ?_
  simp only [Exit.then, Exit.inBlock]
  rw [rounds_succ]
  refine wp_seq_k fun K10 hK10 => ?_
  refine wp_region_list (WL.out ?_)
  refine WL.val (by kernel_rfl) (.bool false) (by go_simp) ?_
  simp only [Act.put, List.setIfInBounds_toArray, List.set_cons_zero, List.set_cons_succ]
  refine WL.nil ?_
  refine hK10 _ _ ?_
  refine wp_seq_k fun K11 hK11 => ?_
  refine wp_cond_false rfl ?_
  refine wp_exit ?_
  refine hK5 _ _ ?_
  refine wp_seq_k fun K12 hK12 => ?_
  refine wp_region_list (WL.out ?_)
  refine WL.val (by kernel_rfl) (.pointer (some ⟨p, 0, none⟩)) (by go_simp) ?_
  simp only [Act.put, List.setIfInBounds_toArray, List.set_cons_zero, List.set_cons_succ]
  refine WL.val (by kernel_rfl) (.slice (some ⟨q, 0, none⟩) 47 47) (by go_simp) ?_
  simp only [Act.put, List.setIfInBounds_toArray, List.set_cons_zero, List.set_cons_succ]
  refine WL.callF (by kernel_rfl) 47 _ _ rfl Tryz.in47 #[.pointer (some ⟨p, 0, none⟩), .slice (some ⟨q, 0, none⟩) 47 47] (by simp [Act.eval]) ?_
  refine (sum_is p q w7 HI7 ⟨HR.out.below G7.out⟩ ⟨by have h1 := Lq.out; have h2 := hp.out; omega⟩).mono ?_
  rintro e w8 ⟨rfl, k1, k2⟩
  refine ⟨_, rfl, ?_⟩
  have HI8 := Keep.mk k1
  have HX8 := Keep.mk (rng_grown HX7.out (Nd_grown k2) (fun e => by have h1 := Ng7.out; have e : g = p := e; omega))
  have HO8 : Keep (Nd.OwnT w8 (.slice (some ⟨gr, 0, none⟩) 5 cr) [1, 1, 1, 0, 0]) := ⟨HO7.out.grown k2 fun k hk e => by cases hk; have e : gr = p := e; have h1 := Ngr.out; have h2 := Nm.out; omega⟩
  have G8 : Keep (Below w.heap.size w w8) := ⟨G7.out.trans ((Nd_grown k2).to_below (fun k hk e => by have := hp.out; omega) G7.out.size)⟩
  clear k1 k2 HI7 HX7 HO7 G7
  simp only [Act.put, List.setIfInBounds_toArray, List.set_cons_zero, List.set_cons_succ]
  refine WL.nil ?_
  refine hK12 _ _ ?_
  refine wp_seq_k fun K13 hK13 => ?_
  refine wp_seq_k fun K14 hK14 => ?_
  refine wp_region_list (WL.out ?_)
  refine WL.val (by kernel_rfl) (.pointer (some ⟨p, 0, none⟩)) (by go_simp) ?_
  simp only [Act.put, List.setIfInBounds_toArray, List.set_cons_zero, List.set_cons_succ]
  refine WL.callF (by kernel_rfl) 48 _ _ rfl Nd.Tryz.in48 #[.pointer (some ⟨p, 0, none⟩)] (by simp [Act.eval]) ?_
  refine (end_is p w8 HI8).mono ?_
  rintro e w9 ⟨rfl, hb⟩
  refine ⟨_, rfl, ?_⟩
  have HX9 := Keep.mk (rng_grown HX8.out (Grown.below (S := fun _ => False) hb) (fun e => e))
  have HO9 : Keep (Nd.OwnT w9 (.slice (some ⟨gr, 0, none⟩) 5 cr) [1, 1, 1, 0, 0]) := ⟨HO8.out.grown (Nd.Grown.below (S := fun _ => False) hb) fun _ _ h => h⟩
  have G9 : Keep (Below w.heap.size w w9) := ⟨G8.out.trans (hb.mono G8.out.size)⟩
  clear hb HI8 HX8 HO8 G8
  simp only [Act.put, List.setIfInBounds_toArray, List.set_cons_zero, List.set_cons_succ]
  refine WL.val (by kernel_rfl) (.nilIface) (by go_simp) ?_
  simp only [Act.put, List.setIfInBounds_toArray, List.set_cons_zero, List.set_cons_succ]
  refine WL.nil ?_
  refine hK14 _ _ ?_
  refine wp_seq_k fun K15 hK15 => ?_
  refine wp_region_list (WL.out ?_)
  refine WL.val (by kernel_rfl) (.nilIface) (by go_simp) ?_
  simp only [Act.put, List.setIfInBounds_toArray, List.set_cons_zero, List.set_cons_succ]
  refine WL.val (by kernel_rfl) (.bool false) (by go_simp) ?_
  simp only [Act.put, List.setIfInBounds_toArray, List.set_cons_zero, List.set_cons_succ]
  refine WL.nil ?_
  refine hK15 _ _ ?_
  refine wp_cond_false rfl ?_
  refine wp_skip ?_
  refine hK13 _ _ ?_
  refine wp_seq_k fun K16 hK16 => ?_
  refine wp_region_list (WL.out ?_)
  refine WL.val (by kernel_rfl) (.slice (some ⟨g, 0, none⟩) 1 cap) (by go_simp) ?_
  simp only [Act.put, List.setIfInBounds_toArray, List.set_cons_zero, List.set_cons_succ]
  refine WL.val (by kernel_rfl) (.slice (some ⟨g, 0, none⟩) 1 cap) (by go_simp) ?_
  simp only [Act.put, List.setIfInBounds_toArray, List.set_cons_zero, List.set_cons_succ]
  refine WL.nil ?_
  refine hK16 _ _ ?_
  refine wp_ret ?_
  go_ret
  exact ⟨g, cap, gr, cr, bp, rfl, by rw [← hX.out]; exact HX9.out, by have h1 := Nm.out; have h2 := Ng7.out; omega, HO9.out, by have h1 := Nm.out; have h2 := Ngr.out; omega, G9.out⟩

theorem Tryz.in49 (w : World) (vs : Array Value) : (callFunc 49 vs).run Tryz.prog w = .ok (.enter 49 vs) w := by kernel_rfl
theorem Tryz.in52 (w : World) (vs : Array Value) : (callFunc 52 vs).run Tryz.prog w = .ok (.enter 52 vs) w := by kernel_rfl
theorem Tryz.in54 (w : World) (vs : Array Value) : (callFunc 54 vs).run Tryz.prog w = .ok (.enter 54 vs) w := by kernel_rfl
theorem pt_vtx {w : World} {b : Nat} {bg : Int} {row : Value} {c : Nat → Int} {ck : Int} {ps : Value} (h : Blk w b 79 (ptA bg row c ck ps)) : w.rangeAt b 2 (vtx c ck ps).toList := fun j v hv => by
  rw [h.cell, ptA, Array.getElem?_append_right (by simp)]
  simpa using hv
theorem vtx_id2 {w : World} {b of : Nat} {c : Nat → Int} {k : Int} {p : Value} (h : w.rangeAt b of (vtx c k p).toList) : w.rangeAt b of (bytesA 32 c).toList := fun j v hv => h j v (by
  rw [vtx, Array.toList_append, List.getElem?_append_left (List.getElem?_eq_some_iff.1 hv).1]; exact hv)
theorem pt_0 (bg : Int) (row : Value) (c : Nat → Int) (ck : Int) (ps : Value) : (ptA bg row c ck ps)[0]? = some (.int .i64 bg) := by simp [ptA, Array.getElem?_append]
theorem pt_1 (bg : Int) (row : Value) (c : Nat → Int) (ck : Int) (ps : Value) : (ptA bg row c ck ps)[1]? = some row := by simp [ptA, Array.getElem?_append]
theorem pt_ck (bg : Int) (row : Value) (c : Nat → Int) (ck : Int) (ps : Value) : (ptA bg row c ck ps)[34]? = some (.int .i64 ck) := by
  rw [ptA, Array.getElem?_append_right (by simp)]
  exact vtx_ck c ck ps
theorem lookE {w : World} {fb : Nat} (h : w.heap[fb]? = some (.map #[] 0)) (x : Hs) : (Instr.lookup 112 (.map (some fb)) (.agg (bytesA 32 x.f)) true).run Tryz.prog w = .ok (.tuple #[.int .i64 0, .bool false]) w := by
  simp [Instr.lookup, run_underlying Tryz.underlying112, MapKept.run_getObj_map h, Tryz.chk, findKey_eq, Instr.findAsking, Result.andThen]
theorem lookM1 {w : World} {fb : Nat} {x : Hs} {u : Value} (h : w.heap[fb]? = some (.map #[⟨.agg (bytesA 32 x.f), u, 0⟩] 1)) : (Instr.lookup 112 (.map (some fb)) (.agg (bytesA 32 x.f)) false).run Tryz.prog w = .ok u w := by
  have hk : (Instr.findAsking 50 (.agg (bytesA 32 x.f)) [⟨.agg (bytesA 32 x.f), u, 0⟩] 0).run Tryz.prog w = .ok (some (0, u)) w := by
    rw [Instr.findAsking, Sem.run_bind, Op_equal, Result.andThen_ok]
    simp
  simp [Instr.lookup, run_underlying Tryz.underlying112, MapKept.run_getObj_map h, Tryz.chk, findKey_eq, hk, Result.andThen]
theorem updE {w : World} {b : Nat} (h1 : w.heap[b]? = some (.map #[] 0)) (x : Hs) (u : Value) : (Instr.mapUpdate 112 (.map (some b)) (.agg (bytesA 32 x.f)) u).run Tryz.prog w = .ok () { w with heap := w.heap.setIfInBounds b (.map #[⟨.agg (bytesA 32 x.f), u, 0⟩] 1) } := by
  simp [Instr.mapUpdate, run_underlying Tryz.underlying112, MapKept.run_getObj_map h1, Tryz.chk, findKey_eq, Instr.findAsking, MapKept.run_setObj_map _ h1, Result.andThen]
theorem WL.updM {ops : Array Oper} {rest : List Oper} {o : Oper} {a : Act} {w : World} {Q : Exit → Act → World → Prop} (hw : Region.wanted o (yielded ops a.tmps) = true) (m k x : Operand) (ho : o.op = .mapUpdate 112 m k x) (vm vk vx : Value) (hm : a.eval m = vm) (hk : a.eval k = vk) (hx : a.eval x = vx) (w' : World)
    (hr : (Instr.mapUpdate 112 vm vk vx).run Tryz.prog w = .ok () w') (h : WL Tryz.prog ops Q rest (a.put o.dst undef) w') : WL Tryz.prog ops Q (o :: rest) a w :=
  ⟨wpList_wanted hw fun K hK => by
    unfold Oper.wp execOp
    simp only [ho, hm, hk, hx, Sem.run_bind, hr, Result.andThen_ok, Sem.run_pure]
    exact hK _ _ h.out⟩
theorem Tryz.new114l (w : World) : (Instr.alloc 114 true (.tuple #[])).run Tryz.prog w = .ok (.pointer (some ⟨w.heap.size, 0, none⟩)) (w.alloc (.cells #[.slice none 0 0, .map none] 114)) := by kernel_rfl
theorem Tryz.results49 : Tryz.f49.results = #[.cell 2 114] := by kernel_rfl
theorem sizeX {b : Int} {row : Value} {c : Nat → Int} {ck : Int} {ps : Value} {X : Array Value} (h : Keep (X = ptA b row c ck ps)) : (Tryz.prog.info? 79).map (·.size) = some X.size := by rw [h.out]; exact sizePt _ _ _ _ _
theorem blk_ar {w : World} {b : Nat} {T : TypeId} {cs : Array Value} (h : Blk w b T cs) : w.rangeAt b 0 cs.toList := blk_range h
set_option maxRecDepth 8000 in
set_option maxHeartbeats 1000000 in
theorem line_is (g cap gr cr bp : Nat) (X : Array Value) (hX : Keep (X = (ptA 10 (.slice (some ⟨gr, 0, none⟩) 5 cr) x0.f 1 (.slice (some ⟨bp, 0, none⟩) 0 0)))) (w : World) (HX : Keep (w.rangeAt g 0 X.toList)) : Calls Tryz.prog 49 #[.slice (some ⟨g, 0, none⟩) 1 cap] w fun e w' => ∃ fb, e = .returned (.agg #[.slice (some ⟨g, 0, none⟩) 1 cap, .map (some fb)]) ∧ w.heap.size ≤ fb ∧ w'.heap[fb]? = some (.map #[⟨.agg (bytesA 32 x0.f), .int .i64 0, 0⟩] 1) ∧ Below w.heap.size w w' := by
  go_enter Tryz.func49, Tryz.ntmps49
  refine wp_seq_k fun K1 hK1 => ?_
  refine wp_region_list (WL.out ?_)
  refine WL.new (by kernel_rfl) 114 rfl _ Tryz.new114l ?_
  have H2 := Keep.mk (Blk.new w 114 #[.slice none 0 0, .map none])
  have b_b2 := Keep.mk (below_new w (.cells #[.slice none 0 0, .map none] 114))
  generalize w.alloc (.cells #[.slice none 0 0, .map none] 114) = w1 at *
  obtain ⟨b2, hb2⟩ : ∃ z, Keep (z = w.heap.size) := ⟨_, ⟨rfl⟩⟩
  rw [← hb2.out] at H2 ⊢
  simp only [Act.put, List.setIfInBounds_toArray, List.set_cons_zero, List.set_cons_succ]
  refine WL.nil ?_
  refine hK1 _ _ ?_
  refine wp_seq_k fun K2 hK2 => ?_
  refine wp_region_list (WL.out ?_)
  refine WL.valW (by kernel_rfl) (.map (some w1.heap.size)) (w1.alloc (.map #[] 0)) (by go_simp <;> rfl) ?_
  have b_fb := Keep.mk (below_new w1 (.map #[] 0))
  have HF2 : Keep ((w1.alloc (.map #[] 0)).heap[w1.heap.size]? = some (.map #[] 0)) := ⟨heap_alloc_new w1 _⟩
  generalize w1.alloc (.map #[] 0) = w2 at *
  obtain ⟨fb, hfb⟩ : ∃ z, Keep (z = w1.heap.size) := ⟨_, ⟨rfl⟩⟩
  rw [← hfb.out] at HF2 ⊢
  have H22 := Keep.mk (H2.out.below b_fb.out H2.out.lt)
  have B2 : Keep (Below w.heap.size w w2) := ⟨b_b2.out.trans (b_fb.out.mono b_b2.out.size)⟩
  have N2 : Keep (w.heap.size ≤ b2 ∧ b2 < fb) := ⟨by have h1 := hb2.out; have h2 := hfb.out; have h3 := H2.out.lt; omega⟩
  clear H2 b_b2 b_fb
  simp only [Act.put, List.setIfInBounds_toArray, List.set_cons_zero, List.set_cons_succ]
  refine WL.val (by kernel_rfl) (.map (some fb)) (by go_simp) ?_
  simp only [Act.put, List.setIfInBounds_toArray, List.set_cons_zero, List.set_cons_succ]
  refine WL.nil ?_
  refine hK2 _ _ ?_
  refine wp_seq_k fun K3 hK3 => ?_
  refine wp_seq_k fun K4 hK4 => ?_
  refine wp_region_list (WL.out ?_)
  refine WL.val (by kernel_rfl) (.slice (some ⟨g, 0, none⟩) 1 cap) (by go_simp) ?_
  simp only [Act.put, List.setIfInBounds_toArray, List.set_cons_zero, List.set_cons_succ]
  refine WL.val (by kernel_rfl) (.int .i64 1) (by go_simp) ?_
  simp only [Act.put, List.setIfInBounds_toArray, List.set_cons_zero, List.set_cons_succ]
  refine WL.val (by kernel_rfl) (.int .i64 0) (by go_simp) ?_
  simp only [Act.put, List.setIfInBounds_toArray, List.set_cons_zero, List.set_cons_succ]
  refine WL.nil ?_
  refine hK4 _ _ ?_
  refine wp_block ?_
  refine wp_loop_rounds 2 ?_
  rw [rounds_succ]
  refine wp_seq_k fun K5 hK5 => ?_
  refine wp_region_list (WL.out ?_)
  refine WL.val (by kernel_rfl) (.bool true) (by go_simp) ?_
  simp only [Act.put, List.setIfInBounds_toArray, List.set_cons_zero, List.set_cons_succ]
  refine WL.nil ?_
  refine hK5 _ _ ?_
  refine wp_seq_k fun K6 hK6 => ?_
  refine wp_cond_true rfl ?_
  refine wp_skip ?_
  refine hK6 _ _ ?_
  refine wp_seq_k fun K7 hK7 => ?_
  refine wp_block ?_
  refine wp_seq_k fun K8 hK8 => ?_
  refine wp_region_list (WL.out ?_)
  refine WL.val (by kernel_rfl) (.int .i64 0) (by go_simp) ?_
  simp only [Act.put, List.setIfInBounds_toArray, List.set_cons_zero, List.set_cons_succ]
  refine WL.val (by kernel_rfl) (.pointer (some ⟨g, 0, none⟩)) (by go_simp) ?_
  simp only [Act.put, List.setIfInBounds_toArray, List.set_cons_zero, List.set_cons_succ]
  have HX2 := Keep.mk (rng_grown HX.out (Grown.below (S := fun _ => False) B2.out) (fun e => e))
  refine WL.midA (by kernel_rfl) 79 (.tmp 14) rfl g 0 rfl X _ HX2.out Tryz.underlying79 rfl (sizeX hX) ?_
  simp only [Act.put, List.setIfInBounds_toArray, List.set_cons_zero, List.set_cons_succ]
  refine WL.new (by kernel_rfl) 79 rfl _ Tryz.new79p ?_
  have H5 := Keep.mk (Blk.new w2 79 ptZ)
  have b_b5 := Keep.mk (below_new w2 (.cells ptZ 79))
  generalize w2.alloc (.cells ptZ 79) = w3 at *
  obtain ⟨b5, hb5⟩ : ∃ z, Keep (z = w2.heap.size) := ⟨_, ⟨rfl⟩⟩
  rw [← hb5.out] at H5 ⊢
  have H23 := Keep.mk (H22.out.below b_b5.out H22.out.lt)
  have HF3 : Keep (w3.heap[fb]? = some (.map #[] 0)) := ⟨by rw [b_b5.out.block fb (Array.getElem?_eq_some_iff.1 HF2.out).1]; exact HF2.out⟩
  have B3 : Keep (Below w.heap.size w w3) := ⟨B2.out.trans (b_b5.out.mono B2.out.size)⟩
  have N5 : Keep (fb < b5) := ⟨by have h1 := hb5.out; have h2 := (Array.getElem?_eq_some_iff.1 HF2.out).1; omega⟩
  clear H22 HF2 B2 b_b5
  simp only [Act.put, List.setIfInBounds_toArray, List.set_cons_zero, List.set_cons_succ]
  refine WL.val (by kernel_rfl) (.int .i64 0) (by go_simp) ?_
  simp only [Act.put, List.setIfInBounds_toArray, List.set_cons_zero, List.set_cons_succ]
  refine WL.storeR (by kernel_rfl) 79 (.tmp 5) (.tmp 15) rfl b5 X rfl rfl 79 ptZ H5.out (sizeX hX) (by rw [hX.out, ptA_size, ptZ_size]) (by rw [hX.out]; exact ptA_one _ _ _ _ _ rfl rfl) ?_
  have H55 := Keep.mk (H5.out.setRow X)
  have g_w4 : Keep (Grown w3 (w3.setRow b5 X) fun k => k = b5) := ⟨Grown.setRow w3 b5 _ fun _ => rfl⟩
  clear H5
  generalize w3.setRow b5 X = w4 at *
  have H24 := Keep.mk (g_w4.out.blk H23.out (by have h1 := N2.out; have h2 := N5.out; omega))
  have HF4 : Keep (w4.heap[fb]? = some (.map #[] 0)) := ⟨by rw [g_w4.out.block fb (Array.getElem?_eq_some_iff.1 HF3.out).1 (by have h2 := N5.out; omega)]; exact HF3.out⟩
  have B4 : Keep (Below w.heap.size w w4) := ⟨B3.out.trans (g_w4.out.to_below (fun k hk e => by have h1 := N2.out; have h2 := N5.out; omega) B3.out.size)⟩
  have HV4 : Keep (w4.rangeAt b5 2 (bytesA 32 x0.f).toList) := ⟨by have h := H55.out; rw [hX.out] at h; exact vtx_id2 (pt_vtx h)⟩
  clear H23 HF3 B3
  simp only [Act.put]
  refine WL.nil ?_
  refine hK8 _ _ ?_
  refine wp_seq_k fun K9 hK9 => ?_
  refine wp_region_list (WL.out ?_)
  refine WL.val (by kernel_rfl) (.map (some fb)) (by go_simp) ?_
  simp only [Act.put, List.setIfInBounds_toArray, List.set_cons_zero, List.set_cons_succ]
  refine WL.val (by kernel_rfl) (.pointer (some ⟨b5, 2, none⟩)) (by go_simp) ?_
  simp only [Act.put, List.setIfInBounds_toArray, List.set_cons_zero, List.set_cons_succ]
  refine WL.val (by kernel_rfl) (.pointer (some ⟨b5, 2, none⟩)) (by go_simp) ?_
  simp only [Act.put, List.setIfInBounds_toArray, List.set_cons_zero, List.set_cons_succ]
  refine WL.midA (by kernel_rfl) 50 (.tmp 19) rfl b5 2 rfl (bytesA 32 x0.f) _ HV4.out Tryz.underlying50 rfl (size51E _) ?_
  simp only [Act.put, List.setIfInBounds_toArray, List.set_cons_zero, List.set_cons_succ]
  have hlk := lookE HF4.out x0
  refine WL.val (by kernel_rfl) (.tuple #[.int .i64 0, .bool false]) (by go_simp) ?_
  clear hlk
  simp only [Act.put, List.setIfInBounds_toArray, List.set_cons_zero, List.set_cons_succ]
  refine WL.val (by kernel_rfl) (.tuple #[.int .i64 0, .bool false]) (by go_simp) ?_
  simp only [Act.put, List.setIfInBounds_toArray, List.set_cons_zero, List.set_cons_succ]
  refine WL.val (by kernel_rfl) (.int .i64 0) (by go_simp) ?_
  simp only [Act.put, List.setIfInBounds_toArray, List.set_cons_zero, List.set_cons_succ]
  refine WL.val (by kernel_rfl) (.bool false) (by go_simp) ?_
  simp only [Act.put, List.setIfInBounds_toArray, List.set_cons_zero, List.set_cons_succ]
  refine WL.val (by kernel_rfl) (.int .i64 0) (by go_simp) ?_
  simp only [Act.put, List.setIfInBounds_toArray, List.set_cons_zero, List.set_cons_succ]
  refine WL.val (by kernel_rfl) (.bool false) (by go_simp) ?_
  simp only [Act.put, List.setIfInBounds_toArray, List.set_cons_zero, List.set_cons_succ]
  refine WL.nil ?_
  refine hK9 _ _ ?_
  refine wp_seq_k fun K10 hK10 => ?_
  refine wp_region_list (WL.out ?_)
  refine WL.val (by kernel_rfl) (.bool false) (by go_simp) ?_
  simp only [Act.put, List.setIfInBounds_toArray, List.set_cons_zero, List.set_cons_succ]
  refine WL.val (by kernel_rfl) (.bool true) (by go_simp) ?_
  simp only [Act.put, List.setIfInBounds_toArray, List.set_cons_zero, List.set_cons_succ]
  refine WL.nil ?_
  refine hK10 _ _ ?_
  refine wp_cond_true rfl ?_
  refine wp_region_list (WL.out ?_)
  refine WL.val (by kernel_rfl) (.map (some fb)) (by go_simp) ?_
  simp only [Act.put, List.setIfInBounds_toArray, List.set_cons_zero, List.set_cons_succ]
  refine WL.val (by kernel_rfl) (.pointer (some ⟨b5, 2, none⟩)) (by go_simp) ?_
  simp only [Act.put, List.setIfInBounds_toArray, List.set_cons_zero, List.set_cons_succ]
  refine WL.val (by kernel_rfl) (.pointer (some ⟨b5, 2, none⟩)) (by go_simp) ?_
  simp only [Act.put, List.setIfInBounds_toArray, List.set_cons_zero, List.set_cons_succ]
  refine WL.midA (by kernel_rfl) 50 (.tmp 28) rfl b5 2 rfl (bytesA 32 x0.f) _ HV4.out Tryz.underlying50 rfl (size51E _) ?_
  simp only [Act.put, List.setIfInBounds_toArray, List.set_cons_zero, List.set_cons_succ]
  refine WL.val (by kernel_rfl) (.int .i64 0) (by go_simp) ?_
  simp only [Act.put, List.setIfInBounds_toArray, List.set_cons_zero, List.set_cons_succ]
  refine WL.updM (by kernel_rfl) _ _ _ rfl _ _ _ rfl rfl rfl _ (updE HF4.out x0 (.int .i64 0)) ?_
  have gu : Grown w4 { w4 with heap := w4.heap.setIfInBounds fb (.map #[⟨.agg (bytesA 32 x0.f), .int .i64 0, 0⟩] 1) } (fun k => k = fb) := ⟨rfl, rfl, rfl, by simp, fun k hk hne => by
    show (w4.heap.setIfInBounds fb _)[k]? = _
    rw [Array.getElem?_setIfInBounds_ne (fun e => hne e.symm)]⟩
  have HF5 : Keep ((w4.heap.setIfInBounds fb (.map #[⟨.agg (bytesA 32 x0.f), .int .i64 0, 0⟩] 1))[fb]? = some (.map #[⟨.agg (bytesA 32 x0.f), .int .i64 0, 0⟩] 1)) := ⟨by rw [Array.getElem?_setIfInBounds_self_of_lt (Array.getElem?_eq_some_iff.1 HF4.out).1]⟩
  have HF5' : Keep (({ w4 with heap := w4.heap.setIfInBounds fb (.map #[⟨.agg (bytesA 32 x0.f), .int .i64 0, 0⟩] 1) } : World).heap[fb]? = some (.map #[⟨.agg (bytesA 32 x0.f), .int .i64 0, 0⟩] 1)) := ⟨HF5.out⟩
  clear HF5
  generalize ({ w4 with heap := w4.heap.setIfInBounds fb (.map #[⟨.agg (bytesA 32 x0.f), .int .i64 0, 0⟩] 1) } : World) = w5 at *
  have H25 := Keep.mk (gu.blk H24.out (by have h1 := N2.out; omega))
  have B5 : Keep (Below w.heap.size w w5) := ⟨B4.out.trans (gu.to_below (fun k hk e => by have h1 := N2.out; omega) B4.out.size)⟩
  clear gu H24 HF4 B4 HV4
  simp only [Act.put]
  refine WL.nil ?_
  refine hK7 _ _ ?_
  refine wp_region_list (WL.out ?_)
  refine WL.val (by kernel_rfl) (.int .i64 1) (by kernel_rfl) ?_
  simp only [Act.put, List.setIfInBounds_toArray, List.set_cons_zero, List.set_cons_succ]
  refine WL.val (by kernel_rfl) (.int .i64 1) (by go_simp) ?_
  simp only [Act.put, List.setIfInBounds_toArray, List.set_cons_zero, List.set_cons_succ]
  refine WL.nil ?_
  simp only [Exit.then, Exit.inBlock]
  rw [rounds_succ]
  refine wp_seq_k fun K11 hK11 => ?_
  refine wp_region_list (WL.out ?_)
  refine WL.val (by kernel_rfl) (.bool false) (by go_simp) ?_
  simp only [Act.put, List.setIfInBounds_toArray, List.set_cons_zero, List.set_cons_succ]
  refine WL.nil ?_
  refine hK11 _ _ ?_
  refine wp_seq_k fun K12 hK12 => ?_
  refine wp_cond_false rfl ?_
  refine wp_exit ?_
  refine hK3 _ _ ?_
  refine wp_seq_k fun K13 hK13 => ?_
  refine wp_region_list (WL.out ?_)
  refine WL.val (by kernel_rfl) (.slice (some ⟨g, 0, none⟩) 1 cap) (by go_simp) ?_
  simp only [Act.put, List.setIfInBounds_toArray, List.set_cons_zero, List.set_cons_succ]
  refine WL.val (by kernel_rfl) (.map (some fb)) (by go_simp) ?_
  simp only [Act.put, List.setIfInBounds_toArray, List.set_cons_zero, List.set_cons_succ]
  refine WL.bld (by kernel_rfl) 114 _ rfl [(0, .slice (some ⟨g, 0, none⟩) 1 cap), (1, .map (some fb))] (by simp [Act.eval]) #[.slice (some ⟨g, 0, none⟩) 1 cap, .map (some fb)] (by kernel_rfl) ?_
  simp only [Act.put, List.setIfInBounds_toArray, List.set_cons_zero, List.set_cons_succ]
  refine WL.storeR (by kernel_rfl) 114 (.tmp 2) (.tmp 34) rfl b2 #[.slice (some ⟨g, 0, none⟩) 1 cap, .map (some fb)] rfl rfl 114 #[.slice none 0 0, .map none] H25.out (by kernel_rfl) rfl (by simp [Value.oneCell']) ?_
  have H26 := Keep.mk (H25.out.setRow #[.slice (some ⟨g, 0, none⟩) 1 cap, .map (some fb)])
  have g_w6 : Keep (Grown w5 (w5.setRow b2 #[.slice (some ⟨g, 0, none⟩) 1 cap, .map (some fb)]) fun k => k = b2) := ⟨Grown.setRow w5 b2 _ fun _ => rfl⟩
  clear H25
  generalize w5.setRow b2 #[.slice (some ⟨g, 0, none⟩) 1 cap, .map (some fb)] = w6 at *
  simp only [Act.put]
  refine WL.nil ?_
  refine hK13 _ _ ?_
  refine wp_ret ?_
  exact bodyPost_ret (v := .agg #[.slice (some ⟨g, 0, none⟩) 1 cap, .map (some fb)]) (results_cell_row Tryz.results49 _ _ b2 114 _ (0, 0) _ rfl H26.out Tryz.underlying114 rfl (by kernel_rfl)) rfl ⟨fb, rfl, by have h1 := N2.out; omega, by rw [g_w6.out.block fb (Array.getElem?_eq_some_iff.1 HF5'.out).1 (by have h1 := N2.out; omega)]; exact HF5'.out, B5.out.trans (g_w6.out.to_below (fun k hk e => by have h1 := N2.out; omega) B5.out.size)⟩
set_option maxRecDepth 8000 in
theorem turn_is (g cap fb bp : Nat) (w : World) : Calls Tryz.prog 52 #[.agg #[.slice (some ⟨g, 0, none⟩) 1 cap, .map (some fb)], .agg (vtx x0.f 1 (.slice (some ⟨bp, 0, none⟩) 0 0))] w fun e w' => e = .returned (.int .i64 0) ∧ Below w.heap.size w w' := by
  go_enter Tryz.func52, Tryz.ntmps52
  refine wp_seq_k fun K1 hK1 => ?_
  refine wp_region_list (WL.out ?_)
  refine WL.box (by kernel_rfl) 114 (.tmp 0) rfl #[.slice (some ⟨g, 0, none⟩) 1 cap, .map (some fb)] rfl ?_
  have H2 := Keep.mk (Blk.new w 114 #[.slice (some ⟨g, 0, none⟩) 1 cap, .map (some fb)])
  have b_b2 := Keep.mk (below_new w (.cells #[.slice (some ⟨g, 0, none⟩) 1 cap, .map (some fb)] 114))
  change WL _ _ _ _ _ (w.alloc (.cells #[.slice (some ⟨g, 0, none⟩) 1 cap, .map (some fb)] 114))
  generalize w.alloc (.cells #[.slice (some ⟨g, 0, none⟩) 1 cap, .map (some fb)] 114) = w1 at *
  obtain ⟨b2, hb2⟩ : ∃ z, Keep (z = w.heap.size) := ⟨_, ⟨rfl⟩⟩
  rw [← hb2.out] at H2 ⊢
  simp only [Act.put, List.setIfInBounds_toArray, List.set_cons_zero, List.set_cons_succ]
  refine WL.box (by kernel_rfl) 61 (.tmp 1) rfl (vtx x0.f 1 (.slice (some ⟨bp, 0, none⟩) 0 0)) rfl ?_
  have H3 := Keep.mk (Blk.new w1 61 (vtx x0.f 1 (.slice (some ⟨bp, 0, none⟩) 0 0)))
  have b_b3 := Keep.mk (below_new w1 (.cells (vtx x0.f 1 (.slice (some ⟨bp, 0, none⟩) 0 0)) 61))
  change WL _ _ _ _ _ (w1.alloc (.cells (vtx x0.f 1 (.slice (some ⟨bp, 0, none⟩) 0 0)) 61))
  generalize w1.alloc (.cells (vtx x0.f 1 (.slice (some ⟨bp, 0, none⟩) 0 0)) 61) = w2 at *
  obtain ⟨b3, hb3⟩ : ∃ z, Keep (z = w1.heap.size) := ⟨_, ⟨rfl⟩⟩
  rw [← hb3.out] at H3 ⊢
  have c33 : w2.cell? ⟨b3, 33, none⟩ = some (.slice (some ⟨bp, 0, none⟩) 0 0) := H3.out.c 33 (vtx_ps _ _ _)
  have B2 : Keep (Below w.heap.size w w2) := ⟨b_b2.out.trans (b_b3.out.mono b_b2.out.size)⟩
  clear H2
  simp only [Act.put, List.setIfInBounds_toArray, List.set_cons_zero, List.set_cons_succ]
  refine WL.val (by kernel_rfl) (.int .i64 0) (by go_simp) ?_
  simp only [Act.put, List.setIfInBounds_toArray, List.set_cons_zero, List.set_cons_succ]
  refine WL.nil ?_
  refine hK1 _ _ ?_
  refine wp_seq_k fun K2 hK2 => ?_
  refine wp_region_list (WL.out ?_)
  refine WL.val (by kernel_rfl) (.int .i64 0) (by go_simp) ?_
  simp only [Act.put, List.setIfInBounds_toArray, List.set_cons_zero, List.set_cons_succ]
  refine WL.nil ?_
  refine hK2 _ _ ?_
  refine wp_seq_k fun K3 hK3 => ?_
  refine wp_seq_k fun K4 hK4 => ?_
  refine wp_region_list (WL.out ?_)
  refine WL.val (by kernel_rfl) (.pointer (some ⟨b3, 33, none⟩)) (by go_simp) ?_
  simp only [Act.put, List.setIfInBounds_toArray, List.set_cons_zero, List.set_cons_succ]
  refine WL.val (by kernel_rfl) (.slice (some ⟨bp, 0, none⟩) 0 0) (by go_simp) ?_
  simp only [Act.put, List.setIfInBounds_toArray, List.set_cons_zero, List.set_cons_succ]
  refine WL.val (by kernel_rfl) (.int .i64 0) (by go_simp) ?_
  simp only [Act.put, List.setIfInBounds_toArray, List.set_cons_zero, List.set_cons_succ]
  refine WL.val (by kernel_rfl) (.int .i64 0) (by go_simp) ?_
  simp only [Act.put, List.setIfInBounds_toArray, List.set_cons_zero, List.set_cons_succ]
  refine WL.nil ?_
  refine hK4 _ _ ?_
  refine wp_block ?_
  refine wp_loop_rounds 1 ?_
  rw [rounds_succ]
  refine wp_seq_k fun K5 hK5 => ?_
  refine wp_region_list (WL.out ?_)
  refine WL.val (by kernel_rfl) (.bool false) (by go_simp) ?_
  simp only [Act.put, List.setIfInBounds_toArray, List.set_cons_zero, List.set_cons_succ]
  refine WL.nil ?_
  refine hK5 _ _ ?_
  refine wp_seq_k fun K6 hK6 => ?_
  refine wp_cond_false rfl ?_
  refine wp_exit ?_
  refine hK3 _ _ ?_
  refine wp_seq_k fun K7 hK7 => ?_
  refine wp_region_list (WL.out ?_)
  refine WL.val (by kernel_rfl) (.int .i64 0) (by go_simp) ?_
  simp only [Act.put, List.setIfInBounds_toArray, List.set_cons_zero, List.set_cons_succ]
  refine WL.val (by kernel_rfl) (.int .i64 0) (by go_simp) ?_
  simp only [Act.put, List.setIfInBounds_toArray, List.set_cons_zero, List.set_cons_succ]
  refine WL.nil ?_
  refine hK7 _ _ ?_
  refine wp_ret ?_
  go_ret
  exact ⟨rfl, B2.out⟩
set_option maxRecDepth 8000 in
theorem clock_is (g cap fb bp : Nat) (w : World) : Calls Tryz.prog 54 #[.agg #[.slice (some ⟨g, 0, none⟩) 1 cap, .map (some fb)], .agg (vtx x0.f 1 (.slice (some ⟨bp, 0, none⟩) 0 0))] w fun e w' => e = .returned (.int .i64 1) ∧ Below w.heap.size w w' := by
  go_enter Tryz.func54, Tryz.ntmps54
  refine wp_seq_k fun K1 hK1 => ?_
  refine wp_region_list (WL.out ?_)
  refine WL.box (by kernel_rfl) 114 (.tmp 0) rfl #[.slice (some ⟨g, 0, none⟩) 1 cap, .map (some fb)] rfl ?_
  have H2 := Keep.mk (Blk.new w 114 #[.slice (some ⟨g, 0, none⟩) 1 cap, .map (some fb)])
  have b_b2 := Keep.mk (below_new w (.cells #[.slice (some ⟨g, 0, none⟩) 1 cap, .map (some fb)] 114))
  change WL _ _ _ _ _ (w.alloc (.cells #[.slice (some ⟨g, 0, none⟩) 1 cap, .map (some fb)] 114))
  generalize w.alloc (.cells #[.slice (some ⟨g, 0, none⟩) 1 cap, .map (some fb)] 114) = w1 at *
  obtain ⟨b2, hb2⟩ : ∃ z, Keep (z = w.heap.size) := ⟨_, ⟨rfl⟩⟩
  rw [← hb2.out] at H2 ⊢
  simp only [Act.put, List.setIfInBounds_toArray, List.set_cons_zero, List.set_cons_succ]
  refine WL.box (by kernel_rfl) 61 (.tmp 1) rfl (vtx x0.f 1 (.slice (some ⟨bp, 0, none⟩) 0 0)) rfl ?_
  have H3 := Keep.mk (Blk.new w1 61 (vtx x0.f 1 (.slice (some ⟨bp, 0, none⟩) 0 0)))
  have b_b3 := Keep.mk (below_new w1 (.cells (vtx x0.f 1 (.slice (some ⟨bp, 0, none⟩) 0 0)) 61))
  change WL _ _ _ _ _ (w1.alloc (.cells (vtx x0.f 1 (.slice (some ⟨bp, 0, none⟩) 0 0)) 61))
  generalize w1.alloc (.cells (vtx x0.f 1 (.slice (some ⟨bp, 0, none⟩) 0 0)) 61) = w2 at *
  obtain ⟨b3, hb3⟩ : ∃ z, Keep (z = w1.heap.size) := ⟨_, ⟨rfl⟩⟩
  rw [← hb3.out] at H3 ⊢
  have c33 : w2.cell? ⟨b3, 33, none⟩ = some (.slice (some ⟨bp, 0, none⟩) 0 0) := H3.out.c 33 (vtx_ps _ _ _)
  have B2 : Keep (Below w.heap.size w w2) := ⟨b_b2.out.trans (b_b3.out.mono b_b2.out.size)⟩
  clear H2
  simp only [Act.put, List.setIfInBounds_toArray, List.set_cons_zero, List.set_cons_succ]
  refine WL.val (by kernel_rfl) (.int .i64 0) (by go_simp) ?_
  simp only [Act.put, List.setIfInBounds_toArray, List.set_cons_zero, List.set_cons_succ]
  refine WL.nil ?_
  refine hK1 _ _ ?_
  refine wp_seq_k fun K2 hK2 => ?_
  refine wp_region_list (WL.out ?_)
  refine WL.val (by kernel_rfl) (.int .i64 0) (by go_simp) ?_
  simp only [Act.put, List.setIfInBounds_toArray, List.set_cons_zero, List.set_cons_succ]
  refine WL.nil ?_
  refine hK2 _ _ ?_
  refine wp_seq_k fun K3 hK3 => ?_
  refine wp_seq_k fun K4 hK4 => ?_
  refine wp_region_list (WL.out ?_)
  refine WL.val (by kernel_rfl) (.pointer (some ⟨b3, 33, none⟩)) (by go_simp) ?_
  simp only [Act.put, List.setIfInBounds_toArray, List.set_cons_zero, List.set_cons_succ]
  refine WL.val (by kernel_rfl) (.slice (some ⟨bp, 0, none⟩) 0 0) (by go_simp) ?_
  simp only [Act.put, List.setIfInBounds_toArray, List.set_cons_zero, List.set_cons_succ]
  refine WL.val (by kernel_rfl) (.int .i64 0) (by go_simp) ?_
  simp only [Act.put, List.setIfInBounds_toArray, List.set_cons_zero, List.set_cons_succ]
  refine WL.val (by kernel_rfl) (.int .i64 0) (by go_simp) ?_
  simp only [Act.put, List.setIfInBounds_toArray, List.set_cons_zero, List.set_cons_succ]
  refine WL.nil ?_
  refine hK4 _ _ ?_
  refine wp_block ?_
  refine wp_loop_rounds 1 ?_
  rw [rounds_succ]
  refine wp_seq_k fun K5 hK5 => ?_
  refine wp_region_list (WL.out ?_)
  refine WL.val (by kernel_rfl) (.bool false) (by go_simp) ?_
  simp only [Act.put, List.setIfInBounds_toArray, List.set_cons_zero, List.set_cons_succ]
  refine WL.nil ?_
  refine hK5 _ _ ?_
  refine wp_seq_k fun K6 hK6 => ?_
  refine wp_cond_false rfl ?_
  refine wp_exit ?_
  refine hK3 _ _ ?_
  refine wp_seq_k fun K7 hK7 => ?_
  refine wp_region_list (WL.out ?_)
  refine WL.val (by kernel_rfl) (.int .i64 0) (by go_simp) ?_
  simp only [Act.put, List.setIfInBounds_toArray, List.set_cons_zero, List.set_cons_succ]
  refine WL.val (by kernel_rfl) (.int .i64 1) (by kernel_rfl) ?_
  simp only [Act.put, List.setIfInBounds_toArray, List.set_cons_zero, List.set_cons_succ]
  refine WL.val (by kernel_rfl) (.int .i64 1) (by go_simp) ?_
  simp only [Act.put, List.setIfInBounds_toArray, List.set_cons_zero, List.set_cons_succ]
  refine WL.nil ?_
  refine hK7 _ _ ?_
  refine wp_ret ?_
  go_ret
  exact ⟨rfl, B2.out⟩

theorem Tryz.in50 (w : World) (vs : Array Value) : (callFunc 50 vs).run Tryz.prog w = .ok (.enter 50 vs) w := by kernel_rfl
theorem Tryz.in51 (w : World) (vs : Array Value) : (callFunc 51 vs).run Tryz.prog w = .ok (.enter 51 vs) w := by kernel_rfl
theorem wp_app1 {Q : Exit → Act → World → Prop} {o : Oper} {a : Act} {w : World} {K : Act → World → Prop} (sl : TypeId) (s x : Operand)
    (ho : o.op = .call { callee := .builtin .append, args := #[s, x], argTypes := #[sl, sl] }) (v : Value) (g : Nat)
    (hs : a.eval s = v) (hx : a.eval x = .slice (some ⟨g, 0, none⟩) 1 1) (R : Value → World → Prop) (hr : ∀ ty, ∃ v' w', (Builtin.append_ #[sl, sl] ty #[v, .slice (some ⟨g, 0, none⟩) 1 1]).run Tryz.prog w = .ok v' w' ∧ R v' w')
    (h : ∀ v' w', R v' w' → K (a.put o.dst v') w') : o.wp Tryz.prog a w K Q := by
  obtain ⟨v', w', hr, h1⟩ := hr o.type
  unfold Oper.wp execOp
  simp only [ho, resolve, invoke, builtin, Sem.run_bind, Sem.run_pure, Result.andThen_ok, List.map_toArray, List.map_cons, List.map_nil, hs, hx, hr]
  exact h v' w' h1
theorem mk116 (w : World) : (Instr.makeSlice 116 (.int .i64 1) (.int .i64 1)).run Tryz.prog w = .ok (.slice (some ⟨w.heap.size, 0, none⟩) 1 1) (w.alloc (.cells #[.slice none 0 0] 25)) := by kernel_rfl
theorem nil_own (k : Nat) : ¬ (Value.slice none 0 0).ownBlock = some k := by simp [Value.ownBlock]
theorem one_own {w : World} {v : Value} {x : Hs} (h : OwnH w v [x]) : ∃ g cap, v = .slice (some ⟨g, 0, none⟩) 1 cap ∧ 1 ≤ cap ∧ w.rangeAt g 0 (bytesA 32 x.f).toList := by
  rcases h.form with ⟨_, e⟩ | ⟨g, cap, cur, rfl, h3, h4, h5⟩
  · cases e
  · refine ⟨g, cap, rfl, h4, fun j u hu => ?_⟩
    have hj : j < 32 := by have := (List.getElem?_eq_some_iff.1 hu).1; rw [Array.length_toList, bytesA_size] at this; exact this
    have h5' : cur.toList.take 32 = (bytesA 32 x.f).toList := by
      have h6 : cur.toList.take 32 = flatH [x] := h5
      rw [h6]
      have h7 := encH_arr x
      rw [← h7]
      simp [flatH]
    rw [Nat.zero_add, h3.cell, ← Array.getElem?_toList]
    rw [← h5', List.getElem?_take_of_lt hj] at hu
    exact hu
theorem bs0 (w : World) : Calls Tryz.prog 79 #[.slice none 0 0, .agg (bytesA 32 x0.f), .func (.func 80) #[] #[]] w fun e w' => e = .returned (.tuple #[.int .i64 0, .bool false]) ∧ Below w.heap.size w w' := by
  refine (bsearch_any (.slice none 0 0) [] x0 w (.inl ⟨none, 0, rfl, rfl, fun _ => rfl⟩) (fun i j _ h => absurd h (by simp)) (by decide)).mono ?_
  rintro e w' ⟨i, fd, rfl, h1, _, _, h4, hb⟩
  have hi : i = 0 := Nat.le_zero.1 h1
  subst hi
  have hf : fd = false := by
    cases fd with
    | false => rfl
    | true => exact absurd (h4.1 rfl).1 (by simp)
  subst hf
  exact ⟨rfl, hb⟩
theorem ins0 (gx : Nat) (w : World) (hG : Blk w gx 50 (bytesA 32 x0.f)) : Calls Tryz.prog 81 #[.slice none 0 0, .int .i64 0, .slice (some ⟨gx, 0, none⟩) 1 1] w fun e w' => ∃ v', e = .returned v' ∧ OwnH w' v' [x0] ∧ (∀ k, v'.ownBlock = some k → w.heap.size ≤ k) ∧ Below w.heap.size w w' := by
  refine (show Calls Tryz.prog 81 #[.slice none 0 0, .int .i64 0, .slice (some ⟨gx, 0, none⟩) 1 1] w _ from ins_end (.slice none 0 0) [] gx x0 w (ownH_nil w) hG (by decide)).mono ?_
  rintro e w' ⟨v', rfl, h1, h2, h3⟩
  refine ⟨v', rfl, h1, fun k hk => ?_, h2.to_below (fun k _ e => nil_own k e) (Nat.le_refl _)⟩
  rcases h3 with h | ⟨j, h4, h5⟩
  · rw [hk] at h; exact absurd h.symm (nil_own k)
  · rw [hk] at h4; cases h4; exact h5
theorem app0H (ty : TypeId) (w : World) (g : Nat) (hg : Blk w g 50 (bytesA 32 x0.f)) : ∃ v' w', (Builtin.append_ #[25, 25] ty #[.slice none 0 0, .slice (some ⟨g, 0, none⟩) 1 1]).run Tryz.prog w = .ok v' w' ∧ OwnH w' v' [x0] ∧ (∀ k, v'.ownBlock = some k → w.heap.size ≤ k) ∧ Below w.heap.size w w' := by
  obtain ⟨v', w', hr, h1, h2, h3⟩ := run_appH w ty (.slice none 0 0) [] (ownH_nil w) g x0 hg (by decide)
  refine ⟨v', w', hr, h1, fun k hk => ?_, h2.to_below (fun k _ e => nil_own k e) (Nat.le_refl _)⟩
  rcases h3 with h | ⟨j, h4, h5⟩
  · rw [hk] at h; exact absurd h.symm (nil_own k)
  · rw [hk] at h4; cases h4; exact h5
set_option maxRecDepth 8000 in
set_option maxHeartbeats 1000000 in
theorem join_is (gh ch : Nat) (w : World) (HR : Keep (w.rangeAt gh 0 (bytesA 32 x0.f).toList)) : Calls Tryz.prog 51 #[.slice none 0 0, .slice (some ⟨gh, 0, none⟩) 1 ch] w fun e w' => ∃ v', e = .returned v' ∧ OwnH w' v' [x0] ∧ (∀ k, v'.ownBlock = some k → w.heap.size ≤ k) ∧ Below w.heap.size w w' := by
  go_enter Tryz.func51, Tryz.ntmps51
  refine wp_seq_k fun K1 hK1 => ?_
  refine wp_region_list (WL.out ?_)
  refine WL.val (by kernel_rfl) (.slice none 0 0) (by go_simp) ?_
  simp only [Act.put, List.setIfInBounds_toArray, List.set_cons_zero, List.set_cons_succ]
  refine WL.nil ?_
  refine hK1 _ _ ?_
  refine wp_seq_k fun K2 hK2 => ?_
  refine wp_seq_k fun K3 hK3 => ?_
  refine wp_region_list (WL.out ?_)
  refine WL.val (by kernel_rfl) (.slice (some ⟨gh, 0, none⟩) 1 ch) (by go_simp) ?_
  simp only [Act.put, List.setIfInBounds_toArray, List.set_cons_zero, List.set_cons_succ]
  refine WL.val (by kernel_rfl) (.int .i64 1) (by go_simp) ?_
  simp only [Act.put, List.setIfInBounds_toArray, List.set_cons_zero, List.set_cons_succ]
  refine WL.val (by kernel_rfl) (.int .i64 0) (by go_simp) ?_
  simp only [Act.put, List.setIfInBounds_toArray, List.set_cons_zero, List.set_cons_succ]
  refine WL.nil ?_
  refine hK3 _ _ ?_
  refine wp_block ?_
  refine wp_loop_rounds 2 ?_
  rw [rounds_succ]
  refine wp_seq_k fun K4 hK4 => ?_
  refine wp_region_list (WL.out ?_)
  refine WL.val (by kernel_rfl) (.bool true) (by go_simp) ?_
  simp only [Act.put, List.setIfInBounds_toArray, List.set_cons_zero, List.set_cons_succ]
  refine WL.nil ?_
  refine hK4 _ _ ?_
  refine wp_seq_k fun K5 hK5 => ?_
  refine wp_cond_true rfl ?_
  refine wp_skip ?_
  refine hK5 _ _ ?_
  refine wp_seq_k fun K6 hK6 => ?_
  refine wp_block ?_
  refine wp_seq_k fun K7 hK7 => ?_
  refine wp_region_list (WL.out ?_)
  refine WL.val (by kernel_rfl) (.pointer (some ⟨gh, 0, none⟩)) (by go_simp) ?_
  simp only [Act.put, List.setIfInBounds_toArray, List.set_cons_zero, List.set_cons_succ]
  refine WL.midA (by kernel_rfl) 50 (.tmp 13) rfl gh 0 rfl (bytesA 32 x0.f) _ HR.out Tryz.underlying50 rfl (size51E _) ?_
  simp only [Act.put, List.setIfInBounds_toArray, List.set_cons_zero, List.set_cons_succ]
  refine WL.new (by kernel_rfl) 50 rfl _ Tryz.new50h ?_
  have H6 := Keep.mk (Blk.new w 50 (bytesA 32 fun _ => 0))
  have b_b6 := Keep.mk (below_new w (.cells (bytesA 32 fun _ => 0) 50))
  generalize w.alloc (.cells (bytesA 32 fun _ => 0) 50) = w1 at *
  obtain ⟨b6, hb6⟩ : ∃ z, Keep (z = w.heap.size) := ⟨_, ⟨rfl⟩⟩
  rw [← hb6.out] at H6 ⊢
  simp only [Act.put, List.setIfInBounds_toArray, List.set_cons_zero, List.set_cons_succ]
  refine WL.storeR (by kernel_rfl) 50 (.tmp 6) (.tmp 14) rfl b6 (bytesA 32 x0.f) rfl rfl 50 (bytesA 32 fun _ => 0) H6.out (size51E _) (bytesA_sizes _ _ _) (bytesA_one _ _) ?_
  have H7 := Keep.mk (H6.out.setRow (bytesA 32 x0.f))
  have g_w2 : Keep (Grown w1 (w1.setRow b6 (bytesA 32 x0.f)) fun k => k = b6) := ⟨Grown.setRow w1 b6 _ fun _ => rfl⟩
  clear H6
  generalize w1.setRow b6 (bytesA 32 x0.f) = w2 at *
  have B2 : Keep (Below w.heap.size w w2) := ⟨b_b6.out.trans (g_w2.out.to_below (fun k hk e => by have h1 := hb6.out; omega) b_b6.out.size)⟩
  clear b_b6 g_w2
  simp only [Act.put]
  refine WL.nil ?_
  refine hK7 _ _ ?_
  refine wp_seq_k fun K8 hK8 => ?_
  refine wp_region_list (WL.out ?_)
  refine WL.val (by kernel_rfl) (.slice none 0 0) (by go_simp) ?_
  simp only [Act.put, List.setIfInBounds_toArray, List.set_cons_zero, List.set_cons_succ]
  refine WL.row (by kernel_rfl) 50 (.tmp 6) rfl b6 rfl 50 (bytesA 32 x0.f) _ H7.out Tryz.underlying50 rfl (size51E _) ?_
  simp only [Act.put, List.setIfInBounds_toArray, List.set_cons_zero, List.set_cons_succ]
  refine WL.callF (by kernel_rfl) 79 _ _ rfl Tryz.in79 #[.slice none 0 0, .agg (bytesA 32 x0.f), .func (.func 80) #[] #[]] (by simp [Act.eval]) ?_
  refine (bs0 w2).mono ?_
  rintro e w3 ⟨rfl, hb⟩
  refine ⟨_, rfl, ?_⟩
  have H73 := Keep.mk (H7.out.below hb H7.out.lt)
  have B3 : Keep (Below w.heap.size w w3) := ⟨B2.out.trans (hb.mono B2.out.size)⟩
  clear hb H7 B2
  simp only [Act.put, List.setIfInBounds_toArray, List.set_cons_zero, List.set_cons_succ]
  refine WL.val (by kernel_rfl) (.tuple #[.int .i64 0, .bool false]) (by go_simp) ?_
  simp only [Act.put, List.setIfInBounds_toArray, List.set_cons_zero, List.set_cons_succ]
  refine WL.val (by kernel_rfl) (.int .i64 0) (by go_simp) ?_
  simp only [Act.put, List.setIfInBounds_toArray, List.set_cons_zero, List.set_cons_succ]
  refine WL.val (by kernel_rfl) (.bool false) (by go_simp) ?_
  simp only [Act.put, List.setIfInBounds_toArray, List.set_cons_zero, List.set_cons_succ]
  refine WL.val (by kernel_rfl) (.int .i64 0) (by go_simp) ?_
  simp only [Act.put, List.setIfInBounds_toArray, List.set_cons_zero, List.set_cons_succ]
  refine WL.val (by kernel_rfl) (.bool false) (by go_simp) ?_
  simp only [Act.put, List.setIfInBounds_toArray, List.set_cons_zero, List.set_cons_succ]
  refine WL.nil ?_
  refine hK8 _ _ ?_
  refine wp_seq_k fun K9 hK9 => ?_
  refine wp_region_list (WL.out ?_)
  refine WL.val (by kernel_rfl) (.bool false) (by go_simp) ?_
  simp only [Act.put, List.setIfInBounds_toArray, List.set_cons_zero, List.set_cons_succ]
  refine WL.val (by kernel_rfl) (.bool true) (by go_simp) ?_
  simp only [Act.put, List.setIfInBounds_toArray, List.set_cons_zero, List.set_cons_succ]
  refine WL.nil ?_
  refine hK9 _ _ ?_
  refine wp_cond_true rfl ?_
  refine wp_region_list (WL.out ?_)
  refine WL.val (by kernel_rfl) (.slice none 0 0) (by go_simp) ?_
  simp only [Act.put, List.setIfInBounds_toArray, List.set_cons_zero, List.set_cons_succ]
  refine WL.val (by kernel_rfl) (.int .i64 0) (by go_simp) ?_
  simp only [Act.put, List.setIfInBounds_toArray, List.set_cons_zero, List.set_cons_succ]
  refine WL.row (by kernel_rfl) 50 (.tmp 6) rfl b6 rfl 50 (bytesA 32 x0.f) _ H73.out Tryz.underlying50 rfl (size51E _) ?_
  simp only [Act.put, List.setIfInBounds_toArray, List.set_cons_zero, List.set_cons_succ]
  refine WL.bs (by kernel_rfl) 25 1 _ rfl #[(0, .agg (bytesA 32 x0.f))] (by simp [Act.eval]) _ _ (bsH x0 w3) ?_
  have HG4 := Keep.mk (Blk.new w3 50 (bytesA 32 x0.f))
  have B4 : Keep (Below w.heap.size w (w3.alloc (.cells (bytesA 32 x0.f) 50))) := ⟨B3.out.trans ((below_new w3 (.cells (bytesA 32 x0.f) 50)).mono B3.out.size)⟩
  generalize w3.alloc (.cells (bytesA 32 x0.f) 50) = w4 at *
  generalize w3.heap.size = gx at *
  clear B3
  simp only [Act.put, List.setIfInBounds_toArray, List.set_cons_zero, List.set_cons_succ]
  refine WL.callF (by kernel_rfl) 81 _ _ rfl Tryz.in81 #[.slice none 0 0, .int .i64 0, .slice (some ⟨gx, 0, none⟩) 1 1] (by simp [Act.eval]) ?_
  refine (ins0 gx w4 HG4.out).mono ?_
  rintro e w5 ⟨v5, rfl, k1, k2, hb⟩
  refine ⟨_, rfl, ?_⟩
  have HO5 := Keep.mk k1
  have HN5 : Keep (∀ k, v5.ownBlock = some k → w.heap.size ≤ k) := ⟨fun k hk => Nat.le_trans B4.out.size (k2 k hk)⟩
  have B5 : Keep (Below w.heap.size w w5) := ⟨B4.out.trans (hb.mono B4.out.size)⟩
  clear k1 k2 hb B4
  simp only [Act.put, List.setIfInBounds_toArray, List.set_cons_zero, List.set_cons_succ]
  refine WL.val (by kernel_rfl) (v5) (by go_simp) ?_
  simp only [Act.put, List.setIfInBounds_toArray, List.set_cons_zero, List.set_cons_succ]
  refine WL.nil ?_
  refine hK6 _ _ ?_
  refine wp_region_list (WL.out ?_)
  refine WL.val (by kernel_rfl) (.int .i64 1) (by kernel_rfl) ?_
  simp only [Act.put, List.setIfInBounds_toArray, List.set_cons_zero, List.set_cons_succ]
  refine WL.val (by kernel_rfl) (.int .i64 1) (by go_simp) ?_
  simp only [Act.put, List.setIfInBounds_toArray, List.set_cons_zero, List.set_cons_succ]
  refine WL.nil ?_
  simp only [Exit.then, Exit.inBlock]
  rw [rounds_succ]
  refine wp_seq_k fun K10 hK10 => ?_
  refine wp_region_list (WL.out ?_)
  refine WL.val (by kernel_rfl) (.bool false) (by go_simp) ?_
  simp only [Act.put, List.setIfInBounds_toArray, List.set_cons_zero, List.set_cons_succ]
  refine WL.nil ?_
  refine hK10 _ _ ?_
  refine wp_seq_k fun K11 hK11 => ?_
  refine wp_cond_false rfl ?_
  refine wp_exit ?_
  refine hK2 _ _ ?_
  refine wp_seq_k fun K12 hK12 => ?_
  refine wp_region_list (WL.out ?_)
  refine WL.val (by kernel_rfl) (v5) (by go_simp) ?_
  simp only [Act.put, List.setIfInBounds_toArray, List.set_cons_zero, List.set_cons_succ]
  refine WL.val (by kernel_rfl) (v5) (by go_simp) ?_
  simp only [Act.put, List.setIfInBounds_toArray, List.set_cons_zero, List.set_cons_succ]
  refine WL.nil ?_
  refine hK12 _ _ ?_
  refine wp_ret ?_
  go_ret
  exact ⟨v5, rfl, HO5.out, HN5.out, B5.out⟩
set_option maxRecDepth 8000 in
set_option maxHeartbeats 1000000 in
theorem due_is (g cap gr cr bp : Nat) (X : Array Value) (hX : Keep (X = (ptA 10 (.slice (some ⟨gr, 0, none⟩) 5 cr) x0.f 1 (.slice (some ⟨bp, 0, none⟩) 0 0)))) (fb : Nat) (w : World) (HX : Keep (w.rangeAt g 0 X.toList)) (HF : Keep (w.heap[fb]? = some (.map #[⟨.agg (bytesA 32 x0.f), .int .i64 0, 0⟩] 1))) : Calls Tryz.prog 50 #[.agg #[.slice (some ⟨g, 0, none⟩) 1 cap, .map (some fb)]] w fun e w' => ∃ lb gv cv, e = .returned (.slice (some ⟨lb, 0, none⟩) 1 1) ∧ w'.cell? ⟨lb, 0, none⟩ = some (.slice (some ⟨gv, 0, none⟩) 1 cv) ∧ OwnH w' (.slice (some ⟨gv, 0, none⟩) 1 cv) [x0] ∧ Below w.heap.size w w' := by
  go_enter Tryz.func50, Tryz.ntmps50
  refine wp_seq_k fun K1 hK1 => ?_
  refine wp_region_list (WL.out ?_)
  refine WL.box (by kernel_rfl) 114 (.tmp 0) rfl #[.slice (some ⟨g, 0, none⟩) 1 cap, .map (some fb)] rfl ?_
  have H1 := Keep.mk (Blk.new w 114 #[.slice (some ⟨g, 0, none⟩) 1 cap, .map (some fb)])
  have b_b1 := Keep.mk (below_new w (.cells #[.slice (some ⟨g, 0, none⟩) 1 cap, .map (some fb)] 114))
  change WL _ _ _ _ _ (w.alloc (.cells #[.slice (some ⟨g, 0, none⟩) 1 cap, .map (some fb)] 114))
  generalize w.alloc (.cells #[.slice (some ⟨g, 0, none⟩) 1 cap, .map (some fb)] 114) = w1 at *
  obtain ⟨b1, hb1⟩ : ∃ z, Keep (z = w.heap.size) := ⟨_, ⟨rfl⟩⟩
  rw [← hb1.out] at H1 ⊢
  have HX1 := Keep.mk (rng_grown HX.out (Grown.below (S := fun _ => False) b_b1.out) (fun e => e))
  have HF1 : Keep (w1.heap[fb]? = some (.map #[⟨.agg (bytesA 32 x0.f), .int .i64 0, 0⟩] 1)) := ⟨by rw [b_b1.out.block fb (Array.getElem?_eq_some_iff.1 HF.out).1]; exact HF.out⟩
  simp only [Act.put, List.setIfInBounds_toArray, List.set_cons_zero, List.set_cons_succ]
  refine WL.val (by kernel_rfl) (.slice none 0 0) (by go_simp) ?_
  simp only [Act.put, List.setIfInBounds_toArray, List.set_cons_zero, List.set_cons_succ]
  refine WL.nil ?_
  refine hK1 _ _ ?_
  refine wp_seq_k fun K2 hK2 => ?_
  refine wp_region_list (WL.out ?_)
  refine WL.val (by kernel_rfl) (.pointer (some ⟨b1, 0, none⟩)) (by go_simp) ?_
  simp only [Act.put, List.setIfInBounds_toArray, List.set_cons_zero, List.set_cons_succ]
  have cS := H1.out.c 0 rfl
  refine WL.val (by kernel_rfl) (.slice (some ⟨g, 0, none⟩) 1 cap) (by go_simp) ?_
  clear cS
  simp only [Act.put, List.setIfInBounds_toArray, List.set_cons_zero, List.set_cons_succ]
  refine WL.val (by kernel_rfl) (.int .i64 1) (by go_simp) ?_
  simp only [Act.put, List.setIfInBounds_toArray, List.set_cons_zero, List.set_cons_succ]
  refine WL.valW (by kernel_rfl) (.slice (some ⟨w1.heap.size, 0, none⟩) 1 1) (w1.alloc (.cells #[.slice none 0 0] 25)) (by go_simp; rw [mk116]; rfl) ?_
  have HL2 := Keep.mk (Blk.new w1 25 #[.slice none 0 0])
  have b_l := Keep.mk (below_new w1 (.cells #[.slice none 0 0] 25))
  generalize w1.alloc (.cells #[.slice none 0 0] 25) = w2 at *
  obtain ⟨lb, hlb⟩ : ∃ z, Keep (z = w1.heap.size) := ⟨_, ⟨rfl⟩⟩
  rw [← hlb.out] at HL2 ⊢
  have H12 := Keep.mk (H1.out.below b_l.out H1.out.lt)
  have HX2 := Keep.mk (rng_grown HX1.out (Grown.below (S := fun _ => False) b_l.out) (fun e => e))
  have HF2 : Keep (w2.heap[fb]? = some (.map #[⟨.agg (bytesA 32 x0.f), .int .i64 0, 0⟩] 1)) := ⟨by rw [b_l.out.block fb (Array.getElem?_eq_some_iff.1 HF1.out).1]; exact HF1.out⟩
  have B2 : Keep (Below w.heap.size w w2) := ⟨b_b1.out.trans (b_l.out.mono b_b1.out.size)⟩
  have N2 : Keep (w.heap.size ≤ b1 ∧ b1 < lb) := ⟨by have h1 := hb1.out; have h2 := hlb.out; have h3 := H1.out.lt; omega⟩
  clear H1 HX1 HF1 b_b1 b_l
  simp only [Act.put, List.setIfInBounds_toArray, List.set_cons_zero, List.set_cons_succ]
  refine WL.val (by kernel_rfl) (.slice (some ⟨lb, 0, none⟩) 1 1) (by go_simp) ?_
  simp only [Act.put, List.setIfInBounds_toArray, List.set_cons_zero, List.set_cons_succ]
  refine WL.nil ?_
  refine hK2 _ _ ?_
  refine wp_seq_k fun K3 hK3 => ?_
  refine wp_seq_k fun K4 hK4 => ?_
  refine wp_region_list (WL.out ?_)
  refine WL.val (by kernel_rfl) (.pointer (some ⟨b1, 0, none⟩)) (by go_simp) ?_
  simp only [Act.put, List.setIfInBounds_toArray, List.set_cons_zero, List.set_cons_succ]
  have cS := H12.out.c 0 rfl
  refine WL.val (by kernel_rfl) (.slice (some ⟨g, 0, none⟩) 1 cap) (by go_simp) ?_
  clear cS
  simp only [Act.put, List.setIfInBounds_toArray, List.set_cons_zero, List.set_cons_succ]
  refine WL.val (by kernel_rfl) (.int .i64 1) (by go_simp) ?_
  simp only [Act.put, List.setIfInBounds_toArray, List.set_cons_zero, List.set_cons_succ]
  refine WL.val (by kernel_rfl) (.int .i64 0) (by go_simp) ?_
  simp only [Act.put, List.setIfInBounds_toArray, List.set_cons_zero, List.set_cons_succ]
  refine WL.nil ?_
  refine hK4 _ _ ?_
  refine wp_block ?_
  refine wp_loop_rounds 2 ?_
  rw [rounds_succ]
  refine wp_seq_k fun K5 hK5 => ?_
  refine wp_region_list (WL.out ?_)
  refine WL.val (by kernel_rfl) (.bool true) (by go_simp) ?_
  simp only [Act.put, List.setIfInBounds_toArray, List.set_cons_zero, List.set_cons_succ]
  refine WL.nil ?_
  refine hK5 _ _ ?_
  refine wp_seq_k fun K6 hK6 => ?_
  refine wp_cond_true rfl ?_
  refine wp_skip ?_
  refine hK6 _ _ ?_
  refine wp_seq_k fun K7 hK7 => ?_
  refine wp_block ?_
  refine wp_seq_k fun K8 hK8 => ?_
  refine wp_region_list (WL.out ?_)
  refine WL.val (by kernel_rfl) (.pointer (some ⟨g, 0, none⟩)) (by go_simp) ?_
  simp only [Act.put, List.setIfInBounds_toArray, List.set_cons_zero, List.set_cons_succ]
  refine WL.midA (by kernel_rfl) 79 (.tmp 16) rfl g 0 rfl X _ HX2.out Tryz.underlying79 rfl (sizeX hX) ?_
  simp only [Act.put, List.setIfInBounds_toArray, List.set_cons_zero, List.set_cons_succ]
  refine WL.new (by kernel_rfl) 79 rfl _ Tryz.new79p ?_
  have H5 := Keep.mk (Blk.new w2 79 ptZ)
  have b_b5 := Keep.mk (below_new w2 (.cells ptZ 79))
  generalize w2.alloc (.cells ptZ 79) = w3 at *
  obtain ⟨b5, hb5⟩ : ∃ z, Keep (z = w2.heap.size) := ⟨_, ⟨rfl⟩⟩
  rw [← hb5.out] at H5 ⊢
  have H13 := Keep.mk (H12.out.below b_b5.out H12.out.lt)
  have HL3 := Keep.mk (HL2.out.below b_b5.out HL2.out.lt)
  have HF3 : Keep (w3.heap[fb]? = some (.map #[⟨.agg (bytesA 32 x0.f), .int .i64 0, 0⟩] 1)) := ⟨by rw [b_b5.out.block fb (Array.getElem?_eq_some_iff.1 HF2.out).1]; exact HF2.out⟩
  have B3 : Keep (Below w.heap.size w w3) := ⟨B2.out.trans (b_b5.out.mono B2.out.size)⟩
  have N5 : Keep (lb < b5 ∧ fb < b5) := ⟨by have h1 := hb5.out; have h2 := HL2.out.lt; have h3 := (Array.getElem?_eq_some_iff.1 HF2.out).1; omega⟩
  clear H12 HL2 HF2 B2 b_b5
  simp only [Act.put, List.setIfInBounds_toArray, List.set_cons_zero, List.set_cons_succ]
  refine WL.storeR (by kernel_rfl) 79 (.tmp 5) (.tmp 17) rfl b5 X rfl rfl 79 ptZ H5.out (sizeX hX) (by rw [hX.out, ptA_size, ptZ_size]) (by rw [hX.out]; exact ptA_one _ _ _ _ _ rfl rfl) ?_
  have H55 := Keep.mk (H5.out.setRow X)
  have g_w4 : Keep (Grown w3 (w3.setRow b5 X) fun k => k = b5) := ⟨Grown.setRow w3 b5 _ fun _ => rfl⟩
  clear H5
  generalize w3.setRow b5 X = w4 at *
  have H14 := Keep.mk (g_w4.out.blk H13.out (by have h1 := N2.out; have h2 := N5.out; omega))
  have HL4 := Keep.mk (g_w4.out.blk HL3.out (by have h2 := N5.out; omega))
  have HF4 : Keep (w4.heap[fb]? = some (.map #[⟨.agg (bytesA 32 x0.f), .int .i64 0, 0⟩] 1)) := ⟨by rw [g_w4.out.block fb (Array.getElem?_eq_some_iff.1 HF3.out).1 (by have h2 := N5.out; omega)]; exact HF3.out⟩
  have B4 : Keep (Below w.heap.size w w4) := ⟨B3.out.trans (g_w4.out.to_below (fun k hk e => by have h1 := N2.out; have h2 := N5.out; omega) B3.out.size)⟩
  have HV4 : Keep (w4.rangeAt b5 2 (vtx x0.f 1 (.slice (some ⟨bp, 0, none⟩) 0 0)).toList) := ⟨by have h := H55.out; rw [hX.out] at h; exact pt_vtx h⟩
  clear H13 HL3 HF3 B3
  simp only [Act.put]
  refine WL.nil ?_
  refine hK8 _ _ ?_
  refine wp_seq_k fun K9 hK9 => ?_
  refine wp_region_list (WL.out ?_)
  refine WL.row (by kernel_rfl) 114 (.tmp 1) rfl b1 rfl 114 #[.slice (some ⟨g, 0, none⟩) 1 cap, .map (some fb)] _ H14.out Tryz.underlying114 rfl (by kernel_rfl) ?_
  simp only [Act.put, List.setIfInBounds_toArray, List.set_cons_zero, List.set_cons_succ]
  refine WL.val (by kernel_rfl) (.pointer (some ⟨b5, 2, none⟩)) (by go_simp) ?_
  simp only [Act.put, List.setIfInBounds_toArray, List.set_cons_zero, List.set_cons_succ]
  refine WL.midA (by kernel_rfl) 61 (.tmp 19) rfl b5 2 rfl (vtx x0.f 1 (.slice (some ⟨bp, 0, none⟩) 0 0)) _ HV4.out Tryz.underlying61 rfl (sizeV62 _ _ _) ?_
  simp only [Act.put, List.setIfInBounds_toArray, List.set_cons_zero, List.set_cons_succ]
  refine WL.callF (by kernel_rfl) 52 _ _ rfl Tryz.in52 #[.agg #[.slice (some ⟨g, 0, none⟩) 1 cap, .map (some fb)], .agg (vtx x0.f 1 (.slice (some ⟨bp, 0, none⟩) 0 0))] (by simp [Act.eval]) ?_
  refine (turn_is g cap fb bp w4).mono ?_
  rintro e w5 ⟨rfl, hb⟩
  refine ⟨_, rfl, ?_⟩
  have H15 := Keep.mk (H14.out.below hb H14.out.lt)
  have HL5 := Keep.mk (HL4.out.below hb HL4.out.lt)
  have HF5 : Keep (w5.heap[fb]? = some (.map #[⟨.agg (bytesA 32 x0.f), .int .i64 0, 0⟩] 1)) := ⟨by rw [hb.block fb (Array.getElem?_eq_some_iff.1 HF4.out).1]; exact HF4.out⟩
  have HV5 := Keep.mk (vtx_id2 (rng_grown HV4.out (Grown.below (S := fun _ => False) hb) (fun e => e)))
  have B5 : Keep (Below w.heap.size w w5) := ⟨B4.out.trans (hb.mono B4.out.size)⟩
  clear hb H14 HL4 HF4 HV4 B4 H55
  simp only [Act.put, List.setIfInBounds_toArray, List.set_cons_zero, List.set_cons_succ]
  refine WL.val (by kernel_rfl) (.int .i64 0) (by go_simp) ?_
  simp only [Act.put, List.setIfInBounds_toArray, List.set_cons_zero, List.set_cons_succ]
  refine WL.nil ?_
  refine hK9 _ _ ?_
  refine wp_seq_k fun K10 hK10 => ?_
  refine wp_region_list (WL.out ?_)
  refine WL.val (by kernel_rfl) (.int .i64 0) (by go_simp) ?_
  simp only [Act.put, List.setIfInBounds_toArray, List.set_cons_zero, List.set_cons_succ]
  refine WL.val (by kernel_rfl) (.pointer (some ⟨b1, 1, none⟩)) (by go_simp) ?_
  simp only [Act.put, List.setIfInBounds_toArray, List.set_cons_zero, List.set_cons_succ]
  have cS := H15.out.c 1 rfl
  refine WL.val (by kernel_rfl) (.map (some fb)) (by go_simp) ?_
  clear cS
  simp only [Act.put, List.setIfInBounds_toArray, List.set_cons_zero, List.set_cons_succ]
  refine WL.val (by kernel_rfl) (.pointer (some ⟨b5, 2, none⟩)) (by go_simp) ?_
  simp only [Act.put, List.setIfInBounds_toArray, List.set_cons_zero, List.set_cons_succ]
  refine WL.val (by kernel_rfl) (.pointer (some ⟨b5, 2, none⟩)) (by go_simp) ?_
  simp only [Act.put, List.setIfInBounds_toArray, List.set_cons_zero, List.set_cons_succ]
  refine WL.midA (by kernel_rfl) 50 (.tmp 26) rfl b5 2 rfl (bytesA 32 x0.f) _ HV5.out Tryz.underlying50 rfl (size51E _) ?_
  simp only [Act.put, List.setIfInBounds_toArray, List.set_cons_zero, List.set_cons_succ]
  have hlk := lookM1 HF5.out
  refine WL.val (by kernel_rfl) (.int .i64 0) (by go_simp) ?_
  clear hlk
  simp only [Act.put, List.setIfInBounds_toArray, List.set_cons_zero, List.set_cons_succ]
  refine WL.val (by kernel_rfl) (.bool true) (by go_simp) ?_
  simp only [Act.put, List.setIfInBounds_toArray, List.set_cons_zero, List.set_cons_succ]
  refine WL.nil ?_
  refine hK10 _ _ ?_
  refine wp_cond_true rfl ?_
  refine wp_region_held_drew (S := fun wx => wx.rangeAt b5 2 (bytesA 32 x0.f).toList) (by kernel_rfl) (HV5.out) (fun hHeld => ?_)
  have HL6 := Keep.mk HL5.out.drew
  have HV6 : Keep (w5.drew.rangeAt b5 2 (bytesA 32 x0.f).toList) := ⟨HV5.out⟩
  have B6 : Keep (Below w.heap.size w w5.drew) := ⟨B5.out.drew⟩
  clear HL5 HV5 B5
  generalize w5.drew = w6 at *
  refine wpAnyH_take (i := 0) (oi := ⟨some 30, Op.move (Operand.tmp 3), 116, _, _, none⟩) (v := .slice (some ⟨lb, 0, none⟩) 1 1) rfl (by kernel_rfl) (by kernel_rfl) (by kernel_rfl) (fun _ _ _ h => h) (Or.inl ⟨by rfl, fun w hS => by have cS := hS; go_simp⟩) hHeld ?_
  simp only [Act.put, List.setIfInBounds_toArray, List.set_cons_zero, List.set_cons_succ]
  refine wpAnyH_take (i := 1) (oi := ⟨some 31, Op.move (Operand.tmp 6), 3, _, _, none⟩) (v := .int .i64 0) rfl (by kernel_rfl) (by kernel_rfl) (by kernel_rfl) (fun _ _ _ h => h) (Or.inl ⟨by rfl, fun w hS => by have cS := hS; go_simp⟩) hHeld ?_
  simp only [Act.put, List.setIfInBounds_toArray, List.set_cons_zero, List.set_cons_succ]
  refine wpAnyH_take (i := 2) (oi := ⟨some 32, Op.move (Operand.tmp 3), 116, _, _, none⟩) (v := .slice (some ⟨lb, 0, none⟩) 1 1) rfl (by kernel_rfl) (by kernel_rfl) (by kernel_rfl) (fun _ _ _ h => h) (Or.inl ⟨by rfl, fun w hS => by have cS := hS; go_simp⟩) hHeld ?_
  simp only [Act.put, List.setIfInBounds_toArray, List.set_cons_zero, List.set_cons_succ]
  refine wpAnyH_take (i := 3) (oi := ⟨some 33, Op.move (Operand.tmp 6), 3, _, _, none⟩) (v := .int .i64 0) rfl (by kernel_rfl) (by kernel_rfl) (by kernel_rfl) (fun _ _ _ h => h) (Or.inl ⟨by rfl, fun w hS => by have cS := hS; go_simp⟩) hHeld ?_
  simp only [Act.put, List.setIfInBounds_toArray, List.set_cons_zero, List.set_cons_succ]
  refine wpAnyH_take (i := 4) (oi := ⟨some 34, Op.indexAddr 116 (Operand.tmp 32) (Operand.tmp 33), 0, _, _, none⟩) (v := .pointer (some ⟨lb, 0, none⟩)) rfl (by kernel_rfl) (by kernel_rfl) (by kernel_rfl) (fun _ _ _ h => h) (Or.inl ⟨by rfl, fun w hS => by have cS := hS; go_simp⟩) hHeld ?_
  simp only [Act.put, List.setIfInBounds_toArray, List.set_cons_zero, List.set_cons_succ]
  refine wpAnyH_take (i := 6) (oi := ⟨some 36, Op.fieldAddr 79 (Operand.tmp 5) 2, 0, _, _, none⟩) (v := .pointer (some ⟨b5, 2, none⟩)) rfl (by kernel_rfl) (by kernel_rfl) (by kernel_rfl) (fun _ _ _ h => h) (Or.inl ⟨by rfl, fun w hS => by have cS := hS; go_simp⟩) hHeld ?_
  simp only [Act.put, List.setIfInBounds_toArray, List.set_cons_zero, List.set_cons_succ]
  refine wpAnyH_take (i := 7) (oi := ⟨some 37, Op.fieldAddr 61 (Operand.tmp 36) 0, 0, _, _, none⟩) (v := .pointer (some ⟨b5, 2, none⟩)) rfl (by kernel_rfl) (by kernel_rfl) (by kernel_rfl) (fun _ _ _ h => h) (Or.inl ⟨by rfl, fun w hS => by have cS := hS; go_simp⟩) hHeld ?_
  simp only [Act.put, List.setIfInBounds_toArray, List.set_cons_zero, List.set_cons_succ]
  refine wpAnyH_take (i := 8) (oi := ⟨some 38, Op.load 50 (Operand.tmp 37), 50, _, _, none⟩) (v := .agg (bytesA 32 x0.f)) rfl (by kernel_rfl) (by kernel_rfl) (by kernel_rfl) (fun _ _ _ h => h) (yieldsIf_ld (by rfl) (Operand.tmp 37) 50 rfl b5 2 rfl (bytesA 32 x0.f) _ Tryz.underlying50 rfl (size51E _) fun w hS => hS) hHeld ?_
  simp only [Act.put, List.setIfInBounds_toArray, List.set_cons_zero, List.set_cons_succ]
  refine wpAnyH_ready (rs := [5, 9]) (by kernel_rfl) (by simp) ?_
  refine AllReadyH.cons (o := ⟨some 35, Op.load 25 (Operand.tmp 34), 25, _, _, none⟩) rfl (fun K hK => ?_) (AllReadyH.cons (o := ⟨some 39, Op.buildSlice 25 1 #[(0, Operand.tmp 38)], 25, _, _, none⟩) rfl (fun K hK => ?_) AllReadyH.nil)
  all_goals rw [if_pos (by rfl)]
  · have cS := HL6.out.c 0 rfl
    refine wp_val (.slice none 0 0) (by go_simp) ?_
    clear cS
    refine hK _ _ HV6.out fun hHa => ?_
    clear hK
    simp only [Act.put, List.setIfInBounds_toArray, List.set_cons_zero, List.set_cons_succ]
    refine wpAnyH_ready (rs := [9]) (by kernel_rfl) (by simp) ?_
    refine AllReadyH.cons (o := ⟨some 39, Op.buildSlice 25 1 #[(0, Operand.tmp 38)], 25, _, _, none⟩) rfl (fun K hK => ?_) AllReadyH.nil
    rw [if_pos (by rfl)]
    refine wp_bs 25 1 _ rfl #[(0, .agg (bytesA 32 x0.f))] (by simp [Act.eval]) _ _ (bsH x0 _) ?_
    have HG7 := Keep.mk (Blk.new w6 50 (bytesA 32 x0.f))
    have b7 := Keep.mk (below_new w6 (.cells (bytesA 32 x0.f) 50))
    generalize w6.alloc (.cells (bytesA 32 x0.f) 50) = w7 at *
    generalize hgx : w6.heap.size = gx at *
    have HL7 : Keep (Blk w7 lb 25 #[.slice none 0 0]) := ⟨HL6.out.below (hgx ▸ b7.out) HL6.out.lt⟩
    have HV7 : Keep (w7.rangeAt b5 2 (bytesA 32 x0.f).toList) := ⟨rng_grown HV6.out (Grown.below (S := fun _ => False) (hgx ▸ b7.out)) (fun e => e)⟩
    have B7 : Keep (Below w.heap.size w w7) := ⟨B6.out.trans ((hgx ▸ b7.out : Below w6.heap.size w6 w7).mono B6.out.size)⟩
    refine hK _ _ HV7.out fun hHe => ?_
    clear hK b7 HL6 HV6 B6
    simp only [Act.put, List.setIfInBounds_toArray, List.set_cons_zero, List.set_cons_succ]
    refine wpAnyH_ready (rs := [10]) (by kernel_rfl) (by simp) ?_
    refine AllReadyH.cons (o := ⟨some 40, Op.call { callee := Callee.builtin Builtin.append, args := #[Operand.tmp 35, Operand.tmp 39], argTypes := #[25, 25] }, 25, _, _, none⟩) rfl (fun K hK => ?_) AllReadyH.nil
    rw [if_pos (by rfl)]
    refine wp_app1 25 _ _ rfl (.slice none 0 0) gx rfl rfl (fun v' w' => OwnH w' v' [x0] ∧ (∀ k, v'.ownBlock = some k → w7.heap.size ≤ k) ∧ Below w7.heap.size w7 w') (fun ty => app0H ty w7 gx HG7.out) ?_
    rintro v8 w8 ⟨k1, k2, k3⟩
    have HO8 := Keep.mk k1
    have HL8 := Keep.mk (HL7.out.below k3 HL7.out.lt)
    have HV8 := Keep.mk (rng_grown HV7.out (Grown.below (S := fun _ => False) k3) (fun e => e))
    have B8 : Keep (Below w.heap.size w w8) := ⟨B7.out.trans (k3.mono B7.out.size)⟩
    have N8 : Keep (∀ k, v8.ownBlock = some k → lb < k ∧ w.heap.size ≤ k) := ⟨fun k hk => by have h1 := k2 k hk; have h2 := HL7.out.lt; have h3 := B7.out.size; omega⟩
    refine hK _ _ HV8.out fun hHb => ?_
    clear hK k1 k2 k3 HL7 HV7 B7
    obtain ⟨gv, cv, hv8, hcv, hrv⟩ := one_own HO8.out
    subst hv8
    simp only [Act.put, List.setIfInBounds_toArray, List.set_cons_zero, List.set_cons_succ]
    refine wpAnyH_take (i := 11) (oi := ⟨some 41, Op.indexAddr 116 (Operand.tmp 30) (Operand.tmp 31), 0, _, _, none⟩) (v := .pointer (some ⟨lb, 0, none⟩)) rfl (by kernel_rfl) (by kernel_rfl) (by kernel_rfl) (fun _ _ _ h => h) (Or.inl ⟨by rfl, fun w hS => by have cS := hS; go_simp⟩) hHb ?_
    simp only [Act.put, List.setIfInBounds_toArray, List.set_cons_zero, List.set_cons_succ]
    refine wpAnyH_ready (rs := [12]) (by kernel_rfl) (by simp) ?_
    refine AllReadyH.cons (o := ⟨none, Op.store 25 (Operand.tmp 41) (Operand.tmp 40), 0, _, _, none⟩) rfl (fun K hK => ?_) AllReadyH.nil
    rw [if_pos (by rfl)]
    have cS := HL8.out.c 0 rfl
    have f_o := HL8.out.frozen 0
    refine wp_cellS (w8.setCell ⟨lb, 0, none⟩ (.slice (some ⟨gv, 0, none⟩) 1 cv)) (by go_simp) ?_
    have HL9 := Keep.mk (HL8.out.set 0 (.slice (some ⟨gv, 0, none⟩) 1 cv))
    have g9 : Keep (Grown w8 (w8.setCell ⟨lb, 0, none⟩ (.slice (some ⟨gv, 0, none⟩) 1 cv)) fun k => k = lb) := ⟨Grown.setCell w8 lb 0 _ fun _ => rfl⟩
    clear cS f_o
    generalize w8.setCell ⟨lb, 0, none⟩ (.slice (some ⟨gv, 0, none⟩) 1 cv) = w9 at *
    have HO9 := Keep.mk (HO8.out.grown g9.out fun k hk e => by have h1 := N8.out k hk; omega)
    have B9 : Keep (Below w.heap.size w w9) := ⟨B8.out.trans (g9.out.to_below (fun k hk e => by have h1 := N2.out; omega) B8.out.size)⟩
    refine hK _ _ (rng_grown HV8.out g9.out (by have h1 := N5.out; omega)) fun hHc => ?_
    clear hK
    simp only [Act.put, List.setIfInBounds_toArray, List.set_cons_zero, List.set_cons_succ]
    refine wpAnyH_done (by kernel_rfl) ?_ _
    refine hK7 _ _ ?_
    refine wp_region_list (WL.out ?_)
    refine WL.val (by kernel_rfl) (.int .i64 1) (by kernel_rfl) ?_
    simp only [Act.put, List.setIfInBounds_toArray, List.set_cons_zero, List.set_cons_succ]
    refine WL.val (by kernel_rfl) (.int .i64 1) (by go_simp) ?_
    simp only [Act.put, List.setIfInBounds_toArray, List.set_cons_zero, List.set_cons_succ]
    refine WL.nil ?_
    simp only [Exit.then, Exit.inBlock]
    rw [rounds_succ]
    refine wp_seq_k fun K11 hK11 => ?_
    refine wp_region_list (WL.out ?_)
    refine WL.val (by kernel_rfl) (.bool false) (by go_simp) ?_
    simp only [Act.put, List.setIfInBounds_toArray, List.set_cons_zero, List.set_cons_succ]
    refine WL.nil ?_
    refine hK11 _ _ ?_
    refine wp_seq_k fun K12 hK12 => ?_
    refine wp_cond_false rfl ?_
    refine wp_exit ?_
    refine hK3 _ _ ?_
    refine wp_seq_k fun K13 hK13 => ?_
    refine wp_region_list (WL.out ?_)
    refine WL.val (by kernel_rfl) (.slice (some ⟨lb, 0, none⟩) 1 1) (by go_simp) ?_
    simp only [Act.put, List.setIfInBounds_toArray, List.set_cons_zero, List.set_cons_succ]
    refine WL.val (by kernel_rfl) (.slice (some ⟨lb, 0, none⟩) 1 1) (by go_simp) ?_
    simp only [Act.put, List.setIfInBounds_toArray, List.set_cons_zero, List.set_cons_succ]
    refine WL.nil ?_
    refine hK13 _ _ ?_
    refine wp_ret ?_
    go_ret
    exact ⟨lb, gv, cv, rfl, HL9.out.c 0 rfl, HO9.out, B9.out⟩
  · refine wp_bs 25 1 _ rfl #[(0, .agg (bytesA 32 x0.f))] (by simp [Act.eval]) _ _ (bsH x0 _) ?_
    have HG7 := Keep.mk (Blk.new w6 50 (bytesA 32 x0.f))
    have b7 := Keep.mk (below_new w6 (.cells (bytesA 32 x0.f) 50))
    generalize w6.alloc (.cells (bytesA 32 x0.f) 50) = w7 at *
    generalize hgx : w6.heap.size = gx at *
    have HL7 : Keep (Blk w7 lb 25 #[.slice none 0 0]) := ⟨HL6.out.below (hgx ▸ b7.out) HL6.out.lt⟩
    have HV7 : Keep (w7.rangeAt b5 2 (bytesA 32 x0.f).toList) := ⟨rng_grown HV6.out (Grown.below (S := fun _ => False) (hgx ▸ b7.out)) (fun e => e)⟩
    have B7 : Keep (Below w.heap.size w w7) := ⟨B6.out.trans ((hgx ▸ b7.out : Below w6.heap.size w6 w7).mono B6.out.size)⟩
    refine hK _ _ HV7.out fun hHa => ?_
    clear hK b7 HL6 HV6 B6
    simp only [Act.put, List.setIfInBounds_toArray, List.set_cons_zero, List.set_cons_succ]
    refine wpAnyH_ready (rs := [5]) (by kernel_rfl) (by simp) ?_
    refine AllReadyH.cons (o := ⟨some 35, Op.load 25 (Operand.tmp 34), 25, _, _, none⟩) rfl (fun K hK => ?_) AllReadyH.nil
    rw [if_pos (by rfl)]
    have cS := HL7.out.c 0 rfl
    refine wp_val (.slice none 0 0) (by go_simp) ?_
    clear cS
    refine hK _ _ HV7.out fun hHe => ?_
    clear hK
    simp only [Act.put, List.setIfInBounds_toArray, List.set_cons_zero, List.set_cons_succ]
    refine wpAnyH_ready (rs := [10]) (by kernel_rfl) (by simp) ?_
    refine AllReadyH.cons (o := ⟨some 40, Op.call { callee := Callee.builtin Builtin.append, args := #[Operand.tmp 35, Operand.tmp 39], argTypes := #[25, 25] }, 25, _, _, none⟩) rfl (fun K hK => ?_) AllReadyH.nil
    rw [if_pos (by rfl)]
    refine wp_app1 25 _ _ rfl (.slice none 0 0) gx rfl rfl (fun v' w' => OwnH w' v' [x0] ∧ (∀ k, v'.ownBlock = some k → w7.heap.size ≤ k) ∧ Below w7.heap.size w7 w') (fun ty => app0H ty w7 gx HG7.out) ?_
    rintro v8 w8 ⟨k1, k2, k3⟩
    have HO8 := Keep.mk k1
    have HL8 := Keep.mk (HL7.out.below k3 HL7.out.lt)
    have HV8 := Keep.mk (rng_grown HV7.out (Grown.below (S := fun _ => False) k3) (fun e => e))
    have B8 : Keep (Below w.heap.size w w8) := ⟨B7.out.trans (k3.mono B7.out.size)⟩
    have N8 : Keep (∀ k, v8.ownBlock = some k → lb < k ∧ w.heap.size ≤ k) := ⟨fun k hk => by have h1 := k2 k hk; have h2 := HL7.out.lt; have h3 := B7.out.size; omega⟩
    refine hK _ _ HV8.out fun hHb => ?_
    clear hK k1 k2 k3 HL7 HV7 B7
    obtain ⟨gv, cv, hv8, hcv, hrv⟩ := one_own HO8.out
    subst hv8
    simp only [Act.put, List.setIfInBounds_toArray, List.set_cons_zero, List.set_cons_succ]
    refine wpAnyH_take (i := 11) (oi := ⟨some 41, Op.indexAddr 116 (Operand.tmp 30) (Operand.tmp 31), 0, _, _, none⟩) (v := .pointer (some ⟨lb, 0, none⟩)) rfl (by kernel_rfl) (by kernel_rfl) (by kernel_rfl) (fun _ _ _ h => h) (Or.inl ⟨by rfl, fun w hS => by have cS := hS; go_simp⟩) hHb ?_
    simp only [Act.put, List.setIfInBounds_toArray, List.set_cons_zero, List.set_cons_succ]
    refine wpAnyH_ready (rs := [12]) (by kernel_rfl) (by simp) ?_
    refine AllReadyH.cons (o := ⟨none, Op.store 25 (Operand.tmp 41) (Operand.tmp 40), 0, _, _, none⟩) rfl (fun K hK => ?_) AllReadyH.nil
    rw [if_pos (by rfl)]
    have cS := HL8.out.c 0 rfl
    have f_o := HL8.out.frozen 0
    refine wp_cellS (w8.setCell ⟨lb, 0, none⟩ (.slice (some ⟨gv, 0, none⟩) 1 cv)) (by go_simp) ?_
    have HL9 := Keep.mk (HL8.out.set 0 (.slice (some ⟨gv, 0, none⟩) 1 cv))
    have g9 : Keep (Grown w8 (w8.setCell ⟨lb, 0, none⟩ (.slice (some ⟨gv, 0, none⟩) 1 cv)) fun k => k = lb) := ⟨Grown.setCell w8 lb 0 _ fun _ => rfl⟩
    clear cS f_o
    generalize w8.setCell ⟨lb, 0, none⟩ (.slice (some ⟨gv, 0, none⟩) 1 cv) = w9 at *
    have HO9 := Keep.mk (HO8.out.grown g9.out fun k hk e => by have h1 := N8.out k hk; omega)
    have B9 : Keep (Below w.heap.size w w9) := ⟨B8.out.trans (g9.out.to_below (fun k hk e => by have h1 := N2.out; omega) B8.out.size)⟩
    refine hK _ _ (rng_grown HV8.out g9.out (by have h1 := N5.out; omega)) fun hHc => ?_
    clear hK
    simp only [Act.put, List.setIfInBounds_toArray, List.set_cons_zero, List.set_cons_succ]
    refine wpAnyH_done (by kernel_rfl) ?_ _
    refine hK7 _ _ ?_
    refine wp_region_list (WL.out ?_)
    refine WL.val (by kernel_rfl) (.int .i64 1) (by kernel_rfl) ?_
    simp only [Act.put, List.setIfInBounds_toArray, List.set_cons_zero, List.set_cons_succ]
    refine WL.val (by kernel_rfl) (.int .i64 1) (by go_simp) ?_
    simp only [Act.put, List.setIfInBounds_toArray, List.set_cons_zero, List.set_cons_succ]
    refine WL.nil ?_
    simp only [Exit.then, Exit.inBlock]
    rw [rounds_succ]
    refine wp_seq_k fun K14 hK14 => ?_
    refine wp_region_list (WL.out ?_)
    refine WL.val (by kernel_rfl) (.bool false) (by go_simp) ?_
    simp only [Act.put, List.setIfInBounds_toArray, List.set_cons_zero, List.set_cons_succ]
    refine WL.nil ?_
    refine hK14 _ _ ?_
    refine wp_seq_k fun K15 hK15 => ?_
    refine wp_cond_false rfl ?_
    refine wp_exit ?_
    refine hK3 _ _ ?_
    refine wp_seq_k fun K16 hK16 => ?_
    refine wp_region_list (WL.out ?_)
    refine WL.val (by kernel_rfl) (.slice (some ⟨lb, 0, none⟩) 1 1) (by go_simp) ?_
    simp only [Act.put, List.setIfInBounds_toArray, List.set_cons_zero, List.set_cons_succ]
    refine WL.val (by kernel_rfl) (.slice (some ⟨lb, 0, none⟩) 1 1) (by go_simp) ?_
    simp only [Act.put, List.setIfInBounds_toArray, List.set_cons_zero, List.set_cons_succ]
    refine WL.nil ?_
    refine hK16 _ _ ?_
    refine wp_ret ?_
    go_ret
    exact ⟨lb, gv, cv, rfl, HL9.out.c 0 rfl, HO9.out, B9.out⟩

theorem Tryz.in28 (w : World) (vs : Array Value) : (callFunc 28 vs).run Tryz.prog w = .ok (.enter 28 vs) w := by kernel_rfl
theorem yieldsIf_lM {ops : Array Oper} {S : World → Prop} {op : Oper} {a : Act} (hw : Region.wanted op (yielded ops a.tmps) = true) (m k : Operand) (ho : op.op = .lookup 112 m k false) (b : Nat) (x : Nat → Int) (hm : a.eval m = .map (some b)) (hk : a.eval k = .agg (bytesA 32 x)) (v : Value)
    (hr : ∀ w, S w → (Instr.lookup 112 (.map (some b)) (.agg (bytesA 32 x)) false).run Tryz.prog w = .ok v w) : YieldsIf Tryz.prog ops S op v a :=
  .inl ⟨hw, fun w hS => by unfold execOp; simp only [ho, hm, hk, Sem.run_bind, hr w hS, Result.andThen_ok, Sem.run_pure]⟩
theorem sl1 (a : Addr) (c : Nat) (w : World) : ∃ v, (Instr.sliceAt 25 (.slice (some a) 1 c) (some (.int .i64 1)) none none).run Tryz.prog w = .ok v w := by
  refine ⟨.slice (if c = 1 then some a else (some a).map (·.add (1 * 32))) (1 - 1) (c - 1), ?_⟩
  kernel_rfl
theorem pt_ck2 {w : World} {b : Nat} {bg : Int} {row : Value} {c : Nat → Int} {ck : Int} {ps : Value} (h : Blk w b 79 (ptA bg row c ck ps)) : w.cell? ⟨b, 34, none⟩ = some (.int .i64 ck) := by
  rw [h.cell]
  exact pt_ck _ _ _ _ _
set_option maxRecDepth 8000 in
set_option maxHeartbeats 2000000 in
theorem order_is (g cap gr cr bp : Nat) (X : Array Value) (hX : Keep (X = (ptA 10 (.slice (some ⟨gr, 0, none⟩) 5 cr) x0.f 1 (.slice (some ⟨bp, 0, none⟩) 0 0)))) (w : World) (HX : Keep (w.rangeAt g 0 X.toList)) : Calls Tryz.prog 28 #[.slice (some ⟨g, 0, none⟩) 1 cap] w fun e w' => e = .returned (.tuple #[]) ∧ Below w.heap.size w w' := by
  go_enter Tryz.func28, Tryz.ntmps28
  refine wp_seq_k fun K1 hK1 => ?_
  refine wp_region_list (WL.out ?_)
  refine WL.val (by kernel_rfl) (.slice (some ⟨g, 0, none⟩) 1 cap) (by go_simp) ?_
  simp only [Act.put, List.setIfInBounds_toArray, List.set_cons_zero, List.set_cons_succ]
  refine WL.callF (by kernel_rfl) 49 _ _ rfl Tryz.in49 #[.slice (some ⟨g, 0, none⟩) 1 cap] (by simp [Act.eval]) ?_
  refine (line_is g cap gr cr bp X hX w HX).mono ?_
  rintro e w1 ⟨fb, rfl, k1, k2, hb⟩
  refine ⟨_, rfl, ?_⟩
  have HF1 : Keep (w1.heap[fb]? = some (.map #[⟨.agg (bytesA 32 x0.f), .int .i64 0, 0⟩] 1)) := ⟨k2⟩
  have HX1 := Keep.mk (rng_grown HX.out (Grown.below (S := fun _ => False) hb) (fun e => e))
  have B1 : Keep (Below w.heap.size w w1) := ⟨hb⟩
  clear k2 hb
  simp only [Act.put, List.setIfInBounds_toArray, List.set_cons_zero, List.set_cons_succ]
  refine WL.new (by kernel_rfl) 114 rfl _ Tryz.new114l ?_
  have H2 := Keep.mk (Blk.new w1 114 #[.slice none 0 0, .map none])
  have b_b2 := Keep.mk (below_new w1 (.cells #[.slice none 0 0, .map none] 114))
  generalize w1.alloc (.cells #[.slice none 0 0, .map none] 114) = w2 at *
  obtain ⟨b2, hb2⟩ : ∃ z, Keep (z = w1.heap.size) := ⟨_, ⟨rfl⟩⟩
  rw [← hb2.out] at H2 ⊢
  have HF2 : Keep (w2.heap[fb]? = some (.map #[⟨.agg (bytesA 32 x0.f), .int .i64 0, 0⟩] 1)) := ⟨by rw [b_b2.out.block fb (Array.getElem?_eq_some_iff.1 HF1.out).1]; exact HF1.out⟩
  have HX2 := Keep.mk (rng_grown HX1.out (Grown.below (S := fun _ => False) b_b2.out) (fun e => e))
  have B2 : Keep (Below w.heap.size w w2) := ⟨B1.out.trans (b_b2.out.mono B1.out.size)⟩
  have N2 : Keep (w.heap.size ≤ b2 ∧ fb < b2 ∧ g < b2) := ⟨by have h1 := hb2.out; have h2 := B1.out.size; have h3 := (Array.getElem?_eq_some_iff.1 HF1.out).1; have h4 := cell_lt (HX1.out 0 (.int .i64 10) (by rw [hX.out, Array.getElem?_toList]; exact pt_0 _ _ _ _ _)); omega⟩
  clear HF1 HX1 B1 b_b2
  simp only [Act.put, List.setIfInBounds_toArray, List.set_cons_zero, List.set_cons_succ]
  refine WL.storeR (by kernel_rfl) 114 (.tmp 2) (.tmp 9) rfl b2 #[.slice (some ⟨g, 0, none⟩) 1 cap, .map (some fb)] rfl rfl 114 #[.slice none 0 0, .map none] H2.out (by kernel_rfl) rfl (by simp [Value.oneCell']) ?_
  have H22 := Keep.mk (H2.out.setRow #[.slice (some ⟨g, 0, none⟩) 1 cap, .map (some fb)])
  have g_w3 : Keep (Grown w2 (w2.setRow b2 #[.slice (some ⟨g, 0, none⟩) 1 cap, .map (some fb)]) fun k => k = b2) := ⟨Grown.setRow w2 b2 _ fun _ => rfl⟩
  clear H2
  generalize w2.setRow b2 #[.slice (some ⟨g, 0, none⟩) 1 cap, .map (some fb)] = w3 at *
  have HF3 : Keep (w3.heap[fb]? = some (.map #[⟨.agg (bytesA 32 x0.f), .int .i64 0, 0⟩] 1)) := ⟨by rw [g_w3.out.block fb (Array.getElem?_eq_some_iff.1 HF2.out).1 (by have := N2.out; omega)]; exact HF2.out⟩
  have HX3 := Keep.mk (rng_grown HX2.out g_w3.out (by have := N2.out; omega))
  have B3 : Keep (Below w.heap.size w w3) := ⟨B2.out.trans (g_w3.out.to_below (fun k hk e => by have := N2.out; omega) B2.out.size)⟩
  clear HF2 HX2 B2
  simp only [Act.put]
  refine WL.nil ?_
  refine hK1 _ _ ?_
  refine wp_seq_k fun K2 hK2 => ?_
  refine wp_region_list (WL.out ?_)
  refine WL.row (by kernel_rfl) 114 (.tmp 2) rfl b2 rfl 114 #[.slice (some ⟨g, 0, none⟩) 1 cap, .map (some fb)] _ H22.out Tryz.underlying114 rfl (by kernel_rfl) ?_
  simp only [Act.put, List.setIfInBounds_toArray, List.set_cons_zero, List.set_cons_succ]
  refine WL.callF (by kernel_rfl) 50 _ _ rfl Tryz.in50 #[.agg #[.slice (some ⟨g, 0, none⟩) 1 cap, .map (some fb)]] (by simp [Act.eval]) ?_
  refine (due_is g cap gr cr bp X hX fb w3 HX3 HF3).mono ?_
  rintro e w4 ⟨lb, gv, cv, rfl, k1, k2, hb⟩
  refine ⟨_, rfl, ?_⟩
  have H23 := H22
  have H24 := Keep.mk (H23.out.below hb H23.out.lt)
  have HF4 : Keep (w4.heap[fb]? = some (.map #[⟨.agg (bytesA 32 x0.f), .int .i64 0, 0⟩] 1)) := ⟨by rw [hb.block fb (Array.getElem?_eq_some_iff.1 HF3.out).1]; exact HF3.out⟩
  have B4 : Keep (Below w.heap.size w w4) := ⟨B3.out.trans (hb.mono B3.out.size)⟩
  have HX4 := Keep.mk (rng_grown HX3.out (Grown.below (S := fun _ => False) hb) (fun e => e))
  have HL4 := Keep.mk k1
  have HO4 := Keep.mk k2
  clear k1 k2 hb H23 H22 HF3 B3 HX3
  simp only [Act.put, List.setIfInBounds_toArray, List.set_cons_zero, List.set_cons_succ]
  refine WL.val (by kernel_rfl) (.slice (some ⟨lb, 0, none⟩) 1 1) (by go_simp) ?_
  simp only [Act.put, List.setIfInBounds_toArray, List.set_cons_zero, List.set_cons_succ]
  refine WL.nil ?_
  refine hK2 _ _ ?_
  refine wp_seq_k fun K3 hK3 => ?_
  refine wp_region_list (WL.out ?_)
  refine WL.val (by kernel_rfl) (.slice none 0 0) (by go_simp) ?_
  simp only [Act.put, List.setIfInBounds_toArray, List.set_cons_zero, List.set_cons_succ]
  refine WL.nil ?_
  refine hK3 _ _ ?_
  refine wp_seq_k fun K4 hK4 => ?_
  refine wp_region_list (WL.out ?_)
  refine WL.val (by kernel_rfl) (.slice (some ⟨g, 0, none⟩) 1 cap) (by go_simp) ?_
  simp only [Act.put, List.setIfInBounds_toArray, List.set_cons_zero, List.set_cons_succ]
  refine WL.val (by kernel_rfl) (.int .i64 1) (by go_simp) ?_
  simp only [Act.put, List.setIfInBounds_toArray, List.set_cons_zero, List.set_cons_succ]
  refine WL.val (by kernel_rfl) (.int .i64 0) (by go_simp) ?_
  simp only [Act.put, List.setIfInBounds_toArray, List.set_cons_zero, List.set_cons_succ]
  refine WL.nil ?_
  refine hK4 _ _ ?_
  refine wp_block ?_
  refine wp_loop_rounds 2 ?_
  rw [rounds_succ]
  refine wp_seq_k fun K5 hK5 => ?_
  refine wp_region_list (WL.out ?_)
  refine WL.val (by kernel_rfl) (.bool true) (by go_simp) ?_
  simp only [Act.put, List.setIfInBounds_toArray, List.set_cons_zero, List.set_cons_succ]
  refine WL.nil ?_
  refine hK5 _ _ ?_
  refine wp_seq_k fun K6 hK6 => ?_
  refine wp_cond_true rfl ?_
  refine wp_skip ?_
  refine hK6 _ _ ?_
  refine wp_seq_k fun K7 hK7 => ?_
  refine wp_block ?_
  refine wp_seq_k fun K8 hK8 => ?_
  refine wp_region_list (WL.out ?_)
  refine WL.val (by kernel_rfl) (.int .i64 0) (by go_simp) ?_
  simp only [Act.put, List.setIfInBounds_toArray, List.set_cons_zero, List.set_cons_succ]
  refine WL.val (by kernel_rfl) (.pointer (some ⟨g, 0, none⟩)) (by go_simp) ?_
  simp only [Act.put, List.setIfInBounds_toArray, List.set_cons_zero, List.set_cons_succ]
  refine WL.midA (by kernel_rfl) 79 (.tmp 17) rfl g 0 rfl X _ HX4.out Tryz.underlying79 rfl (sizeX hX) ?_
  simp only [Act.put, List.setIfInBounds_toArray, List.set_cons_zero, List.set_cons_succ]
  refine WL.new (by kernel_rfl) 79 rfl _ Tryz.new79p ?_
  have H6 := Keep.mk (Blk.new w4 79 ptZ)
  have b_b6 := Keep.mk (below_new w4 (.cells ptZ 79))
  generalize w4.alloc (.cells ptZ 79) = w5 at *
  obtain ⟨b6, hb6⟩ : ∃ z, Keep (z = w4.heap.size) := ⟨_, ⟨rfl⟩⟩
  rw [← hb6.out] at H6 ⊢
  have hb := b_b6.out
  have H25 := Keep.mk (H24.out.below hb H24.out.lt)
  have HF5 : Keep (w5.heap[fb]? = some (.map #[⟨.agg (bytesA 32 x0.f), .int .i64 0, 0⟩] 1)) := ⟨by rw [hb.block fb (Array.getElem?_eq_some_iff.1 HF4.out).1]; exact HF4.out⟩
  have B5 : Keep (Below w.heap.size w w5) := ⟨B4.out.trans (hb.mono B4.out.size)⟩
  have HL5 : Keep (w5.cell? ⟨lb, 0, none⟩ = some (.slice (some ⟨gv, 0, none⟩) 1 cv)) := ⟨(Grown.below (S := fun _ => False) hb).cell HL4.out (fun e => e)⟩
  have HO5 := Keep.mk (HO4.out.below hb)
  have N6 : Keep (b2 < b6 ∧ fb < b6 ∧ lb < b6 ∧ gv < b6) := ⟨by have h1 := hb6.out; have h2 := H24.out.lt; have h3 := cell_lt HL4.out; have h4 := (Array.getElem?_eq_some_iff.1 HF4.out).1; have h5 := HO4.out.typ (k := gv) rfl; have h6 := h5.lt; omega⟩
  clear hb H24 HF4 B4 HL4 HO4 b_b6
  simp only [Act.put, List.setIfInBounds_toArray, List.set_cons_zero, List.set_cons_succ]
  refine WL.val (by kernel_rfl) (.int .i64 0) (by go_simp) ?_
  simp only [Act.put, List.setIfInBounds_toArray, List.set_cons_zero, List.set_cons_succ]
  refine WL.storeR (by kernel_rfl) 79 (.tmp 6) (.tmp 18) rfl b6 X rfl rfl 79 ptZ H6.out (sizeX hX) (by rw [hX.out, ptA_size, ptZ_size]) (by rw [hX.out]; exact ptA_one _ _ _ _ _ rfl rfl) ?_
  have H66 := Keep.mk (H6.out.setRow X)
  have g_w6 : Keep (Grown w5 (w5.setRow b6 X) fun k => k = b6) := ⟨Grown.setRow w5 b6 _ fun _ => rfl⟩
  clear H6
  generalize w5.setRow b6 X = w6 at *
  have H26 := Keep.mk (g_w6.out.blk H25.out (by have h2 := N6.out; omega))
  have HF6 : Keep (w6.heap[fb]? = some (.map #[⟨.agg (bytesA 32 x0.f), .int .i64 0, 0⟩] 1)) := ⟨by rw [g_w6.out.block fb (Array.getElem?_eq_some_iff.1 HF5.out).1 (by have h2 := N6.out; omega)]; exact HF5.out⟩
  have HL6 : Keep (w6.cell? ⟨lb, 0, none⟩ = some (.slice (some ⟨gv, 0, none⟩) 1 cv)) := ⟨g_w6.out.cell HL5.out (by have h2 := N6.out; omega)⟩
  have HO6 := Keep.mk (HO5.out.grown g_w6.out (fun k hk e => by cases hk; have h2 := N6.out; have e : gv = b6 := e; omega))
  have B6 : Keep (Below w.heap.size w w6) := ⟨B5.out.trans (g_w6.out.to_below (fun k hk e => by have h1 := N2.out; have h2 := N6.out; omega) B5.out.size)⟩
  have HV6 : Keep (w6.rangeAt b6 2 (vtx x0.f 1 (.slice (some ⟨bp, 0, none⟩) 0 0)).toList) := ⟨by have h := H66.out; rw [hX.out] at h; exact pt_vtx h⟩
  have HC6 : Keep (w6.cell? ⟨b6, 34, none⟩ = some (.int .i64 1)) := ⟨by have h := H66.out; rw [hX.out] at h; exact pt_ck2 h⟩
  clear H25 HF5 HL5 HO5 B5 H66
  simp only [Act.put]
  refine WL.nil ?_
  refine hK8 _ _ ?_
  refine wp_seq_k fun K9 hK9 => ?_
  refine wp_region_list (WL.out ?_)
  refine WL.val (by kernel_rfl) (.slice none 0 0) (by go_simp) ?_
  simp only [Act.put, List.setIfInBounds_toArray, List.set_cons_zero, List.set_cons_succ]
  refine WL.val (by kernel_rfl) (.slice (some ⟨lb, 0, none⟩) 1 1) (by go_simp) ?_
  simp only [Act.put, List.setIfInBounds_toArray, List.set_cons_zero, List.set_cons_succ]
  refine WL.val (by kernel_rfl) (.int .i64 0) (by go_simp) ?_
  simp only [Act.put, List.setIfInBounds_toArray, List.set_cons_zero, List.set_cons_succ]
  refine WL.val (by kernel_rfl) (.pointer (some ⟨lb, 0, none⟩)) (by go_simp) ?_
  simp only [Act.put, List.setIfInBounds_toArray, List.set_cons_zero, List.set_cons_succ]
  have cS := HL6.out
  refine WL.val (by kernel_rfl) (.slice (some ⟨gv, 0, none⟩) 1 cv) (by go_simp) ?_
  clear cS
  simp only [Act.put, List.setIfInBounds_toArray, List.set_cons_zero, List.set_cons_succ]
  have hrg : w6.rangeAt gv 0 (bytesA 32 x0.f).toList := by
    obtain ⟨g', c', e, _, h⟩ := one_own HO6.out
    cases e
    exact h
  refine WL.callF (by kernel_rfl) 51 _ _ rfl Tryz.in51 #[.slice none 0 0, .slice (some ⟨gv, 0, none⟩) 1 cv] (by simp [Act.eval]) ?_
  refine (join_is gv cv w6 ⟨hrg⟩).mono ?_
  rintro e w7 ⟨vj, rfl, k1, k2, hb⟩
  refine ⟨_, rfl, ?_⟩
  have H27 := Keep.mk (H26.out.below hb H26.out.lt)
  have HF7 : Keep (w7.heap[fb]? = some (.map #[⟨.agg (bytesA 32 x0.f), .int .i64 0, 0⟩] 1)) := ⟨by rw [hb.block fb (Array.getElem?_eq_some_iff.1 HF6.out).1]; exact HF6.out⟩
  have B7 : Keep (Below w.heap.size w w7) := ⟨B6.out.trans (hb.mono B6.out.size)⟩
  have HV7 := Keep.mk (rng_grown HV6.out (Grown.below (S := fun _ => False) hb) (fun e => e))
  have HC7 : Keep (w7.cell? ⟨b6, 34, none⟩ = some (.int .i64 1)) := ⟨(Grown.below (S := fun _ => False) hb).cell HC6.out (fun e => e)⟩
  obtain ⟨gj, cj, ej, _, hj⟩ := one_own k1
  subst ej
  have HJ7 := Keep.mk hj
  clear hj k1 k2 hb hrg H26 HF6 HV6 HC6 HO6 HL6 B6
  simp only [Act.put, List.setIfInBounds_toArray, List.set_cons_zero, List.set_cons_succ]
  refine WL.val (by kernel_rfl) (.slice (some ⟨gj, 0, none⟩) 1 cj) (by go_simp) ?_
  simp only [Act.put, List.setIfInBounds_toArray, List.set_cons_zero, List.set_cons_succ]
  refine WL.nil ?_
  refine hK9 _ _ ?_
  refine wp_seq_k fun K10 hK10 => ?_
  refine wp_region_list (WL.out ?_)
  refine WL.val (by kernel_rfl) (.pointer (some ⟨b6, 2, none⟩)) (by go_simp) ?_
  simp only [Act.put, List.setIfInBounds_toArray, List.set_cons_zero, List.set_cons_succ]
  refine WL.val (by kernel_rfl) (.pointer (some ⟨b6, 2, none⟩)) (by go_simp) ?_
  simp only [Act.put, List.setIfInBounds_toArray, List.set_cons_zero, List.set_cons_succ]
  refine WL.midA (by kernel_rfl) 50 (.tmp 26) rfl b6 2 rfl (bytesA 32 x0.f) _ (vtx_id2 HV7.out) Tryz.underlying50 rfl (size51E _) ?_
  simp only [Act.put, List.setIfInBounds_toArray, List.set_cons_zero, List.set_cons_succ]
  refine WL.new (by kernel_rfl) 50 rfl _ Tryz.new50h ?_
  have H7 := Keep.mk (Blk.new w7 50 (bytesA 32 fun _ => 0))
  have b_b7 := Keep.mk (below_new w7 (.cells (bytesA 32 fun _ => 0) 50))
  generalize w7.alloc (.cells (bytesA 32 fun _ => 0) 50) = w8 at *
  obtain ⟨b7, hb7⟩ : ∃ z, Keep (z = w7.heap.size) := ⟨_, ⟨rfl⟩⟩
  rw [← hb7.out] at H7 ⊢
  have hb := b_b7.out
  have H28 := Keep.mk (H27.out.below hb H27.out.lt)
  have HF8 : Keep (w8.heap[fb]? = some (.map #[⟨.agg (bytesA 32 x0.f), .int .i64 0, 0⟩] 1)) := ⟨by rw [hb.block fb (Array.getElem?_eq_some_iff.1 HF7.out).1]; exact HF7.out⟩
  have B8 : Keep (Below w.heap.size w w8) := ⟨B7.out.trans (hb.mono B7.out.size)⟩
  have HV8 := Keep.mk (rng_grown HV7.out (Grown.below (S := fun _ => False) hb) (fun e => e))
  have HC8 : Keep (w8.cell? ⟨b6, 34, none⟩ = some (.int .i64 1)) := ⟨(Grown.below (S := fun _ => False) hb).cell HC7.out (fun e => e)⟩
  have HJ8 := Keep.mk (rng_grown HJ7.out (Grown.below (S := fun _ => False) hb) (fun e => e))
  have N7 : Keep (b2 < b7 ∧ fb < b7 ∧ b6 < b7 ∧ gj < b7) := ⟨by have h1 := hb7.out; have h2 := H27.out.lt; have h3 := cell_lt HC7.out; have h4 := (Array.getElem?_eq_some_iff.1 HF7.out).1; have h5 := cell_lt (HJ7.out 0 _ (by rw [Array.getElem?_toList]; exact bytesA_get 32 _ 0 (by decide))); omega⟩
  clear hb H27 HF7 HV7 HC7 HJ7 B7 b_b7
  simp only [Act.put, List.setIfInBounds_toArray, List.set_cons_zero, List.set_cons_succ]
  refine WL.storeR (by kernel_rfl) 50 (.tmp 7) (.tmp 27) rfl b7 (bytesA 32 x0.f) rfl rfl 50 (bytesA 32 fun _ => 0) H7.out (size51E _) (bytesA_sizes _ _ _) (bytesA_one _ _) ?_
  have H79 := Keep.mk (H7.out.setRow (bytesA 32 x0.f))
  have g_w9 : Keep (Grown w8 (w8.setRow b7 (bytesA 32 x0.f)) fun k => k = b7) := ⟨Grown.setRow w8 b7 _ fun _ => rfl⟩
  clear H7
  generalize w8.setRow b7 (bytesA 32 x0.f) = w9 at *
  have H29 := Keep.mk (g_w9.out.blk H28.out (by have h2 := N7.out; omega))
  have HF9 : Keep (w9.heap[fb]? = some (.map #[⟨.agg (bytesA 32 x0.f), .int .i64 0, 0⟩] 1)) := ⟨by rw [g_w9.out.block fb (Array.getElem?_eq_some_iff.1 HF8.out).1 (by have h2 := N7.out; omega)]; exact HF8.out⟩
  have HV9 := Keep.mk (rng_grown HV8.out g_w9.out (by have h2 := N7.out; omega))
  have HC9 : Keep (w9.cell? ⟨b6, 34, none⟩ = some (.int .i64 1)) := ⟨g_w9.out.cell HC8.out (by have h2 := N7.out; omega)⟩
  have HJ9 := Keep.mk (rng_grown HJ8.out g_w9.out (by have h2 := N7.out; omega))
  have B9 : Keep (Below w.heap.size w w9) := ⟨B8.out.trans (g_w9.out.to_below (fun k hk e => by have h1 := N2.out; have h2 := N7.out; omega) B8.out.size)⟩
  clear H28 HF8 HV8 HC8 HJ8 B8
  simp only [Act.put]
  refine WL.nil ?_
  refine hK10 _ _ ?_
  refine wp_seq_k fun K11 hK11 => ?_
  refine wp_seq_k fun K12 hK12 => ?_
  refine wp_region_held_drew (S := fun wx => Blk wx b2 114 #[.slice (some ⟨g, 0, none⟩) 1 cap, .map (some fb)] ∧ Blk wx b7 50 (bytesA 32 x0.f) ∧ wx.heap[fb]? = some (.map #[⟨.agg (bytesA 32 x0.f), .int .i64 0, 0⟩] 1) ∧ wx.rangeAt b6 2 (vtx x0.f 1 (.slice (some ⟨bp, 0, none⟩) 0 0)).toList ∧ wx.rangeAt gj 0 (bytesA 32 x0.f).toList) (by kernel_rfl) (⟨H29.out.drew, H79.out.drew, HF9.out, HV9.out, HJ9.out⟩) (fun hHeld => ?_)
  have H210 := Keep.mk H29.out.drew
  have H710 := Keep.mk H79.out.drew
  have HF10 : Keep (w9.drew.heap[fb]? = some (.map #[⟨.agg (bytesA 32 x0.f), .int .i64 0, 0⟩] 1)) := ⟨HF9.out⟩
  have HV10 : Keep (w9.drew.rangeAt b6 2 (vtx x0.f 1 (.slice (some ⟨bp, 0, none⟩) 0 0)).toList) := ⟨HV9.out⟩
  have HC10 : Keep (w9.drew.cell? ⟨b6, 34, none⟩ = some (.int .i64 1)) := ⟨HC9.out⟩
  have HJ10 : Keep (w9.drew.rangeAt gj 0 (bytesA 32 x0.f).toList) := ⟨HJ9.out⟩
  have B10 : Keep (Below w.heap.size w w9.drew) := ⟨B9.out.drew⟩
  clear H29 H79 HF9 HV9 HC9 HJ9 B9
  generalize w9.drew = w10 at *
  refine wpAnyH_take (i := 0) (oi := ⟨some 28, Op.fieldAddr 114 (Operand.tmp 2) 1, 0, _, _, none⟩) (v := .pointer (some ⟨b2, 1, none⟩)) rfl (by kernel_rfl) (by kernel_rfl) (by kernel_rfl) (fun _ _ _ h => h) (Or.inl ⟨by rfl, fun w hS => by have cS := hS.1.c 1 rfl; go_simp⟩) hHeld ?_
  simp only [Act.put, List.setIfInBounds_toArray, List.set_cons_zero, List.set_cons_succ]
  refine wpAnyH_take (i := 1) (oi := ⟨some 29, Op.load 112 (Operand.tmp 28), 112, _, _, none⟩) (v := .map (some fb)) rfl (by kernel_rfl) (by kernel_rfl) (by kernel_rfl) (fun _ _ _ h => h) (Or.inl ⟨by rfl, fun w hS => by have cS := hS.1.c 1 rfl; go_simp⟩) hHeld ?_
  simp only [Act.put, List.setIfInBounds_toArray, List.set_cons_zero, List.set_cons_succ]
  refine wpAnyH_take (i := 2) (oi := ⟨some 30, Op.load 50 (Operand.tmp 7), 50, _, _, none⟩) (v := .agg (bytesA 32 x0.f)) rfl (by kernel_rfl) (by kernel_rfl) (by kernel_rfl) (fun _ _ _ h => h) (yieldsIf_ld (by rfl) (Operand.tmp 7) 50 rfl b7 0 rfl (bytesA 32 x0.f) _ Tryz.underlying50 rfl (size51E _) fun w hS => blk_range hS.2.1) hHeld ?_
  simp only [Act.put, List.setIfInBounds_toArray, List.set_cons_zero, List.set_cons_succ]
  refine wpAnyH_take (i := 3) (oi := ⟨some 31, Op.lookup 112 (Operand.tmp 29) (Operand.tmp 30) false, 3, _, _, none⟩) (v := .int .i64 0) rfl (by kernel_rfl) (by kernel_rfl) (by kernel_rfl) (fun _ _ _ h => h) (yieldsIf_lM (by rfl) (Operand.tmp 29) (Operand.tmp 30) rfl fb x0.f rfl rfl (.int .i64 0) fun w hS => lookM1 hS.2.2.1) hHeld ?_
  simp only [Act.put, List.setIfInBounds_toArray, List.set_cons_zero, List.set_cons_succ]
  refine wpAnyH_take (i := 4) (oi := ⟨some 32, Op.move (Operand.tmp 5), 3, _, _, none⟩) (v := .int .i64 0) rfl (by kernel_rfl) (by kernel_rfl) (by kernel_rfl) (fun _ _ _ h => h) (Or.inl ⟨by rfl, fun w hS => by have cS := hS.1.c 1 rfl; go_simp⟩) hHeld ?_
  simp only [Act.put, List.setIfInBounds_toArray, List.set_cons_zero, List.set_cons_succ]
  refine wpAnyH_take (i := 5) (oi := ⟨some 33, Op.binOp BinOp.lss 3 (Operand.tmp 31) (Operand.tmp 32) 3, 4, _, _, none⟩) (v := .bool false) rfl (by kernel_rfl) (by kernel_rfl) (by kernel_rfl) (fun _ _ _ h => h) (Or.inl ⟨by rfl, fun w hS => by have cS := hS.1.c 1 rfl; go_simp⟩) hHeld ?_
  simp only [Act.put, List.setIfInBounds_toArray, List.set_cons_zero, List.set_cons_succ]
  refine wpAnyH_take (i := 6) (oi := ⟨some 34, Op.move (Operand.tmp 33), 4, _, _, none⟩) (v := .bool false) rfl (by kernel_rfl) (by kernel_rfl) (by kernel_rfl) (fun _ _ _ h => h) (Or.inl ⟨by rfl, fun w hS => by have cS := hS.1.c 1 rfl; go_simp⟩) hHeld ?_
  simp only [Act.put, List.setIfInBounds_toArray, List.set_cons_zero, List.set_cons_succ]
  refine wpAnyH_take (i := 7) (oi := ⟨some 35, Op.load 114 (Operand.tmp 2), 114, _, _, some (6, false)⟩) (v := .agg #[.slice (some ⟨g, 0, none⟩) 1 cap, .map (some fb)]) rfl (by kernel_rfl) (by kernel_rfl) (by kernel_rfl) (fun _ _ _ h => h) (yieldsIf_ld (by rfl) (Operand.tmp 2) 114 rfl b2 0 rfl #[.slice (some ⟨g, 0, none⟩) 1 cap, .map (some fb)] _ Tryz.underlying114 rfl (by kernel_rfl) fun w hS => blk_range hS.1) hHeld ?_
  simp only [Act.put, List.setIfInBounds_toArray, List.set_cons_zero, List.set_cons_succ]
  refine wpAnyH_take (i := 8) (oi := ⟨some 36, Op.fieldAddr 79 (Operand.tmp 6) 2, 0, _, _, some (6, false)⟩) (v := .pointer (some ⟨b6, 2, none⟩)) rfl (by kernel_rfl) (by kernel_rfl) (by kernel_rfl) (fun _ _ _ h => h) (Or.inl ⟨by rfl, fun w hS => by have cS := hS.1.c 1 rfl; go_simp⟩) hHeld ?_
  simp only [Act.put, List.setIfInBounds_toArray, List.set_cons_zero, List.set_cons_succ]
  refine wpAnyH_take (i := 9) (oi := ⟨some 37, Op.load 61 (Operand.tmp 36), 61, _, _, some (6, false)⟩) (v := .agg (vtx x0.f 1 (.slice (some ⟨bp, 0, none⟩) 0 0))) rfl (by kernel_rfl) (by kernel_rfl) (by kernel_rfl) (fun _ _ _ h => h) (yieldsIf_ld (by rfl) (Operand.tmp 36) 61 rfl b6 2 rfl (vtx x0.f 1 (.slice (some ⟨bp, 0, none⟩) 0 0)) _ Tryz.underlying61 rfl (sizeV62 _ _ _) fun w hS => hS.2.2.2.1) hHeld ?_
  simp only [Act.put, List.setIfInBounds_toArray, List.set_cons_zero, List.set_cons_succ]
  refine wpAnyH_take (i := 11) (oi := ⟨some 39, Op.move (Operand.tmp 5), 3, _, _, some (6, false)⟩) (v := .int .i64 0) rfl (by kernel_rfl) (by kernel_rfl) (by kernel_rfl) (fun _ _ _ h => h) (Or.inl ⟨by rfl, fun w hS => by have cS := hS.1.c 1 rfl; go_simp⟩) hHeld ?_
  simp only [Act.put, List.setIfInBounds_toArray, List.set_cons_zero, List.set_cons_succ]
  refine wpAnyH_ready (rs := [10]) (by kernel_rfl) (by simp) ?_
  refine AllReadyH.cons (o := ⟨some 38, Op.call { callee := Callee.value (Operand.func 52), args := #[Operand.tmp 35, Operand.tmp 37], argTypes := #[114, 61] }, 3, _, _, some (6, false)⟩) rfl (fun K hK => ?_) AllReadyH.nil
  rw [if_pos (by rfl)]
  refine wp_callF 52 _ _ rfl Tryz.in52 #[.agg #[.slice (some ⟨g, 0, none⟩) 1 cap, .map (some fb)], .agg (vtx x0.f 1 (.slice (some ⟨bp, 0, none⟩) 0 0))] (by simp [Act.eval]) (fun vz wz => vz = .int .i64 0 ∧ Below w10.heap.size w10 wz) ?_ ?_
  · refine (turn_is g cap fb bp w10).mono ?_
    rintro e wz ⟨rfl, hb⟩
    exact ⟨_, rfl, rfl, hb⟩
  rintro vz w11 ⟨rfl, hb⟩
  have H211 := Keep.mk (H210.out.below hb H210.out.lt)
  have HF11 : Keep (w11.heap[fb]? = some (.map #[⟨.agg (bytesA 32 x0.f), .int .i64 0, 0⟩] 1)) := ⟨by rw [hb.block fb (Array.getElem?_eq_some_iff.1 HF10.out).1]; exact HF10.out⟩
  have B11 : Keep (Below w.heap.size w w11) := ⟨B10.out.trans (hb.mono B10.out.size)⟩
  have H711 := Keep.mk (H710.out.below hb H710.out.lt)
  have HV11 := Keep.mk (rng_grown HV10.out (Grown.below (S := fun _ => False) hb) (fun e => e))
  have HC11 : Keep (w11.cell? ⟨b6, 34, none⟩ = some (.int .i64 1)) := ⟨(Grown.below (S := fun _ => False) hb).cell HC10.out (fun e => e)⟩
  have HJ11 := Keep.mk (rng_grown HJ10.out (Grown.below (S := fun _ => False) hb) (fun e => e))
  clear hb H210 H710 HF10 HV10 HC10 HJ10 B10
  refine hK _ _ (⟨H211.out, H711.out, HF11.out, HV11.out, HJ11.out⟩) fun hHa => ?_
  clear hK
  simp only [Act.put, List.setIfInBounds_toArray, List.set_cons_zero, List.set_cons_succ]
  refine wpAnyH_take (i := 12) (oi := ⟨some 40, Op.binOp BinOp.gtr 3 (Operand.tmp 38) (Operand.tmp 39) 3, 4, _, _, some (6, false)⟩) (v := .bool false) rfl (by kernel_rfl) (by kernel_rfl) (by kernel_rfl) (fun _ _ _ h => h) (Or.inl ⟨by rfl, fun w hS => by have cS := hS.1.c 1 rfl; go_simp⟩) hHa ?_
  simp only [Act.put, List.setIfInBounds_toArray, List.set_cons_zero, List.set_cons_succ]
  refine wpAnyH_take (i := 13) (oi := ⟨some 41, Op.pick (Operand.tmp 34) (Operand.const (Value.bool true)) (Operand.tmp 40), 4, _, _, none⟩) (v := .bool false) rfl (by kernel_rfl) (by kernel_rfl) (by kernel_rfl) (fun _ _ _ h => h) (Or.inl ⟨by rfl, fun w hS => by have cS := hS.1.c 1 rfl; go_simp⟩) hHa ?_
  simp only [Act.put, List.setIfInBounds_toArray, List.set_cons_zero, List.set_cons_succ]
  refine wpAnyH_take (i := 14) (oi := ⟨some 42, Op.move (Operand.tmp 41), 4, _, _, none⟩) (v := .bool false) rfl (by kernel_rfl) (by kernel_rfl) (by kernel_rfl) (fun _ _ _ h => h) (Or.inl ⟨by rfl, fun w hS => by have cS := hS.1.c 1 rfl; go_simp⟩) hHa ?_
  simp only [Act.put, List.setIfInBounds_toArray, List.set_cons_zero, List.set_cons_succ]
  refine wpAnyH_take (i := 15) (oi := ⟨some 43, Op.move (Operand.tmp 4), 25, _, _, some (14, false)⟩) (v := .slice (some ⟨gj, 0, none⟩) 1 cj) rfl (by kernel_rfl) (by kernel_rfl) (by kernel_rfl) (fun _ _ _ h => h) (Or.inl ⟨by rfl, fun w hS => by have cS := hS.1.c 1 rfl; go_simp⟩) hHa ?_
  simp only [Act.put, List.setIfInBounds_toArray, List.set_cons_zero, List.set_cons_succ]
  refine wpAnyH_take (i := 16) (oi := ⟨some 44, Op.indexAddr 25 (Operand.tmp 43) (Operand.const (Value.int IntKind.i64 0)), 0, _, _, some (14, false)⟩) (v := .pointer (some ⟨gj, 0, none⟩)) rfl (by kernel_rfl) (by kernel_rfl) (by kernel_rfl) (fun _ _ _ h => h) (Or.inl ⟨by rfl, fun w hS => by have cS := hS.1.c 1 rfl; go_simp⟩) hHa ?_
  simp only [Act.put, List.setIfInBounds_toArray, List.set_cons_zero, List.set_cons_succ]
  refine wpAnyH_take (i := 17) (oi := ⟨some 45, Op.load 50 (Operand.tmp 44), 50, _, _, some (14, false)⟩) (v := .agg (bytesA 32 x0.f)) rfl (by kernel_rfl) (by kernel_rfl) (by kernel_rfl) (fun _ _ _ h => h) (yieldsIf_ld (by rfl) (Operand.tmp 44) 50 rfl gj 0 rfl (bytesA 32 x0.f) _ Tryz.underlying50 rfl (size51E _) fun w hS => hS.2.2.2.2) hHa ?_
  simp only [Act.put, List.setIfInBounds_toArray, List.set_cons_zero, List.set_cons_succ]
  refine wpAnyH_take (i := 18) (oi := ⟨some 46, Op.load 50 (Operand.tmp 7), 50, _, _, some (14, false)⟩) (v := .agg (bytesA 32 x0.f)) rfl (by kernel_rfl) (by kernel_rfl) (by kernel_rfl) (fun _ _ _ h => h) (yieldsIf_ld (by rfl) (Operand.tmp 7) 50 rfl b7 0 rfl (bytesA 32 x0.f) _ Tryz.underlying50 rfl (size51E _) fun w hS => blk_range hS.2.1) hHa ?_
  simp only [Act.put, List.setIfInBounds_toArray, List.set_cons_zero, List.set_cons_succ]
  have hne := neq_self x0
  refine wpAnyH_take (i := 19) (oi := ⟨some 47, Op.binOp BinOp.neq 50 (Operand.tmp 45) (Operand.tmp 46) 50, 4, _, _, some (14, false)⟩) (v := .bool false) rfl (by kernel_rfl) (by kernel_rfl) (by kernel_rfl) (fun _ _ _ h => h) (Or.inl ⟨by rfl, fun w hS => by have cS := hS.1.c 1 rfl; go_simp⟩) hHa ?_
  simp only [Act.put, List.setIfInBounds_toArray, List.set_cons_zero, List.set_cons_succ]
  refine wpAnyH_take (i := 20) (oi := ⟨some 48, Op.pick (Operand.tmp 42) (Operand.const (Value.bool true)) (Operand.tmp 47), 4, _, _, none⟩) (v := .bool false) rfl (by kernel_rfl) (by kernel_rfl) (by kernel_rfl) (fun _ _ _ h => h) (Or.inl ⟨by rfl, fun w hS => by have cS := hS.1.c 1 rfl; go_simp⟩) hHa ?_
  simp only [Act.put, List.setIfInBounds_toArray, List.set_cons_zero, List.set_cons_succ]
  clear hne
  refine wpAnyH_done (by kernel_rfl) ?_ _
  refine hK12 _ _ ?_
  refine wp_cond_false rfl ?_
  refine wp_skip ?_
  refine hK11 _ _ ?_
  refine wp_seq_k fun K13 hK13 => ?_
  refine wp_seq_k fun K14 hK14 => ?_
  refine wp_region_held_drew (S := fun wx => Blk wx b2 114 #[.slice (some ⟨g, 0, none⟩) 1 cap, .map (some fb)] ∧ wx.rangeAt b6 2 (vtx x0.f 1 (.slice (some ⟨bp, 0, none⟩) 0 0)).toList ∧ wx.cell? ⟨b6, 34, none⟩ = some (.int .i64 1)) (by kernel_rfl) (⟨H211.out.drew, HV11.out, HC11.out⟩) (fun hHeld => ?_)
  have H212 := Keep.mk H211.out.drew
  have H712 := Keep.mk H711.out.drew
  have HF12 : Keep (w11.drew.heap[fb]? = some (.map #[⟨.agg (bytesA 32 x0.f), .int .i64 0, 0⟩] 1)) := ⟨HF11.out⟩
  have HV12 : Keep (w11.drew.rangeAt b6 2 (vtx x0.f 1 (.slice (some ⟨bp, 0, none⟩) 0 0)).toList) := ⟨HV11.out⟩
  have HC12 : Keep (w11.drew.cell? ⟨b6, 34, none⟩ = some (.int .i64 1)) := ⟨HC11.out⟩
  have HJ12 : Keep (w11.drew.rangeAt gj 0 (bytesA 32 x0.f).toList) := ⟨HJ11.out⟩
  have B12 : Keep (Below w.heap.size w w11.drew) := ⟨B11.out.drew⟩
  clear H211 H711 HF11 HV11 HC11 HJ11 B11
  generalize w11.drew = w12 at *
  refine wpAnyH_take (i := 0) (oi := ⟨some 52, Op.load 114 (Operand.tmp 2), 114, _, _, none⟩) (v := .agg #[.slice (some ⟨g, 0, none⟩) 1 cap, .map (some fb)]) rfl (by kernel_rfl) (by kernel_rfl) (by kernel_rfl) (fun _ _ _ h => h) (yieldsIf_ld (by rfl) (Operand.tmp 2) 114 rfl b2 0 rfl #[.slice (some ⟨g, 0, none⟩) 1 cap, .map (some fb)] _ Tryz.underlying114 rfl (by kernel_rfl) fun w hS => blk_range hS.1) hHeld ?_
  simp only [Act.put, List.setIfInBounds_toArray, List.set_cons_zero, List.set_cons_succ]
  refine wpAnyH_take (i := 1) (oi := ⟨some 53, Op.fieldAddr 79 (Operand.tmp 6) 2, 0, _, _, none⟩) (v := .pointer (some ⟨b6, 2, none⟩)) rfl (by kernel_rfl) (by kernel_rfl) (by kernel_rfl) (fun _ _ _ h => h) (Or.inl ⟨by rfl, fun w hS => by have cS := hS.2.2; go_simp⟩) hHeld ?_
  simp only [Act.put, List.setIfInBounds_toArray, List.set_cons_zero, List.set_cons_succ]
  refine wpAnyH_take (i := 2) (oi := ⟨some 54, Op.load 61 (Operand.tmp 53), 61, _, _, none⟩) (v := .agg (vtx x0.f 1 (.slice (some ⟨bp, 0, none⟩) 0 0))) rfl (by kernel_rfl) (by kernel_rfl) (by kernel_rfl) (fun _ _ _ h => h) (yieldsIf_ld (by rfl) (Operand.tmp 53) 61 rfl b6 2 rfl (vtx x0.f 1 (.slice (some ⟨bp, 0, none⟩) 0 0)) _ Tryz.underlying61 rfl (sizeV62 _ _ _) fun w hS => hS.2.1) hHeld ?_
  simp only [Act.put, List.setIfInBounds_toArray, List.set_cons_zero, List.set_cons_succ]
  refine wpAnyH_take (i := 4) (oi := ⟨some 56, Op.fieldAddr 79 (Operand.tmp 6) 2, 0, _, _, none⟩) (v := .pointer (some ⟨b6, 2, none⟩)) rfl (by kernel_rfl) (by kernel_rfl) (by kernel_rfl) (fun _ _ _ h => h) (Or.inl ⟨by rfl, fun w hS => by have cS := hS.2.2; go_simp⟩) hHeld ?_
  simp only [Act.put, List.setIfInBounds_toArray, List.set_cons_zero, List.set_cons_succ]
  refine wpAnyH_take (i := 5) (oi := ⟨some 57, Op.fieldAddr 61 (Operand.tmp 56) 1, 0, _, _, none⟩) (v := .pointer (some ⟨b6, 34, none⟩)) rfl (by kernel_rfl) (by kernel_rfl) (by kernel_rfl) (fun _ _ _ h => h) (Or.inl ⟨by rfl, fun w hS => by have cS := hS.2.2; go_simp⟩) hHeld ?_
  simp only [Act.put, List.setIfInBounds_toArray, List.set_cons_zero, List.set_cons_succ]
  refine wpAnyH_take (i := 6) (oi := ⟨some 58, Op.load 3 (Operand.tmp 57), 3, _, _, none⟩) (v := .int .i64 1) rfl (by kernel_rfl) (by kernel_rfl) (by kernel_rfl) (fun _ _ _ h => h) (Or.inl ⟨by rfl, fun w hS => by have cS := hS.2.2; go_simp⟩) hHeld ?_
  simp only [Act.put, List.setIfInBounds_toArray, List.set_cons_zero, List.set_cons_succ]
  refine wpAnyH_ready (rs := [3]) (by kernel_rfl) (by simp) ?_
  refine AllReadyH.cons (o := ⟨some 55, Op.call { callee := Callee.value (Operand.func 54), args := #[Operand.tmp 52, Operand.tmp 54], argTypes := #[114, 61] }, 3, _, _, none⟩) rfl (fun K hK => ?_) AllReadyH.nil
  rw [if_pos (by rfl)]
  refine wp_callF 54 _ _ rfl Tryz.in54 #[.agg #[.slice (some ⟨g, 0, none⟩) 1 cap, .map (some fb)], .agg (vtx x0.f 1 (.slice (some ⟨bp, 0, none⟩) 0 0))] (by simp [Act.eval]) (fun vz wz => vz = .int .i64 1 ∧ Below w12.heap.size w12 wz) ?_ ?_
  · refine (clock_is g cap fb bp w12).mono ?_
    rintro e wz ⟨rfl, hb⟩
    exact ⟨_, rfl, rfl, hb⟩
  rintro vz w13 ⟨rfl, hb⟩
  have H213 := Keep.mk (H212.out.below hb H212.out.lt)
  have HF13 : Keep (w13.heap[fb]? = some (.map #[⟨.agg (bytesA 32 x0.f), .int .i64 0, 0⟩] 1)) := ⟨by rw [hb.block fb (Array.getElem?_eq_some_iff.1 HF12.out).1]; exact HF12.out⟩
  have B13 : Keep (Below w.heap.size w w13) := ⟨B12.out.trans (hb.mono B12.out.size)⟩
  have H713 := Keep.mk (H712.out.below hb H712.out.lt)
  have HV13 := Keep.mk (rng_grown HV12.out (Grown.below (S := fun _ => False) hb) (fun e => e))
  have HC13 : Keep (w13.cell? ⟨b6, 34, none⟩ = some (.int .i64 1)) := ⟨(Grown.below (S := fun _ => False) hb).cell HC12.out (fun e => e)⟩
  have HJ13 := Keep.mk (rng_grown HJ12.out (Grown.below (S := fun _ => False) hb) (fun e => e))
  clear hb H212 H712 HF12 HV12 HC12 HJ12 B12
  refine hK _ _ (⟨H213.out, HV13.out, HC13.out⟩) fun hHb => ?_
  clear hK
  simp only [Act.put, List.setIfInBounds_toArray, List.set_cons_zero, List.set_cons_succ]
  refine wpAnyH_take (i := 7) (oi := ⟨some 59, Op.binOp BinOp.neq 3 (Operand.tmp 55) (Operand.tmp 58) 3, 4, _, _, none⟩) (v := .bool false) rfl (by kernel_rfl) (by kernel_rfl) (by kernel_rfl) (fun _ _ _ h => h) (Or.inl ⟨by rfl, fun w hS => by have cS := hS.2.2; go_simp⟩) hHb ?_
  simp only [Act.put, List.setIfInBounds_toArray, List.set_cons_zero, List.set_cons_succ]
  refine wpAnyH_done (by kernel_rfl) ?_ _
  refine hK14 _ _ ?_
  refine wp_cond_false rfl ?_
  refine wp_skip ?_
  refine hK13 _ _ ?_
  refine wp_region_list (WL.out ?_)
  refine WL.val (by kernel_rfl) (.slice (some ⟨gj, 0, none⟩) 1 cj) (by go_simp) ?_
  simp only [Act.put, List.setIfInBounds_toArray, List.set_cons_zero, List.set_cons_succ]
  obtain ⟨vs, hvs⟩ := sl1 ⟨gj, 0, none⟩ cj w13
  refine WL.val (by kernel_rfl) vs (by go_simp) ?_
  clear hvs
  simp only [Act.put, List.setIfInBounds_toArray, List.set_cons_zero, List.set_cons_succ]
  refine WL.val (by kernel_rfl) (vs) (by go_simp) ?_
  simp only [Act.put, List.setIfInBounds_toArray, List.set_cons_zero, List.set_cons_succ]
  refine WL.nil ?_
  refine hK7 _ _ ?_
  refine wp_region_list (WL.out ?_)
  refine WL.val (by kernel_rfl) (.int .i64 1) (by kernel_rfl) ?_
  simp only [Act.put, List.setIfInBounds_toArray, List.set_cons_zero, List.set_cons_succ]
  refine WL.val (by kernel_rfl) (.int .i64 1) (by go_simp) ?_
  simp only [Act.put, List.setIfInBounds_toArray, List.set_cons_zero, List.set_cons_succ]
  refine WL.nil ?_
  simp only [Exit.then, Exit.inBlock]
  rw [rounds_succ]
  refine wp_seq_k fun K15 hK15 => ?_
  refine wp_region_list (WL.out ?_)
  refine WL.val (by kernel_rfl) (.bool false) (by go_simp) ?_
  simp only [Act.put, List.setIfInBounds_toArray, List.set_cons_zero, List.set_cons_succ]
  refine WL.nil ?_
  refine hK15 _ _ ?_
  refine wp_seq_k fun K16 hK16 => ?_
  refine wp_cond_false rfl ?_
  refine wp_exit ?_
  simp only [Exit.inBlock, Exit.then, eq_self, if_true]
  go_end0
  exact ⟨rfl, B13.out⟩

end Go.Proofs.YtdkhjeofjhcceaaGreatDoor
