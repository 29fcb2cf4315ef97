import Derived.Test.YtdkhjeofjhcceaaGreatDoorB10
namespace Go.Proofs.YtdkhjeofjhcceaaGreatDoor
open Go.RowKit
set_option linter.unusedSimpArgs false
set_option linter.unusedVariables false
theorem Tryz.in8 (w : World) (vs : Array Value) : (callFunc 8 vs).run Tryz.prog w = .ok (.enter 8 vs) w := by kernel_rfl
set_option maxRecDepth 8000 in
theorem ucatch_idle (g2 g3 : Nat) (w : World) :
    CallsD Tryz.prog 26 #[ptr g2, ptr g3] .returning w fun e u' w' => e = .returned (.tuple #[]) ∧ u' = .returning ∧ w' = w := by
  refine callsD_of_wpS Tryz.func26 rfl fun c₀ cs hu => ?_
  apply wpS_seq
  apply wpS_region
  simp [wpOpsS, go_sem, recoverD, hu, Tryz.ntmps26, Exit.thenS]
  apply wpS_seq
  apply wpS_region
  simp [wpOpsS, go_sem, Exit.thenS]
  refine wpS_cond (t := false) (by simp [Act.eval, Array.replicate]) ?_
  simp only [Bool.false_eq_true, if_false]
  refine wpS_of_wp (wp_skip ?_)
  cases c₀
  simp_all [bodyPostS, results, Tryz.results26]
theorem uload (t : TypeId) (w : World) (g : Nat) (x : Value) (h : Blk w g t #[x]) (ht : t = 29 ∨ t = 34) : (loadVar t ⟨g, 0, none⟩).run Tryz.prog w = .ok x w := by
  have c0 := h.c 0 rfl
  rcases ht with rfl | rfl <;> go_simp
theorem uresults (tmps : Array Value) (w : World) (g g' : Nat) (v x : Value)
    (hp : tmps.getD 2 undef = .pointer (some ⟨g, 0, none⟩)) (hq : tmps.getD 3 undef = .pointer (some ⟨g', 0, none⟩)) (hg : Blk w g 34 #[v]) (hg' : Blk w g' 29 #[x]) :
    (results Tryz.f8 tmps).run Tryz.prog w = .ok (.tuple #[v, x]) w := by
  have hr := uload 34 w g v hg (.inr rfl)
  have hx := uload 29 w g' x hg' (.inl rfl)
  have hres : Tryz.f8.results = #[.cell 2 34, .cell 3 29] := by kernel_rfl
  simp only [results, hres]
  simp only [Array.getD_eq_getD_getElem?] at hp hq
  simp [Result.andThen, asAddr, hp, hq, hr, hx]
theorem Tryz.new34u (w : World) : (Instr.alloc 34 true (.tuple #[])).run Tryz.prog w = .ok (.pointer (some ⟨w.heap.size, 0, none⟩)) (w.alloc (.cells #[.slice none 0 0] 34)) := by kernel_rfl
theorem Tryz.new29u (w : World) : (Instr.alloc 29 true (.tuple #[])).run Tryz.prog w = .ok (.pointer (some ⟨w.heap.size, 0, none⟩)) (w.alloc (.cells #[.nilIface] 29)) := by kernel_rfl
theorem bsRw (gr cr : Nat) (w : World) : (Instr.buildSlice 34 1 #[(0, .slice (some ⟨gr, 0, none⟩) 5 cr)]).run Tryz.prog w = .ok (.slice (some ⟨w.heap.size, 0, none⟩) 1 1) (w.alloc (.cells #[.slice (some ⟨gr, 0, none⟩) 5 cr] 32)) := by kernel_rfl
theorem info32u : (Tryz.prog.info? 32).map (fun i => (i.zero, i.size, i.bytes)) = some (some (.slice none 0 0), 1, 24) := by kernel_rfl
set_option maxRecDepth 8000 in
set_option maxHeartbeats 2000000 in
theorem unpack_is (q : Nat) (w : World) (HR : Keep (RowAt w (.slice (some ⟨q, 0, none⟩) 47 47) arkL)) : Calls Tryz.prog 8 #[.slice (some ⟨q, 0, none⟩) 47 47] w fun e w' => ∃ gl cl gr cr, e = .returned (.tuple #[.slice (some ⟨gl, 0, none⟩) 1 cl, .nilIface]) ∧ w'.cell? ⟨gl, 0, none⟩ = some (.slice (some ⟨gr, 0, none⟩) 5 cr) ∧ Nd.OwnT w' (.slice (some ⟨gr, 0, none⟩) 5 cr) [1, 1, 1, 0, 0] ∧ Below w.heap.size w w' := by
  have hmf : ∀ (fn : Fn) (first cap : Array Value) (w : World), (Instr.makeFunc fn first cap).run Tryz.prog w = .ok (.func fn first cap) w := fun _ _ _ _ => rfl
  go_enter_defers Tryz.func8, Tryz.ntmps8
  refine wp_seq_k fun K1 hK1 => ?_
  refine wp_region_list (WL.out ?_)
  refine WL.new (by kernel_rfl) 34 rfl _ Tryz.new34u ?_
  have H2 := Keep.mk (Blk.new w 34 #[.slice none 0 0])
  have b_g2 := Keep.mk (below_new w (.cells #[.slice none 0 0] 34))
  generalize w.alloc (.cells #[.slice none 0 0] 34) = w1 at *
  obtain ⟨g2, hg2⟩ : ∃ z, Keep (z = w.heap.size) := ⟨_, ⟨rfl⟩⟩
  rw [← hg2.out] at H2 ⊢
  simp only [Act.put, List.setIfInBounds_toArray, List.set_cons_zero, List.set_cons_succ]
  refine WL.new (by kernel_rfl) 29 rfl _ Tryz.new29u ?_
  have H3 := Keep.mk (Blk.new w1 29 #[.nilIface])
  have b_g3 := Keep.mk (below_new w1 (.cells #[.nilIface] 29))
  generalize w1.alloc (.cells #[.nilIface] 29) = w2 at *
  obtain ⟨g3, hg3⟩ : ∃ z, Keep (z = w1.heap.size) := ⟨_, ⟨rfl⟩⟩
  rw [← hg3.out] at H3 ⊢
  have H22 := Keep.mk (H2.out.below b_g3.out H2.out.lt)
  have B2 : Keep (Below w.heap.size w w2) := ⟨b_g2.out.trans (b_g3.out.mono b_g2.out.size)⟩
  have LT : Keep (w.heap.size ≤ g2 ∧ g2 < g3 ∧ g3 < w2.heap.size) := ⟨by
    have h1 := hg2.out
    have h2 := hg3.out
    have h3 := H2.out.lt
    have h4 := H3.out.lt
    omega⟩
  clear H2 b_g2 b_g3
  simp only [Act.put, List.setIfInBounds_toArray, List.set_cons_zero, List.set_cons_succ]
  refine WL.nil ?_
  refine hK1 _ _ ?_
  refine wp_seq_k fun K2 hK2 => ?_
  refine wp_region_list (WL.out ?_)
  refine WL.val (by kernel_rfl) (.func (.func 26) #[] #[.pointer (some ⟨g2, 0, none⟩), .pointer (some ⟨g3, 0, none⟩)]) (by go_simp) ?_
  simp only [Act.put, List.setIfInBounds_toArray, List.set_cons_zero, List.set_cons_succ]
  refine WL.defer (by kernel_rfl) { target := .fn (.func 26) #[.pointer (some ⟨g2, 0, none⟩), .pointer (some ⟨g3, 0, none⟩)], args := #[] } (by go_simp) ?_
  clear hmf
  simp only [Act.put]
  refine WL.nil ?_
  refine hK2 _ _ ?_
  refine wp_seq_k fun K3 hK3 => ?_
  refine wp_region_list (WL.out ?_)
  refine WL.val (by kernel_rfl) (.slice (some ⟨q, 0, none⟩) 47 47) (by go_simp) ?_
  simp only [Act.put, List.setIfInBounds_toArray, List.set_cons_zero, List.set_cons_succ]
  refine WL.callF (by kernel_rfl) 27 _ _ rfl Tryz.in27 #[.slice (some ⟨q, 0, none⟩) 47 47] (by simp [Act.eval]) ?_
  refine (ark_is q w2 ⟨HR.out.below B2.out⟩).mono ?_
  rintro e w3 ⟨g, cap, gr, cr, bp, rfl, k1, k2, k3, k4, hb⟩
  refine ⟨_, rfl, ?_⟩
  have H23 := Keep.mk (H22.out.below hb H22.out.lt)
  have H33 := Keep.mk (H3.out.below hb H3.out.lt)
  have HO3 := Keep.mk k3
  have B3 : Keep (Below w.heap.size w w3) := ⟨B2.out.trans (hb.mono B2.out.size)⟩
  have Ng : Keep (g3 < gr ∧ g3 < g) := ⟨by have := LT.out; omega⟩
  obtain ⟨X, hX⟩ : ∃ z, Keep (z = (ptA 10 (.slice (some ⟨gr, 0, none⟩) 5 cr) x0.f 1 (.slice (some ⟨bp, 0, none⟩) 0 0))) := ⟨_, ⟨rfl⟩⟩
  rw [← hX.out] at k1
  have HX3 := Keep.mk k1
  clear k1 k2 k3 k4 hb H22 H3 B2
  simp only [Act.put, List.setIfInBounds_toArray, List.set_cons_zero, List.set_cons_succ]
  refine WL.val (by kernel_rfl) (.slice (some ⟨g, 0, none⟩) 1 cap) (by go_simp) ?_
  simp only [Act.put, List.setIfInBounds_toArray, List.set_cons_zero, List.set_cons_succ]
  refine WL.nil ?_
  refine hK3 _ _ ?_
  refine wp_seq_k fun K4 hK4 => ?_
  refine wp_region_list (WL.out ?_)
  refine WL.val (by kernel_rfl) (.slice (some ⟨g, 0, none⟩) 1 cap) (by go_simp) ?_
  simp only [Act.put, List.setIfInBounds_toArray, List.set_cons_zero, List.set_cons_succ]
  refine WL.callF (by kernel_rfl) 28 _ _ rfl Tryz.in28 #[.slice (some ⟨g, 0, none⟩) 1 cap] (by simp [Act.eval]) ?_
  refine (order_is g cap gr cr bp X hX w3 HX3).mono ?_
  rintro e w4 ⟨rfl, hb⟩
  refine ⟨_, rfl, ?_⟩
  have H24 := Keep.mk (H23.out.below hb H23.out.lt)
  have H34 := Keep.mk (H33.out.below hb H33.out.lt)
  have HO4 : Keep (Nd.OwnT w4 (.slice (some ⟨gr, 0, none⟩) 5 cr) [1, 1, 1, 0, 0]) := ⟨HO3.out.grown (Nd.Grown.below (S := fun _ => False) hb) fun _ _ h => h⟩
  have HX4 := Keep.mk (rng_grown HX3.out (Grown.below (S := fun _ => False) hb) (fun e => e))
  have B4 : Keep (Below w.heap.size w w4) := ⟨B3.out.trans (hb.mono B3.out.size)⟩
  clear hb H23 H33 HO3 HX3 B3
  simp only [Act.put, List.setIfInBounds_toArray, List.set_cons_zero, List.set_cons_succ]
  refine WL.nil ?_
  refine hK4 _ _ ?_
  refine wp_seq_k fun K5 hK5 => ?_
  refine wp_seq_k fun K6 hK6 => ?_
  refine wp_region_list (WL.out ?_)
  refine WL.val (by kernel_rfl) (.slice (some ⟨g, 0, none⟩) 1 cap) (by go_simp) ?_
  simp only [Act.put, List.setIfInBounds_toArray, List.set_cons_zero, List.set_cons_succ]
  refine WL.val (by kernel_rfl) (.int .i64 1) (by go_simp) ?_
  simp only [Act.put, List.setIfInBounds_toArray, List.set_cons_zero, List.set_cons_succ]
  refine WL.val (by kernel_rfl) (.int .i64 0) (by go_simp) ?_
  simp only [Act.put, List.setIfInBounds_toArray, List.set_cons_zero, List.set_cons_succ]
  refine WL.nil ?_
  refine hK6 _ _ ?_
  refine wp_block ?_
  refine wp_loop_rounds 2 ?_
  rw [rounds_succ]
  refine wp_seq_k fun K7 hK7 => ?_
  refine wp_region_list (WL.out ?_)
  refine WL.val (by kernel_rfl) (.bool true) (by go_simp) ?_
  simp only [Act.put, List.setIfInBounds_toArray, List.set_cons_zero, List.set_cons_succ]
  refine WL.nil ?_
  refine hK7 _ _ ?_
  refine wp_seq_k fun K8 hK8 => ?_
  refine wp_cond_true rfl ?_
  refine wp_skip ?_
  refine hK8 _ _ ?_
  refine wp_seq_k fun K9 hK9 => ?_
  refine wp_block ?_
  refine wp_seq_k fun K10 hK10 => ?_
  refine wp_region_list (WL.out ?_)
  refine WL.val (by kernel_rfl) (.pointer (some ⟨g, 0, none⟩)) (by go_simp) ?_
  simp only [Act.put, List.setIfInBounds_toArray, List.set_cons_zero, List.set_cons_succ]
  refine WL.midA (by kernel_rfl) 79 (.tmp 16) rfl g 0 rfl X _ HX4.out Tryz.underlying79 rfl (sizeX hX) ?_
  simp only [Act.put, List.setIfInBounds_toArray, List.set_cons_zero, List.set_cons_succ]
  refine WL.new (by kernel_rfl) 79 rfl _ Tryz.new79p ?_
  have H6 := Keep.mk (Blk.new w4 79 ptZ)
  have b_b6 := Keep.mk (below_new w4 (.cells ptZ 79))
  generalize w4.alloc (.cells ptZ 79) = w5 at *
  obtain ⟨b6, hb6⟩ : ∃ z, Keep (z = w4.heap.size) := ⟨_, ⟨rfl⟩⟩
  rw [← hb6.out] at H6 ⊢
  have hb := b_b6.out
  have H25 := Keep.mk (H24.out.below hb H24.out.lt)
  have H35 := Keep.mk (H34.out.below hb H34.out.lt)
  have HO5 : Keep (Nd.OwnT w5 (.slice (some ⟨gr, 0, none⟩) 5 cr) [1, 1, 1, 0, 0]) := ⟨HO4.out.grown (Nd.Grown.below (S := fun _ => False) hb) fun _ _ h => h⟩
  have B5 : Keep (Below w.heap.size w w5) := ⟨B4.out.trans (hb.mono B4.out.size)⟩
  have N6 : Keep (g3 < b6 ∧ gr < b6) := ⟨by have h1 := hb6.out; have h2 := H34.out.lt; have h3 := HO4.out.lt gr rfl; omega⟩
  clear hb H24 H34 HO4 B4 b_b6
  simp only [Act.put, List.setIfInBounds_toArray, List.set_cons_zero, List.set_cons_succ]
  refine WL.storeR (by kernel_rfl) 79 (.tmp 6) (.tmp 17) rfl b6 X rfl rfl 79 ptZ H6.out (sizeX hX) (by rw [hX.out, ptA_size, ptZ_size]) (by rw [hX.out]; exact ptA_one _ _ _ _ _ rfl rfl) ?_
  have H66 := Keep.mk (H6.out.setRow X)
  have g_w6 : Keep (Grown w5 (w5.setRow b6 X) fun k => k = b6) := ⟨Grown.setRow w5 b6 _ fun _ => rfl⟩
  clear H6
  generalize w5.setRow b6 X = w6 at *
  have H26 := Keep.mk (g_w6.out.blk H25.out (by have h1 := LT.out; have h2 := N6.out; omega))
  have H36 := Keep.mk (g_w6.out.blk H35.out (by have h1 := LT.out; have h2 := N6.out; omega))
  have HO6 : Keep (Nd.OwnT w6 (.slice (some ⟨gr, 0, none⟩) 5 cr) [1, 1, 1, 0, 0]) := ⟨HO5.out.grown (grown_Nd g_w6.out) fun k hk e => by cases hk; have h2 := N6.out; have e : gr = b6 := e; omega⟩
  have B6 : Keep (Below w.heap.size w w6) := ⟨B5.out.trans (g_w6.out.to_below (fun k hk e => by have h1 := LT.out; have h2 := N6.out; omega) B5.out.size)⟩
  have c1 : w6.cell? ⟨b6, 1, none⟩ = some (.slice (some ⟨gr, 0, none⟩) 5 cr) := by
    rw [H66.out.cell, hX.out]
    exact pt_1 _ _ _ _ _
  have C1 := Keep.mk c1
  clear c1 H25 H35 HO5 B5 H66
  simp only [Act.put]
  refine WL.nil ?_
  refine hK10 _ _ ?_
  refine wp_region_list (WL.out ?_)
  have cS := H26.out.c 0 rfl
  refine WL.val (by kernel_rfl) (.slice none 0 0) (by go_simp) ?_
  clear cS
  simp only [Act.put, List.setIfInBounds_toArray, List.set_cons_zero, List.set_cons_succ]
  refine WL.val (by kernel_rfl) (.pointer (some ⟨b6, 1, none⟩)) (by go_simp) ?_
  simp only [Act.put, List.setIfInBounds_toArray, List.set_cons_zero, List.set_cons_succ]
  have cS := C1.out
  refine WL.val (by kernel_rfl) (.slice (some ⟨gr, 0, none⟩) 5 cr) (by go_simp) ?_
  clear cS
  simp only [Act.put, List.setIfInBounds_toArray, List.set_cons_zero, List.set_cons_succ]
  refine WL.bs (by kernel_rfl) 34 1 _ rfl #[(0, .slice (some ⟨gr, 0, none⟩) 5 cr)] (by simp [Act.eval]) _ _ (bsRw gr cr w6) ?_
  have HB7 := Keep.mk (Blk.new w6 32 #[.slice (some ⟨gr, 0, none⟩) 5 cr])
  have hb := below_new w6 (.cells #[.slice (some ⟨gr, 0, none⟩) 5 cr] 32)
  have H27 := Keep.mk (H26.out.below hb H26.out.lt)
  have H37 := Keep.mk (H36.out.below hb H36.out.lt)
  have HO7 : Keep (Nd.OwnT (w6.alloc (.cells #[.slice (some ⟨gr, 0, none⟩) 5 cr] 32)) (.slice (some ⟨gr, 0, none⟩) 5 cr) [1, 1, 1, 0, 0]) := ⟨HO6.out.grown (Nd.Grown.below (S := fun _ => False) hb) fun _ _ h => h⟩
  have B7 := Keep.mk (B6.out.trans (hb.mono B6.out.size))
  clear hb H26 H36 HO6 B6 C1
  generalize w6.alloc (.cells #[.slice (some ⟨gr, 0, none⟩) 5 cr] 32) = w7 at *
  generalize w6.heap.size = gb at *
  simp only [Act.put, List.setIfInBounds_toArray, List.set_cons_zero, List.set_cons_succ]
  refine WL.app1 (by kernel_rfl) 34 _ _ rfl (.slice none 0 0) gb rfl rfl (fun v' w' => ∃ gl cl, v' = .slice (some ⟨gl, 0, none⟩) 1 cl ∧ w'.rangeAt gl 0 [.slice (some ⟨gr, 0, none⟩) 5 cr] ∧ Below w7.heap.size w7 w' ∧ gl = w7.heap.size) (fun ty => by
    obtain ⟨g', c', w', h1, h2, h3, h4⟩ := app_one 34 32 1 24 (.slice none 0 0) Tryz.underlying34 info32u rfl (by decide) (by decide) ty w7 (.slice none 0 0) ⟨rfl, .inl ⟨rfl, rfl⟩⟩ gb #[.slice (some ⟨gr, 0, none⟩) 5 cr] rfl (by intro u hu; simp at hu; subst hu; rfl) HB7.out
    refine ⟨_, w', h1, g', c', rfl, h2, h3.to_below (fun k _ e => nil_own k e) (Nat.le_refl _), ?_⟩
    rcases h4 with e | e
    · exact absurd e (nil_own g')
    · exact e) ?_
  rintro v8 w8 ⟨gl, cl, rfl, k1, hb, k3⟩
  have HG8 : Keep (w8.cell? ⟨gl, 0, none⟩ = some (.slice (some ⟨gr, 0, none⟩) 5 cr)) := ⟨k1 0 _ rfl⟩
  have H28 := Keep.mk (H27.out.below hb H27.out.lt)
  have H38 := Keep.mk (H37.out.below hb H37.out.lt)
  have HO8 : Keep (Nd.OwnT w8 (.slice (some ⟨gr, 0, none⟩) 5 cr) [1, 1, 1, 0, 0]) := ⟨HO7.out.grown (Nd.Grown.below (S := fun _ => False) hb) fun _ _ h => h⟩
  have B8 : Keep (Below w.heap.size w w8) := ⟨B7.out.trans (hb.mono B7.out.size)⟩
  have N8 : Keep (g3 < gl) := ⟨by have := H37.out.lt; omega⟩
  clear k1 hb k3 H27 H37 HO7 B7 HB7
  simp only [Act.put, List.setIfInBounds_toArray, List.set_cons_zero, List.set_cons_succ]
  have c0 := H28.out.c 0 rfl
  have f0 := H28.out.frozen 0
  refine WL.cell (by kernel_rfl) (w8.setCell ⟨g2, 0, none⟩ (.slice (some ⟨gl, 0, none⟩) 1 cl)) (by go_simp) ?_
  have H29 := Keep.mk (H28.out.set 0 (.slice (some ⟨gl, 0, none⟩) 1 cl))
  have gs : Grown w8 (w8.setCell ⟨g2, 0, none⟩ (.slice (some ⟨gl, 0, none⟩) 1 cl)) fun k => k = g2 := Grown.setCell w8 g2 0 _ fun _ => rfl
  have H39 := Keep.mk (gs.blk H38.out (by have h1 := LT.out; omega))
  have HO9 : Keep (Nd.OwnT (w8.setCell ⟨g2, 0, none⟩ (.slice (some ⟨gl, 0, none⟩) 1 cl)) (.slice (some ⟨gr, 0, none⟩) 5 cr) [1, 1, 1, 0, 0]) := ⟨HO8.out.grown (grown_Nd gs) fun k hk e => by cases hk; have h2 := Ng.out; have h1 := LT.out; have e : gr = g2 := e; omega⟩
  have HG9 := Keep.mk (gs.cell HG8.out (by have h1 := LT.out; have h2 := N8.out; omega))
  have B9 : Keep (Below w.heap.size w (w8.setCell ⟨g2, 0, none⟩ (.slice (some ⟨gl, 0, none⟩) 1 cl))) := ⟨B8.out.trans (gs.to_below (fun k hk e => by have h1 := LT.out; omega) B8.out.size)⟩
  clear c0 f0 gs H28 H38 HO8 HG8 B8
  generalize w8.setCell ⟨g2, 0, none⟩ (.slice (some ⟨gl, 0, none⟩) 1 cl) = w9 at *
  simp only [Act.put]
  refine WL.nil ?_
  refine hK9 _ _ ?_
  refine wp_region_list (WL.out ?_)
  refine WL.val (by kernel_rfl) (.int .i64 1) (by kernel_rfl) ?_
  simp only [Act.put, List.setIfInBounds_toArray, List.set_cons_zero, List.set_cons_succ]
  refine WL.val (by kernel_rfl) (.int .i64 1) (by go_simp) ?_
  simp only [Act.put, List.setIfInBounds_toArray, List.set_cons_zero, List.set_cons_succ]
  refine WL.nil ?_
  simp only [Exit.then, Exit.inBlock]
  rw [rounds_succ]
  refine wp_seq_k fun K11 hK11 => ?_
  refine wp_region_list (WL.out ?_)
  refine WL.val (by kernel_rfl) (.bool false) (by go_simp) ?_
  simp only [Act.put, List.setIfInBounds_toArray, List.set_cons_zero, List.set_cons_succ]
  refine WL.nil ?_
  refine hK11 _ _ ?_
  refine wp_seq_k fun K12 hK12 => ?_
  refine wp_cond_false rfl ?_
  refine wp_exit ?_
  refine hK5 _ _ ?_
  refine wp_seq_k fun K13 hK13 => ?_
  refine wp_region_list (WL.out ?_)
  have cS : w9.cell? ⟨g2, 0, none⟩ = some (.slice (some ⟨gl, 0, none⟩) 1 cl) := H29.out.c 0 rfl
  refine WL.val (by kernel_rfl) (.slice (some ⟨gl, 0, none⟩) 1 cl) (by go_simp) ?_
  clear cS
  simp only [Act.put, List.setIfInBounds_toArray, List.set_cons_zero, List.set_cons_succ]
  have c0 := H29.out.c 0 rfl
  have f0 := H29.out.frozen 0
  refine WL.cell (by kernel_rfl) (w9.setCell ⟨g2, 0, none⟩ (.slice (some ⟨gl, 0, none⟩) 1 cl)) (by go_simp) ?_
  have H2a := Keep.mk (H29.out.set 0 (.slice (some ⟨gl, 0, none⟩) 1 cl))
  have gs : Grown w9 (w9.setCell ⟨g2, 0, none⟩ (.slice (some ⟨gl, 0, none⟩) 1 cl)) fun k => k = g2 := Grown.setCell w9 g2 0 _ fun _ => rfl
  have H3a := Keep.mk (gs.blk H39.out (by have h1 := LT.out; omega))
  have HOa : Keep (Nd.OwnT (w9.setCell ⟨g2, 0, none⟩ (.slice (some ⟨gl, 0, none⟩) 1 cl)) (.slice (some ⟨gr, 0, none⟩) 5 cr) [1, 1, 1, 0, 0]) := ⟨HO9.out.grown (grown_Nd gs) fun k hk e => by cases hk; have h2 := Ng.out; have h1 := LT.out; have e : gr = g2 := e; omega⟩
  have HGa := Keep.mk (gs.cell HG9.out (by have h1 := LT.out; have h2 := N8.out; omega))
  have Ba : Keep (Below w.heap.size w (w9.setCell ⟨g2, 0, none⟩ (.slice (some ⟨gl, 0, none⟩) 1 cl))) := ⟨B9.out.trans (gs.to_below (fun k hk e => by have h1 := LT.out; omega) B9.out.size)⟩
  clear c0 f0 gs H29 H39 HO9 HG9 B9
  generalize w9.setCell ⟨g2, 0, none⟩ (.slice (some ⟨gl, 0, none⟩) 1 cl) = w10 at *
  simp only [Act.put]
  have c0 := H3a.out.c 0 rfl
  have f0 := H3a.out.frozen 0
  refine WL.cell (by kernel_rfl) (w10.setCell ⟨g3, 0, none⟩ (.nilIface)) (by go_simp) ?_
  have H3b := Keep.mk (H3a.out.set 0 (.nilIface))
  have gs : Grown w10 (w10.setCell ⟨g3, 0, none⟩ (.nilIface)) fun k => k = g3 := Grown.setCell w10 g3 0 _ fun _ => rfl
  have H2b := Keep.mk (gs.blk H2a.out (by have h1 := LT.out; omega))
  have HOb : Keep (Nd.OwnT (w10.setCell ⟨g3, 0, none⟩ (.nilIface)) (.slice (some ⟨gr, 0, none⟩) 5 cr) [1, 1, 1, 0, 0]) := ⟨HOa.out.grown (grown_Nd gs) fun k hk e => by cases hk; have h2 := Ng.out; have h1 := LT.out; have e : gr = g3 := e; omega⟩
  have HGb := Keep.mk (gs.cell HGa.out (by have h1 := LT.out; have h2 := N8.out; omega))
  have Bb : Keep (Below w.heap.size w (w10.setCell ⟨g3, 0, none⟩ (.nilIface))) := ⟨Ba.out.trans (gs.to_below (fun k hk e => by have h1 := LT.out; omega) Ba.out.size)⟩
  clear c0 f0 gs H2a H3a HOa HGa Ba
  generalize w10.setCell ⟨g3, 0, none⟩ (.nilIface) = w11 at *
  simp only [Act.put]
  refine WL.nil ?_
  refine hK13 _ _ ?_
  refine wp_ret ?_
  try simp only [Exit.inBlock, Exit.then]
  refine leaves_cons (f := 26) (args := #[ptr g2, ptr g3]) (by simp) (by simp [go_sem, ptr]) ?_
  refine (ucatch_idle g2 g3 w11).mono ?_
  rintro e u' wb ⟨rfl, rfl, rfl⟩
  simp only [settle]
  refine ⟨.tuple #[.slice (some ⟨gl, 0, none⟩) 1 cl, .nilIface], uresults _ _ g2 g3 _ _ rfl rfl H2b.out H3b.out, ?_⟩
  exact ⟨gl, cl, gr, cr, rfl, HGb.out, HOb.out, Bb.out⟩

theorem Tryz.in4 (w : World) (vs : Array Value) : (callFunc 4 vs).run Tryz.prog w = .ok (.enter 4 vs) w := by kernel_rfl
theorem Tryz.in3 (w : World) (vs : Array Value) : (callFunc 3 vs).run Tryz.prog w = .ok (.enter 3 vs) w := by kernel_rfl
theorem bsB5 (w : World) : (Instr.buildSlice 32 5 #[(0, .int .u8 1), (1, .int .u8 1), (2, .int .u8 1), (3, .int .u8 0), (4, .int .u8 0)]).run Tryz.prog w = .ok (.slice (some ⟨w.heap.size, 0, none⟩) 5 5) (w.alloc (.cells #[.int .u8 1, .int .u8 1, .int .u8 1, .int .u8 0, .int .u8 0] 5)) := by kernel_rfl
theorem row_l0 (w : World) : RowAt (w.alloc (.cells #[.int .u8 1, .int .u8 1, .int .u8 1, .int .u8 0, .int .u8 0] 5)) (.slice (some ⟨w.heap.size, 0, none⟩) 5 5) [1, 1, 1, 0, 0] := by
  have h := Blk.new w 5 #[.int .u8 1, .int .u8 1, .int .u8 1, .int .u8 0, .int .u8 0]
  refine .inr (.inr ⟨w.heap.size, 0, 5, rfl, Nat.le_refl _, fun i hi => ?_⟩)
  rw [Nat.zero_add]
  match i, hi with
  | 0, _ => exact h.c 0 rfl
  | 1, _ => exact h.c 1 rfl
  | 2, _ => exact h.c 2 rfl
  | 3, _ => exact h.c 3 rfl
  | 4, _ => exact h.c 4 rfl
set_option maxRecDepth 8000 in
set_option maxHeartbeats 2000000 in
theorem fixed_any (w : World) : Calls Tryz.prog 4 #[] w fun e w' => e = .returned (.bool true) ∧ Below w.heap.size w w' := by
  go_enter Tryz.func4, Tryz.ntmps4
  refine wp_seq_k fun K1 hK1 => ?_
  refine wp_region_list (WL.out ?_)
  refine WL.val (by kernel_rfl) (.bool false) (by go_simp) ?_
  simp only [Act.put, List.setIfInBounds_toArray, List.set_cons_zero, List.set_cons_succ]
  refine WL.nil ?_
  refine hK1 _ _ ?_
  refine wp_seq_k fun K2 hK2 => ?_
  refine wp_region_list (WL.out ?_)
  refine WL.callF (by kernel_rfl) 5 _ _ rfl Tryz.in5 #[.nilIface] (by simp [Act.eval]) ?_
  refine (new_shelf w).mono ?_
  rintro e w1 ⟨s, d, mb, g, Av, rfl, k1, k2, k3, k4, k5, k6, k7, k8, k9⟩
  refine ⟨_, rfl, ?_⟩
  have HS1 := Keep.mk k1
  have HM1 := Keep.mk k2
  have Hg := Keep.mk (And.intro k3 (And.intro k4 (And.intro k5 (And.intro k6 k7))))
  have HF := Keep.mk k8
  have B1 := Keep.mk k9
  clear k1 k2 k3 k4 k5 k6 k7 k8 k9
  simp only [Act.put, List.setIfInBounds_toArray, List.set_cons_zero, List.set_cons_succ]
  refine WL.val (by kernel_rfl) (.pointer (some ⟨s, 0, none⟩)) (by go_simp) ?_
  simp only [Act.put, List.setIfInBounds_toArray, List.set_cons_zero, List.set_cons_succ]
  refine WL.nil ?_
  refine hK2 _ _ ?_
  refine wp_seq_k fun K3 hK3 => ?_
  refine wp_seq_k fun K4 hK4 => ?_
  refine wp_region_list (WL.out ?_)
  refine WL.val (by kernel_rfl) (.pointer (some ⟨s, 0, none⟩)) (by go_simp) ?_
  simp only [Act.put, List.setIfInBounds_toArray, List.set_cons_zero, List.set_cons_succ]
  refine WL.val (by kernel_rfl) (.bool false) (by go_simp) ?_
  simp only [Act.put, List.setIfInBounds_toArray, List.set_cons_zero, List.set_cons_succ]
  refine WL.nil ?_
  refine hK4 _ _ ?_
  refine wp_cond_false rfl ?_
  refine wp_skip ?_
  refine hK3 _ _ ?_
  refine wp_seq_k fun K5 hK5 => ?_
  refine wp_region_list (WL.out ?_)
  refine WL.val (by kernel_rfl) (.pointer (some ⟨s, 0, none⟩)) (by go_simp) ?_
  simp only [Act.put, List.setIfInBounds_toArray, List.set_cons_zero, List.set_cons_succ]
  refine WL.bs (by kernel_rfl) 32 5 _ rfl #[(0, .int .u8 1), (1, .int .u8 1), (2, .int .u8 1), (3, .int .u8 0), (4, .int .u8 0)] (by simp [Act.eval]) _ _ (bsB5 w1) ?_
  have HR2 : Keep (RowAt (w1.alloc (.cells #[.int .u8 1, .int .u8 1, .int .u8 1, .int .u8 0, .int .u8 0] 5)) (.slice (some ⟨w1.heap.size, 0, none⟩) 5 5) [1, 1, 1, 0, 0]) := ⟨row_l0 w1⟩
  have b_ := below_new w1 (.cells #[.int .u8 1, .int .u8 1, .int .u8 1, .int .u8 0, .int .u8 0] 5)
  have HS2 := Keep.mk (HS1.out.below b_)
  have HM2 : Keep ((w1.alloc (.cells #[.int .u8 1, .int .u8 1, .int .u8 1, .int .u8 0, .int .u8 0] 5)).heap[mb]? = some (.map #[] 0)) := ⟨by rw [b_.block mb (Array.getElem?_eq_some_iff.1 HM1.out).1]; exact HM1.out⟩
  have B2 := Keep.mk (B1.out.trans (b_.mono B1.out.size))
  clear HS1 HM1 B1 b_
  generalize w1.alloc (.cells #[.int .u8 1, .int .u8 1, .int .u8 1, .int .u8 0, .int .u8 0] 5) = w2 at *
  generalize w1.heap.size = ga at *
  simp only [Act.put, List.setIfInBounds_toArray, List.set_cons_zero, List.set_cons_succ]
  refine WL.callF (by kernel_rfl) 6 _ _ rfl Tryz.in6 #[.pointer (some ⟨s, 0, none⟩), .slice (some ⟨ga, 0, none⟩) 5 5] (by simp [Act.eval]) ?_
  refine (take_took s d mb g Av w2 HS2 ⟨ga, 0, none⟩ 5 HR2 HM2 Hg).mono ?_
  rintro e w3 ⟨gx, rfl, g', Av', k1, k2, _, _, k3, ⟨B, k4⟩, k5⟩
  refine ⟨_, rfl, ?_⟩
  have HS3 := Keep.mk k1
  have HH3 := Keep.mk k2
  have HO3 := Keep.mk k3
  have HM3 := Keep.mk k4
  have B3 : Keep (Below w.heap.size w w3) := ⟨B2.out.trans (k5.to_below (fun k hk e => by have := HF.out k (.inr e); omega) B2.out.size)⟩
  clear k1 k2 k3 k4 k5 HS2 HM2 Hg B2 HR2 HF
  simp only [Act.put, List.setIfInBounds_toArray, List.set_cons_zero, List.set_cons_succ]
  refine WL.nil ?_
  refine hK5 _ _ ?_
  refine wp_seq_k fun K6 hK6 => ?_
  refine wp_region_list (WL.out ?_)
  refine WL.val (by kernel_rfl) (.pointer (some ⟨s, 0, none⟩)) (by go_simp) ?_
  simp only [Act.put, List.setIfInBounds_toArray, List.set_cons_zero, List.set_cons_succ]
  refine WL.callF (by kernel_rfl) 7 _ _ rfl Tryz.in7 #[.pointer (some ⟨s, 0, none⟩)] (by simp [Act.eval]) ?_
  refine (pack_1 s d mb g' Av' w3 HS3 x0 HH3 HO3 B HM3).mono ?_
  rintro e w4 ⟨q, rfl, _, k1, hb⟩
  refine ⟨_, rfl, ?_⟩
  rw [arkL_len] at k1 ⊢
  have HR4 := Keep.mk k1
  have B4 : Keep (Below w.heap.size w w4) := ⟨B3.out.trans (hb.mono B3.out.size)⟩
  clear k1 hb B3 HS3
  simp only [Act.put, List.setIfInBounds_toArray, List.set_cons_zero, List.set_cons_succ]
  refine WL.val (by kernel_rfl) (.slice (some ⟨q, 0, none⟩) 47 47) (by go_simp) ?_
  simp only [Act.put, List.setIfInBounds_toArray, List.set_cons_zero, List.set_cons_succ]
  refine WL.nil ?_
  refine hK6 _ _ ?_
  refine wp_seq_k fun K7 hK7 => ?_
  refine wp_region_list (WL.out ?_)
  refine WL.val (by kernel_rfl) (.slice (some ⟨q, 0, none⟩) 47 47) (by go_simp) ?_
  simp only [Act.put, List.setIfInBounds_toArray, List.set_cons_zero, List.set_cons_succ]
  refine WL.callF (by kernel_rfl) 8 _ _ rfl Tryz.in8 #[.slice (some ⟨q, 0, none⟩) 47 47] (by simp [Act.eval]) ?_
  refine (unpack_is q w4 HR4).mono ?_
  rintro e w5 ⟨gl, cl, gr, cr, rfl, k1, k2, hb⟩
  refine ⟨_, rfl, ?_⟩
  have c0 := k1
  have HO5 := Keep.mk k2
  have HR5 := Keep.mk (HR4.out.below hb)
  have B5 : Keep (Below w.heap.size w w5) := ⟨B4.out.trans (hb.mono B4.out.size)⟩
  clear k1 k2 hb HR4 B4
  simp only [Act.put, List.setIfInBounds_toArray, List.set_cons_zero, List.set_cons_succ]
  refine WL.val (by kernel_rfl) (.tuple #[.slice (some ⟨gl, 0, none⟩) 1 cl, .nilIface]) (by go_simp) ?_
  simp only [Act.put, List.setIfInBounds_toArray, List.set_cons_zero, List.set_cons_succ]
  refine WL.val (by kernel_rfl) (.slice (some ⟨gl, 0, none⟩) 1 cl) (by go_simp) ?_
  simp only [Act.put, List.setIfInBounds_toArray, List.set_cons_zero, List.set_cons_succ]
  refine WL.val (by kernel_rfl) (.nilIface) (by go_simp) ?_
  simp only [Act.put, List.setIfInBounds_toArray, List.set_cons_zero, List.set_cons_succ]
  refine WL.val (by kernel_rfl) (.slice (some ⟨gl, 0, none⟩) 1 cl) (by go_simp) ?_
  simp only [Act.put, List.setIfInBounds_toArray, List.set_cons_zero, List.set_cons_succ]
  refine WL.val (by kernel_rfl) (.nilIface) (by go_simp) ?_
  simp only [Act.put, List.setIfInBounds_toArray, List.set_cons_zero, List.set_cons_succ]
  refine WL.nil ?_
  refine hK7 _ _ ?_
  refine wp_seq_k fun K8 hK8 => ?_
  refine wp_region_list (WL.out ?_)
  refine WL.val (by kernel_rfl) (.nilIface) (by go_simp) ?_
  simp only [Act.put, List.setIfInBounds_toArray, List.set_cons_zero, List.set_cons_succ]
  refine WL.val (by kernel_rfl) (.bool true) (by go_simp) ?_
  simp only [Act.put, List.setIfInBounds_toArray, List.set_cons_zero, List.set_cons_succ]
  refine WL.val (by kernel_rfl) (.bool true) (by go_simp) ?_
  simp only [Act.put, List.setIfInBounds_toArray, List.set_cons_zero, List.set_cons_succ]
  refine WL.val (by kernel_rfl) (.slice (some ⟨gl, 0, none⟩) 1 cl) (by go_simp) ?_
  simp only [Act.put, List.setIfInBounds_toArray, List.set_cons_zero, List.set_cons_succ]
  refine WL.val (by kernel_rfl) (.int .i64 1) (by go_simp) ?_
  simp only [Act.put, List.setIfInBounds_toArray, List.set_cons_zero, List.set_cons_succ]
  refine WL.val (by kernel_rfl) (.bool true) (by go_simp) ?_
  simp only [Act.put, List.setIfInBounds_toArray, List.set_cons_zero, List.set_cons_succ]
  refine WL.val (by kernel_rfl) (.bool true) (by go_simp) ?_
  simp only [Act.put, List.setIfInBounds_toArray, List.set_cons_zero, List.set_cons_succ]
  refine WL.val (by kernel_rfl) (.bool true) (by go_simp) ?_
  simp only [Act.put, List.setIfInBounds_toArray, List.set_cons_zero, List.set_cons_succ]
  refine WL.val (by kernel_rfl) (.slice (some ⟨gl, 0, none⟩) 1 cl) (by go_simp) ?_
  simp only [Act.put, List.setIfInBounds_toArray, List.set_cons_zero, List.set_cons_succ]
  refine WL.val (by kernel_rfl) (.pointer (some ⟨gl, 0, none⟩)) (by go_simp) ?_
  simp only [Act.put, List.setIfInBounds_toArray, List.set_cons_zero, List.set_cons_succ]
  refine WL.val (by kernel_rfl) (.slice (some ⟨gr, 0, none⟩) 5 cr) (by go_simp) ?_
  simp only [Act.put, List.setIfInBounds_toArray, List.set_cons_zero, List.set_cons_succ]
  have hcv := Nd.conv_row _ [1, 1, 1, 0, 0] w5 HO5.out.row
  refine WL.val (by kernel_rfl) (.string (strOfNums [1, 1, 1, 0, 0])) (by go_simp) ?_
  clear hcv
  simp only [Act.put, List.setIfInBounds_toArray, List.set_cons_zero, List.set_cons_succ]
  refine WL.val (by kernel_rfl) (.bool true) (by kernel_rfl) ?_
  simp only [Act.put, List.setIfInBounds_toArray, List.set_cons_zero, List.set_cons_succ]
  refine WL.val (by kernel_rfl) (.bool true) (by go_simp) ?_
  simp only [Act.put, List.setIfInBounds_toArray, List.set_cons_zero, List.set_cons_succ]
  refine WL.val (by kernel_rfl) (.bool true) (by go_simp) ?_
  simp only [Act.put, List.setIfInBounds_toArray, List.set_cons_zero, List.set_cons_succ]
  refine WL.val (by kernel_rfl) (.slice (some ⟨q, 0, none⟩) 47 47) (by go_simp) ?_
  simp only [Act.put, List.setIfInBounds_toArray, List.set_cons_zero, List.set_cons_succ]
  refine WL.val (by kernel_rfl) (.int .i64 47) (by go_simp) ?_
  simp only [Act.put, List.setIfInBounds_toArray, List.set_cons_zero, List.set_cons_succ]
  refine WL.val (by kernel_rfl) (.bool true) (by go_simp) ?_
  simp only [Act.put, List.setIfInBounds_toArray, List.set_cons_zero, List.set_cons_succ]
  refine WL.val (by kernel_rfl) (.bool true) (by go_simp) ?_
  simp only [Act.put, List.setIfInBounds_toArray, List.set_cons_zero, List.set_cons_succ]
  refine WL.val (by kernel_rfl) (.bool true) (by go_simp) ?_
  simp only [Act.put, List.setIfInBounds_toArray, List.set_cons_zero, List.set_cons_succ]
  refine WL.val (by kernel_rfl) (.slice (some ⟨q, 0, none⟩) 47 47) (by go_simp) ?_
  simp only [Act.put, List.setIfInBounds_toArray, List.set_cons_zero, List.set_cons_succ]
  refine WL.val (by kernel_rfl) (.slice (some ⟨q, 0, none⟩) 15 47) (by go_simp) ?_
  simp only [Act.put, List.setIfInBounds_toArray, List.set_cons_zero, List.set_cons_succ]
  have hcv := Nd.conv_row _ A15 w5 (row_pre HR5.out)
  refine WL.val (by kernel_rfl) (.string (strOfNums A15)) (by go_simp) ?_
  clear hcv
  simp only [Act.put, List.setIfInBounds_toArray, List.set_cons_zero, List.set_cons_succ]
  refine WL.val (by kernel_rfl) (.bool true) (by kernel_rfl) ?_
  simp only [Act.put, List.setIfInBounds_toArray, List.set_cons_zero, List.set_cons_succ]
  refine WL.val (by kernel_rfl) (.bool true) (by go_simp) ?_
  simp only [Act.put, List.setIfInBounds_toArray, List.set_cons_zero, List.set_cons_succ]
  refine WL.val (by kernel_rfl) (.bool true) (by go_simp) ?_
  simp only [Act.put, List.setIfInBounds_toArray, List.set_cons_zero, List.set_cons_succ]
  refine WL.nil ?_
  refine hK8 _ _ ?_
  refine wp_ret ?_
  go_ret
  exact ⟨rfl, B5.out⟩
set_option maxRecDepth 8000 in
theorem names_any (w : World) : Calls Tryz.prog 3 #[] w fun e w' => e = .returned (.bool true) ∧ Below w.heap.size w w' := by
  go_enter Tryz.func3, Tryz.ntmps3
  refine wp_seq_k fun K1 hK1 => ?_
  refine wp_region_list (WL.out ?_)
  refine WL.val (by kernel_rfl) (.bool false) (by go_simp) ?_
  simp only [Act.put, List.setIfInBounds_toArray, List.set_cons_zero, List.set_cons_succ]
  refine WL.nil ?_
  refine hK1 _ _ ?_
  refine wp_seq_k fun K2 hK2 => ?_
  refine wp_region_list (WL.out ?_)
  refine WL.val (by kernel_rfl) (.bool true) (by go_simp) ?_
  simp only [Act.put, List.setIfInBounds_toArray, List.set_cons_zero, List.set_cons_succ]
  refine WL.callF (by kernel_rfl) 4 _ _ rfl Tryz.in4 #[] (by simp) ?_
  refine (fixed_any w).mono ?_
  rintro e w1 ⟨rfl, hb⟩
  refine ⟨_, rfl, ?_⟩
  simp only [Act.put, List.setIfInBounds_toArray, List.set_cons_zero, List.set_cons_succ]
  refine WL.val (by kernel_rfl) (.bool true) (by go_simp) ?_
  simp only [Act.put, List.setIfInBounds_toArray, List.set_cons_zero, List.set_cons_succ]
  refine WL.val (by kernel_rfl) (.bool true) (by go_simp) ?_
  simp only [Act.put, List.setIfInBounds_toArray, List.set_cons_zero, List.set_cons_succ]
  refine WL.nil ?_
  refine hK2 _ _ ?_
  refine wp_ret ?_
  go_ret
  exact ⟨rfl, hb⟩

end Go.Proofs.YtdkhjeofjhcceaaGreatDoor
