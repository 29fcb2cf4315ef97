import Derived.Test.YtdkhjeofjhcceaaGreatDoorB08
import Derived.Test.YtdkhjeofjhcceaaGreatDoorB03
import Derived.Test.YtdkhjeofjhcceaaGreatDoorB05
import Derived.Test.YtdkhjeofjhcceaaGreatDoorB04
import Derived.Lib.SlBytesConst
import Derived.Laws.IdiomStrings
namespace Go.Proofs.YtdkhjeofjhcceaaGreatDoor
open Go.RowKit
set_option linter.unusedSimpArgs false
set_option linter.unusedVariables false
theorem Tryz.in14 (w : World) (vs : Array Value) : (callFunc 14 vs).run Tryz.prog w = .ok (.enter 14 vs) w := by kernel_rfl
theorem Tryz.new27 (w : World) : (Instr.alloc 27 true (.tuple #[])).run Tryz.prog w = .ok (.pointer (some ⟨w.heap.size, 0, none⟩)) (w.alloc (.cells #[.int .i64 0, .slice none 0 0, .slice none 0 0] 27)) := by kernel_rfl
theorem bsH25 (c : Nat → Int) (w : World) : (Instr.buildSlice 25 1 #[(0, .agg (bytesA 32 c))]).run Tryz.prog w = .ok (.slice (some ⟨w.heap.size, 0, none⟩) 1 1) (w.alloc (.cells (bytesA 32 c) 50)) := by kernel_rfl
theorem app0 (g : Nat) (w : World) : (Builtin.append_ #[25, 25] 25 #[.slice (some ⟨g, 0, none⟩) 1 1, .slice none 0 0]).run Tryz.prog w = .ok (.slice (some ⟨g, 0, none⟩) 1 1) w := by kernel_rfl
theorem fit_vv (d : Nat) (x : Hs) (bp : Nat) (vv : Array Value) (hvv : vv = vtx x.f 1 (.slice (some ⟨bp, 0, none⟩) 0 0)) (g : DG) (Av : Nat → Prop) (w : World) (hD : DagAt w Av d g) (a b : Int) (hf : fitV g.held g.wait ⟨x, 1, []⟩ = (a, b)) (hh : g.held = [] ∨ g.held = [⟨x, 1, []⟩]) :
    Calls Tryz.prog 31 #[ptr d, .agg vv] w fun e w' => e = .returned (.tuple #[.int .i64 a, .int .i64 b]) ∧ Below w.heap.size w w' := by
  subst hvv
  refine (fit_any d (⟨x, 1, []⟩ : VX) (.slice (some ⟨bp, 0, none⟩) 0 0) Av g w hD (hrow0 w bp) (fun v hv => ?_) (by simp)).mono ?_
  · rcases hh with h | h <;> rw [h] at hv <;> simp at hv
    subst hv
    show (0 : Int) ≤ 1 ∧ (1 : Int) ≤ 4096
    decide
  · rintro e w' ⟨h1, h2⟩
    rw [hf] at h1
    exact ⟨h1, h2⟩
set_option maxRecDepth 8000 in
set_option maxHeartbeats 1000000 in
theorem place_known (s d mb : Nat) (g : DG) (Av : Nat → Prop) (w : World) (HS : Keep (ShAt w s d mb g Av)) (x : Hs) (bp : Nat) (vv : Array Value) (hvv : Keep (vv = vtx x.f 1 (.slice (some ⟨bp, 0, none⟩) 0 0))) (ad : Addr) (n c : Nat) (Hf : Keep (fitV g.held g.wait ⟨x, 1, []⟩ = (1, 0))) (Hh : Keep (g.held = [] ∨ g.held = [⟨x, 1, []⟩])) : Calls Tryz.prog 14 #[.pointer (some ⟨s, 0, none⟩), .agg vv, .slice (some ad) n c] w fun e w' => e = .returned (.agg #[.int .i64 1, .slice none 0 0, .slice none 0 0]) ∧ Below w.heap.size w w' := by
  go_enter Tryz.func14, Tryz.ntmps14
  refine wp_seq_k fun K1 hK1 => ?_
  refine wp_region_list (WL.out ?_)
  refine WL.box (by kernel_rfl) 61 (.tmp 1) rfl vv rfl ?_
  have H4 := Keep.mk (Blk.new w 61 vv)
  have b_b4 := Keep.mk (below_new w (.cells vv 61))
  change WL _ _ _ _ _ (w.alloc (.cells vv 61))
  generalize w.alloc (.cells vv 61) = w1 at *
  obtain ⟨b4, hb4⟩ : ∃ z, Keep (z = w.heap.size) := ⟨_, ⟨rfl⟩⟩
  rw [← hb4.out] at H4 ⊢
  simp only [Act.put, List.setIfInBounds_toArray, List.set_cons_zero, List.set_cons_succ]
  refine WL.new (by kernel_rfl) 27 rfl _ Tryz.new27 ?_
  have H6 := Keep.mk (Blk.new w1 27 #[.int .i64 0, .slice none 0 0, .slice none 0 0])
  have b_b6 := Keep.mk (below_new w1 (.cells #[.int .i64 0, .slice none 0 0, .slice none 0 0] 27))
  generalize w1.alloc (.cells #[.int .i64 0, .slice none 0 0, .slice none 0 0] 27) = w2 at *
  obtain ⟨b6, hb6⟩ : ∃ z, Keep (z = w1.heap.size) := ⟨_, ⟨rfl⟩⟩
  rw [← hb6.out] at H6 ⊢
  have H42 := Keep.mk (H4.out.below b_b6.out H4.out.lt)
  have B2 : Keep (Below w.heap.size w w2) := ⟨b_b4.out.trans (b_b6.out.mono b_b4.out.size)⟩
  have HS2 := Keep.mk (HS.out.below B2.out)
  have LT : Keep (w.heap.size ≤ b4 ∧ b4 < b6 ∧ s < w.heap.size ∧ mb < w.heap.size ∧ ∀ k, DgS d g k → k < w.heap.size) := ⟨by
    obtain ⟨es, ck, hm⟩ := HS.out.mp
    have h1 := hb4.out
    have h2 := hb6.out
    have h3 := H4.out.lt
    exact ⟨by omega, by omega, HS.out.bl.lt, (Array.getElem?_eq_some_iff.1 hm).1, fun k e => HS.out.dg.lt k (HS.out.dg.av k e)⟩⟩
  clear H4 b_b4 b_b6
  simp only [Act.put, List.setIfInBounds_toArray, List.set_cons_zero, List.set_cons_succ]
  refine WL.nil ?_
  refine hK1 _ _ ?_
  refine wp_seq_k fun K2 hK2 => ?_
  refine wp_region_held_drew (S := fun wx => wx.cell? ⟨s, 1, none⟩ = some (.pointer (some ⟨d, 0, none⟩)) ∧ Blk wx b4 61 vv) (by kernel_rfl) (⟨HS2.out.bl.drew.c 1 rfl, H42.out.drew⟩) (fun hHeld => ?_)
  have bd := (Below.refl w2.heap.size w2).drew
  have HS3 := Keep.mk (HS2.out.below bd)
  have H43 := Keep.mk H42.out.drew
  have H63 := Keep.mk H6.out.drew
  have B3 : Keep (Below w.heap.size w w2.drew) := ⟨B2.out.drew⟩
  clear HS2 H42 H6 bd B2
  generalize w2.drew = w3 at *
  refine wpAnyH_take (i := 0) (oi := ⟨some 12, Op.move (Operand.tmp 0), 23, _, _, none⟩) (v := .pointer (some ⟨s, 0, none⟩)) rfl (by kernel_rfl) (by kernel_rfl) (by kernel_rfl) (fun _ _ _ h => h) (Or.inl ⟨by rfl, fun w hS => by have cS := hS.1; go_simp⟩) hHeld ?_
  simp only [Act.put, List.setIfInBounds_toArray, List.set_cons_zero, List.set_cons_succ]
  refine wpAnyH_take (i := 1) (oi := ⟨some 13, Op.nilCheck (Operand.tmp 12), 0, _, _, none⟩) (v := .pointer (some ⟨s, 0, none⟩)) rfl (by kernel_rfl) (by kernel_rfl) (by kernel_rfl) (fun _ _ _ h => h) (Or.inl ⟨by rfl, fun w hS => by have cS := hS.1; go_simp⟩) hHeld ?_
  simp only [Act.put, List.setIfInBounds_toArray, List.set_cons_zero, List.set_cons_succ]
  refine wpAnyH_take (i := 2) (oi := ⟨some 14, Op.fieldAddr 47 (Operand.tmp 13) 1, 0, _, _, none⟩) (v := .pointer (some ⟨s, 1, none⟩)) rfl (by kernel_rfl) (by kernel_rfl) (by kernel_rfl) (fun _ _ _ h => h) (Or.inl ⟨by rfl, fun w hS => by have cS := hS.1; go_simp⟩) hHeld ?_
  simp only [Act.put, List.setIfInBounds_toArray, List.set_cons_zero, List.set_cons_succ]
  refine wpAnyH_take (i := 3) (oi := ⟨some 15, Op.load 41 (Operand.tmp 14), 41, _, _, none⟩) (v := .pointer (some ⟨d, 0, none⟩)) rfl (by kernel_rfl) (by kernel_rfl) (by kernel_rfl) (fun _ _ _ h => h) (Or.inl ⟨by rfl, fun w hS => by have cS := hS.1; go_simp⟩) hHeld ?_
  simp only [Act.put, List.setIfInBounds_toArray, List.set_cons_zero, List.set_cons_succ]
  refine wpAnyH_take (i := 4) (oi := ⟨some 16, Op.load 61 (Operand.tmp 4), 61, _, _, none⟩) (v := .agg vv) rfl (by kernel_rfl) (by kernel_rfl) (by kernel_rfl) (fun _ _ _ h => h) (yieldsIf_ld (by rfl) (Operand.tmp 4) 61 rfl b4 0 rfl vv _ Tryz.underlying61 rfl (by rw [hvv.out]; exact sizeV62 _ _ _) fun w hS => blk_range hS.2) hHeld ?_
  simp only [Act.put, List.setIfInBounds_toArray, List.set_cons_zero, List.set_cons_succ]
  refine wpAnyH_ready (rs := [5]) (by kernel_rfl) (by simp) ?_
  refine AllReadyH.cons (o := ⟨some 17, Op.call { callee := Callee.value (Operand.func 31), args := #[Operand.tmp 15, Operand.tmp 16], argTypes := #[41, 61] }, 89, _, _, none⟩) rfl (fun K hK => ?_) AllReadyH.nil
  rw [if_pos (by rfl)]
  refine wp_callF 31 _ _ rfl Tryz.in31 #[ptr d, .agg vv] (by simp [Act.eval]) (fun vz wz => vz = .tuple #[.int .i64 1, .int .i64 0] ∧ Below w3.heap.size w3 wz) ?_ ?_
  · refine (fit_vv d x bp vv hvv.out g Av w3 HS3.out.dg _ _ Hf.out Hh.out).mono ?_
    rintro e wz ⟨rfl, k1⟩
    exact ⟨_, rfl, rfl, k1⟩
  rintro vz w4 ⟨rfl, k1⟩
  have B4 : Keep (Below w.heap.size w w4) := ⟨B3.out.trans (k1.mono B3.out.size)⟩
  have HS4 := Keep.mk (HS3.out.below k1)
  have H44 := Keep.mk (H43.out.below k1 H43.out.lt)
  have H64 := Keep.mk (H63.out.below k1 H63.out.lt)
  clear k1
  refine hK _ _ (⟨HS4.out.bl.c 1 rfl, H44.out⟩) fun hHa => ?_
  clear hK
  simp only [Act.put, List.setIfInBounds_toArray, List.set_cons_zero, List.set_cons_succ]
  refine wpAnyH_take (i := 6) (oi := ⟨some 11, Op.move (Operand.tmp 17), 89, _, _, none⟩) (v := .tuple #[.int .i64 1, .int .i64 0]) rfl (by kernel_rfl) (by kernel_rfl) (by kernel_rfl) (fun _ _ _ h => h) (Or.inl ⟨by rfl, fun w hS => by have cS := hS.1; go_simp⟩) hHa ?_
  simp only [Act.put, List.setIfInBounds_toArray, List.set_cons_zero, List.set_cons_succ]
  refine wpAnyH_take (i := 7) (oi := ⟨some 18, Op.extract (Operand.tmp 11) 0, 3, _, _, none⟩) (v := .int .i64 1) rfl (by kernel_rfl) (by kernel_rfl) (by kernel_rfl) (fun _ _ _ h => h) (Or.inl ⟨by rfl, fun w hS => by have cS := hS.1; go_simp⟩) hHa ?_
  simp only [Act.put, List.setIfInBounds_toArray, List.set_cons_zero, List.set_cons_succ]
  refine wpAnyH_take (i := 8) (oi := ⟨some 19, Op.extract (Operand.tmp 11) 1, 42, _, _, none⟩) (v := .int .i64 0) rfl (by kernel_rfl) (by kernel_rfl) (by kernel_rfl) (fun _ _ _ h => h) (Or.inl ⟨by rfl, fun w hS => by have cS := hS.1; go_simp⟩) hHa ?_
  simp only [Act.put, List.setIfInBounds_toArray, List.set_cons_zero, List.set_cons_succ]
  refine wpAnyH_take (i := 9) (oi := ⟨some 7, Op.assign (Operand.tmp 18), 3, _, _, none⟩) (v := .int .i64 1) rfl (by kernel_rfl) (by kernel_rfl) (by kernel_rfl) (fun _ _ _ h => h) (Or.inl ⟨by rfl, fun w hS => by have cS := hS.1; go_simp⟩) hHa ?_
  simp only [Act.put, List.setIfInBounds_toArray, List.set_cons_zero, List.set_cons_succ]
  refine wpAnyH_take (i := 10) (oi := ⟨some 8, Op.assign (Operand.tmp 19), 42, _, _, none⟩) (v := .int .i64 0) rfl (by kernel_rfl) (by kernel_rfl) (by kernel_rfl) (fun _ _ _ h => h) (Or.inl ⟨by rfl, fun w hS => by have cS := hS.1; go_simp⟩) hHa ?_
  simp only [Act.put, List.setIfInBounds_toArray, List.set_cons_zero, List.set_cons_succ]
  refine wpAnyH_done (by kernel_rfl) ?_ _
  refine hK2 _ _ ?_
  refine wp_seq_k fun K3 hK3 => ?_
  refine wp_seq_k fun K4 hK4 => ?_
  refine wp_region_list (WL.out ?_)
  refine WL.val (by kernel_rfl) (.int .i64 1) (by go_simp) ?_
  simp only [Act.put, List.setIfInBounds_toArray, List.set_cons_zero, List.set_cons_succ]
  refine WL.val (by kernel_rfl) (.bool false) (by go_simp) ?_
  simp only [Act.put, List.setIfInBounds_toArray, List.set_cons_zero, List.set_cons_succ]
  refine WL.nil ?_
  refine hK4 _ _ ?_
  refine wp_cond_false rfl ?_
  refine wp_skip ?_
  refine hK3 _ _ ?_
  refine wp_seq_k fun K5 hK5 => ?_
  refine wp_seq_k fun K6 hK6 => ?_
  refine wp_region_list (WL.out ?_)
  refine WL.val (by kernel_rfl) (.int .i64 0) (by go_simp) ?_
  simp only [Act.put, List.setIfInBounds_toArray, List.set_cons_zero, List.set_cons_succ]
  refine WL.val (by kernel_rfl) (.bool false) (by go_simp) ?_
  simp only [Act.put, List.setIfInBounds_toArray, List.set_cons_zero, List.set_cons_succ]
  refine WL.nil ?_
  refine hK6 _ _ ?_
  refine wp_cond_false rfl ?_
  refine wp_skip ?_
  refine hK5 _ _ ?_
  refine wp_seq_k fun K7 hK7 => ?_
  refine wp_seq_k fun K8 hK8 => ?_
  refine wp_region_list (WL.out ?_)
  refine WL.val (by kernel_rfl) (.int .i64 1) (by go_simp) ?_
  simp only [Act.put, List.setIfInBounds_toArray, List.set_cons_zero, List.set_cons_succ]
  refine WL.nil ?_
  refine hK8 _ _ ?_
  refine wp_block ?_
  refine wp_seq_k fun K9 hK9 => ?_
  refine wp_region_list (WL.out ?_)
  refine WL.val (by kernel_rfl) (.bool false) (by go_simp) ?_
  simp only [Act.put, List.setIfInBounds_toArray, List.set_cons_zero, List.set_cons_succ]
  refine WL.val (by kernel_rfl) (.bool false) (by go_simp) ?_
  simp only [Act.put, List.setIfInBounds_toArray, List.set_cons_zero, List.set_cons_succ]
  refine WL.nil ?_
  refine hK9 _ _ ?_
  refine wp_cond_false rfl ?_
  refine wp_seq_k fun K10 hK10 => ?_
  refine wp_region_list (WL.out ?_)
  refine WL.val (by kernel_rfl) (.bool false) (by go_simp) ?_
  simp only [Act.put, List.setIfInBounds_toArray, List.set_cons_zero, List.set_cons_succ]
  refine WL.val (by kernel_rfl) (.bool false) (by go_simp) ?_
  simp only [Act.put, List.setIfInBounds_toArray, List.set_cons_zero, List.set_cons_succ]
  refine WL.nil ?_
  refine hK10 _ _ ?_
  refine wp_cond_false rfl ?_
  refine wp_skip ?_
  refine hK7 _ _ ?_
  refine wp_seq_k fun K11 hK11 => ?_
  refine wp_region_list (WL.out ?_)
  refine WL.val (by kernel_rfl) (.int .i64 1) (by go_simp) ?_
  simp only [Act.put, List.setIfInBounds_toArray, List.set_cons_zero, List.set_cons_succ]
  refine WL.bld (by kernel_rfl) 27 _ rfl [(0, .int .i64 1)] (by simp [Act.eval]) #[.int .i64 1, .slice none 0 0, .slice none 0 0] (by kernel_rfl) ?_
  simp only [Act.put, List.setIfInBounds_toArray, List.set_cons_zero, List.set_cons_succ]
  refine WL.storeR (by kernel_rfl) 27 (.tmp 6) (.tmp 59) rfl b6 #[.int .i64 1, .slice none 0 0, .slice none 0 0] rfl rfl 27 #[.int .i64 0, .slice none 0 0, .slice none 0 0] H64.out (by kernel_rfl) rfl (by simp [Value.oneCell']) ?_
  have H65 := Keep.mk (H64.out.setRow #[.int .i64 1, .slice none 0 0, .slice none 0 0])
  have g_w5 : Keep (Grown w4 (w4.setRow b6 #[.int .i64 1, .slice none 0 0, .slice none 0 0]) fun k => k = b6) := ⟨Grown.setRow w4 b6 _ fun _ => rfl⟩
  clear H64
  generalize w4.setRow b6 #[.int .i64 1, .slice none 0 0, .slice none 0 0] = w5 at *
  simp only [Act.put]
  refine WL.nil ?_
  refine hK11 _ _ ?_
  refine wp_ret ?_
  try simp only [Exit.inBlock, Exit.then]
  have k1 := LT.out
  exact bodyPost_ret (v := .agg #[.int .i64 1, .slice none 0 0, .slice none 0 0]) (results_cell_row Tryz.results14 _ _ b6 27 _ (0, 0) _ rfl H65.out Tryz.underlying27 rfl (by kernel_rfl)) rfl ⟨rfl, B4.out.trans (g_w5.out.to_below (fun k hk e => by omega) B4.out.size)⟩
theorem hrow_any {w : World} {p : Value} (w' : World) (h : HRow w p []) : HRow w' p [] := by
  rcases h with ⟨a, c, h1, h2, h3⟩ | ⟨b, off, cap, h1, h2, _⟩
  · exact .inl ⟨a, c, h1, h2, h3⟩
  · exact .inr ⟨b, off, cap, h1, h2, fun j v hv => by simp [flatH] at hv⟩
theorem mp_one {w w' : World} {Av S : Nat → Prop} {b : Nat} {x : Hs} (h : MpAt w Av b [⟨x, 1, []⟩]) (hg : Grown w w' S) (hb : ¬ S b) : MpAt w' Av b [⟨x, 1, []⟩] := by
  obtain ⟨es, ck, h1, h2⟩ := h
  refine ⟨es, ck, by rw [hg.block b (Array.getElem?_eq_some_iff.1 h1).1 hb]; exact h1, ?_⟩
  generalize es.toList = l at *
  match l, h2 with
  | [e], ⟨⟨e1, p, e2, e3, e4⟩, _⟩ => exact ⟨⟨e1, p, e2, hrow_any w' e3, fun k hk => ⟨Nat.lt_of_lt_of_le (e4 k hk).1 hg.size, (e4 k hk).2⟩⟩, trivial⟩
theorem mp_none {w w' : World} {Av S : Nat → Prop} {b : Nat} (h : MpAt w Av b []) (hg : Grown w w' S) (hb : ¬ S b) : MpAt w' Av b [] := by
  obtain ⟨es, ck, h1, h2⟩ := h
  refine ⟨es, ck, by rw [hg.block b (Array.getElem?_eq_some_iff.1 h1).1 hb]; exact h1, ?_⟩
  generalize es.toList = l at *
  match l, h2 with
  | [], _ => trivial
theorem ShAt.keep1 {w w' : World} {s d mb : Nat} {g : DG} {Av S : Nat → Prop} {x : Hs} (h : ShAt w s d mb g Av) (e1 : g.held = [⟨x, 1, []⟩]) (e2 : g.wait = []) (hg : Grown w w' S) (hs : ∀ k, S k → k ≠ s ∧ k ≠ mb ∧ ¬ DgS d g k) : ShAt w' s d mb g Av := by
  obtain ⟨es, ck, hm⟩ := h.mp
  have hn : ∀ k, S k → ¬ DgS d g k := fun k e => (hs k e).2.2
  have D := h.dg
  refine ⟨hg.blk h.bl fun e => (hs _ e).1 rfl, ⟨es, ck, by rw [hg.block mb (Array.getElem?_eq_some_iff.1 hm).1 fun e => (hs _ e).2.1 rfl]; exact hm⟩, ⟨hg.blk D.blk fun e => hn _ e (.inl rfl), ?_, ?_, D.oh.grown hg (fun k hk e => hn _ e (.inr (.inr (.inr (.inl hk))))), D.oo.grown hg (fun k hk e => hn _ e (.inr (.inr (.inr (.inr (.inl hk)))))), D.oq.grown hg (fun k hk e => hn _ e (.inr (.inr (.inr (.inr (.inr hk)))))), D.mm, D.ho, D.hq, D.oq', D.av, fun k e => Nat.lt_of_lt_of_le (D.lt k e) hg.size⟩, h.ns, h.av⟩
  · have h0 := D.held
    rw [e1] at h0 ⊢
    exact mp_one h0 hg fun e => hn _ e (.inr (.inl rfl))
  · have h0 := D.wait
    rw [e2] at h0 ⊢
    exact mp_none h0 hg fun e => hn _ e (.inr (.inr (.inl rfl)))
set_option maxRecDepth 8000 in
set_option maxHeartbeats 2000000 in
theorem place_took (s d mb : Nat) (g : DG) (Av : Nat → Prop) (w : World) (HS : Keep (ShAt w s d mb g Av)) (x : Hs) (bp : Nat) (vv : Array Value) (hvv : Keep (vv = vtx x.f 1 (.slice (some ⟨bp, 0, none⟩) 0 0))) (ad : Addr) (n c : Nat) (l : List Int) (HR : Keep (RowAt w (.slice (some ad) n c) l)) (HL : Keep (l.length ≤ 140737488355328)) (HM : Keep (w.heap[mb]? = some (.map #[] 0))) (Hg : Keep (g.held = [] ∧ g.wait = [] ∧ g.heads = [] ∧ g.order = [] ∧ g.queue = [])) (Hf : Keep (fitV g.held g.wait ⟨x, 1, []⟩ = (2, 0))) (Hh : Keep (g.held = [] ∨ g.held = [⟨x, 1, []⟩])) : Calls Tryz.prog 14 #[.pointer (some ⟨s, 0, none⟩), .agg vv, .slice (some ad) n c] w fun e w' => ∃ gx, e = .returned (.agg #[.int .i64 2, .slice (some ⟨gx, 0, none⟩) 1 1, .slice none 0 0]) ∧ ∃ g' Av', ShAt w' s d mb g' Av' ∧ g'.held = [⟨x, 1, []⟩] ∧ g'.wait = [] ∧ g'.queue = [] ∧ (g'.order = [x] ∧ MB w' mb x l w.heap.size) ∧ (∀ k, DgS d g' k → DgS d g k ∨ w.heap.size ≤ k) ∧ Grown w w' fun k => k = mb ∨ DgS d g k := by
  go_enter Tryz.func14, Tryz.ntmps14
  refine wp_seq_k fun K1 hK1 => ?_
  refine wp_region_list (WL.out ?_)
  refine WL.box (by kernel_rfl) 61 (.tmp 1) rfl vv rfl ?_
  have H4 := Keep.mk (Blk.new w 61 vv)
  have b_b4 := Keep.mk (below_new w (.cells vv 61))
  change WL _ _ _ _ _ (w.alloc (.cells vv 61))
  generalize w.alloc (.cells vv 61) = w1 at *
  obtain ⟨b4, hb4⟩ : ∃ z, Keep (z = w.heap.size) := ⟨_, ⟨rfl⟩⟩
  rw [← hb4.out] at H4 ⊢
  simp only [Act.put, List.setIfInBounds_toArray, List.set_cons_zero, List.set_cons_succ]
  refine WL.new (by kernel_rfl) 27 rfl _ Tryz.new27 ?_
  have H6 := Keep.mk (Blk.new w1 27 #[.int .i64 0, .slice none 0 0, .slice none 0 0])
  have b_b6 := Keep.mk (below_new w1 (.cells #[.int .i64 0, .slice none 0 0, .slice none 0 0] 27))
  generalize w1.alloc (.cells #[.int .i64 0, .slice none 0 0, .slice none 0 0] 27) = w2 at *
  obtain ⟨b6, hb6⟩ : ∃ z, Keep (z = w1.heap.size) := ⟨_, ⟨rfl⟩⟩
  rw [← hb6.out] at H6 ⊢
  have H42 := Keep.mk (H4.out.below b_b6.out H4.out.lt)
  have B2 : Keep (Below w.heap.size w w2) := ⟨b_b4.out.trans (b_b6.out.mono b_b4.out.size)⟩
  have HS2 := Keep.mk (HS.out.below B2.out)
  have LT : Keep (w.heap.size ≤ b4 ∧ b4 < b6 ∧ s < w.heap.size ∧ mb < w.heap.size ∧ ∀ k, DgS d g k → k < w.heap.size) := ⟨by
    obtain ⟨es, ck, hm⟩ := HS.out.mp
    have h1 := hb4.out
    have h2 := hb6.out
    have h3 := H4.out.lt
    exact ⟨by omega, by omega, HS.out.bl.lt, (Array.getElem?_eq_some_iff.1 hm).1, fun k e => HS.out.dg.lt k (HS.out.dg.av k e)⟩⟩
  clear H4 b_b4 b_b6
  simp only [Act.put, List.setIfInBounds_toArray, List.set_cons_zero, List.set_cons_succ]
  refine WL.nil ?_
  refine hK1 _ _ ?_
  refine wp_seq_k fun K2 hK2 => ?_
  refine wp_region_held_drew (S := fun wx => wx.cell? ⟨s, 1, none⟩ = some (.pointer (some ⟨d, 0, none⟩)) ∧ Blk wx b4 61 vv) (by kernel_rfl) (⟨HS2.out.bl.drew.c 1 rfl, H42.out.drew⟩) (fun hHeld => ?_)
  have bd := (Below.refl w2.heap.size w2).drew
  have HS3 := Keep.mk (HS2.out.below bd)
  have H43 := Keep.mk H42.out.drew
  have H63 := Keep.mk H6.out.drew
  have B3 : Keep (Below w.heap.size w w2.drew) := ⟨B2.out.drew⟩
  clear HS2 H42 H6 bd B2
  generalize w2.drew = w3 at *
  refine wpAnyH_take (i := 0) (oi := ⟨some 12, Op.move (Operand.tmp 0), 23, _, _, none⟩) (v := .pointer (some ⟨s, 0, none⟩)) rfl (by kernel_rfl) (by kernel_rfl) (by kernel_rfl) (fun _ _ _ h => h) (Or.inl ⟨by rfl, fun w hS => by have cS := hS.1; go_simp⟩) hHeld ?_
  simp only [Act.put, List.setIfInBounds_toArray, List.set_cons_zero, List.set_cons_succ]
  refine wpAnyH_take (i := 1) (oi := ⟨some 13, Op.nilCheck (Operand.tmp 12), 0, _, _, none⟩) (v := .pointer (some ⟨s, 0, none⟩)) rfl (by kernel_rfl) (by kernel_rfl) (by kernel_rfl) (fun _ _ _ h => h) (Or.inl ⟨by rfl, fun w hS => by have cS := hS.1; go_simp⟩) hHeld ?_
  simp only [Act.put, List.setIfInBounds_toArray, List.set_cons_zero, List.set_cons_succ]
  refine wpAnyH_take (i := 2) (oi := ⟨some 14, Op.fieldAddr 47 (Operand.tmp 13) 1, 0, _, _, none⟩) (v := .pointer (some ⟨s, 1, none⟩)) rfl (by kernel_rfl) (by kernel_rfl) (by kernel_rfl) (fun _ _ _ h => h) (Or.inl ⟨by rfl, fun w hS => by have cS := hS.1; go_simp⟩) hHeld ?_
  simp only [Act.put, List.setIfInBounds_toArray, List.set_cons_zero, List.set_cons_succ]
  refine wpAnyH_take (i := 3) (oi := ⟨some 15, Op.load 41 (Operand.tmp 14), 41, _, _, none⟩) (v := .pointer (some ⟨d, 0, none⟩)) rfl (by kernel_rfl) (by kernel_rfl) (by kernel_rfl) (fun _ _ _ h => h) (Or.inl ⟨by rfl, fun w hS => by have cS := hS.1; go_simp⟩) hHeld ?_
  simp only [Act.put, List.setIfInBounds_toArray, List.set_cons_zero, List.set_cons_succ]
  refine wpAnyH_take (i := 4) (oi := ⟨some 16, Op.load 61 (Operand.tmp 4), 61, _, _, none⟩) (v := .agg vv) rfl (by kernel_rfl) (by kernel_rfl) (by kernel_rfl) (fun _ _ _ h => h) (yieldsIf_ld (by rfl) (Operand.tmp 4) 61 rfl b4 0 rfl vv _ Tryz.underlying61 rfl (by rw [hvv.out]; exact sizeV62 _ _ _) fun w hS => blk_range hS.2) hHeld ?_
  simp only [Act.put, List.setIfInBounds_toArray, List.set_cons_zero, List.set_cons_succ]
  refine wpAnyH_ready (rs := [5]) (by kernel_rfl) (by simp) ?_
  refine AllReadyH.cons (o := ⟨some 17, Op.call { callee := Callee.value (Operand.func 31), args := #[Operand.tmp 15, Operand.tmp 16], argTypes := #[41, 61] }, 89, _, _, none⟩) rfl (fun K hK => ?_) AllReadyH.nil
  rw [if_pos (by rfl)]
  refine wp_callF 31 _ _ rfl Tryz.in31 #[ptr d, .agg vv] (by simp [Act.eval]) (fun vz wz => vz = .tuple #[.int .i64 2, .int .i64 0] ∧ Below w3.heap.size w3 wz) ?_ ?_
  · refine (fit_vv d x bp vv hvv.out g Av w3 HS3.out.dg _ _ Hf.out Hh.out).mono ?_
    rintro e wz ⟨rfl, k1⟩
    exact ⟨_, rfl, rfl, k1⟩
  rintro vz w4 ⟨rfl, k1⟩
  have B4 : Keep (Below w.heap.size w w4) := ⟨B3.out.trans (k1.mono B3.out.size)⟩
  have HS4 := Keep.mk (HS3.out.below k1)
  have H44 := Keep.mk (H43.out.below k1 H43.out.lt)
  have H64 := Keep.mk (H63.out.below k1 H63.out.lt)
  clear k1
  refine hK _ _ (⟨HS4.out.bl.c 1 rfl, H44.out⟩) fun hHa => ?_
  clear hK
  simp only [Act.put, List.setIfInBounds_toArray, List.set_cons_zero, List.set_cons_succ]
  refine wpAnyH_take (i := 6) (oi := ⟨some 11, Op.move (Operand.tmp 17), 89, _, _, none⟩) (v := .tuple #[.int .i64 2, .int .i64 0]) rfl (by kernel_rfl) (by kernel_rfl) (by kernel_rfl) (fun _ _ _ h => h) (Or.inl ⟨by rfl, fun w hS => by have cS := hS.1; go_simp⟩) hHa ?_
  simp only [Act.put, List.setIfInBounds_toArray, List.set_cons_zero, List.set_cons_succ]
  refine wpAnyH_take (i := 7) (oi := ⟨some 18, Op.extract (Operand.tmp 11) 0, 3, _, _, none⟩) (v := .int .i64 2) rfl (by kernel_rfl) (by kernel_rfl) (by kernel_rfl) (fun _ _ _ h => h) (Or.inl ⟨by rfl, fun w hS => by have cS := hS.1; go_simp⟩) hHa ?_
  simp only [Act.put, List.setIfInBounds_toArray, List.set_cons_zero, List.set_cons_succ]
  refine wpAnyH_take (i := 8) (oi := ⟨some 19, Op.extract (Operand.tmp 11) 1, 42, _, _, none⟩) (v := .int .i64 0) rfl (by kernel_rfl) (by kernel_rfl) (by kernel_rfl) (fun _ _ _ h => h) (Or.inl ⟨by rfl, fun w hS => by have cS := hS.1; go_simp⟩) hHa ?_
  simp only [Act.put, List.setIfInBounds_toArray, List.set_cons_zero, List.set_cons_succ]
  refine wpAnyH_take (i := 9) (oi := ⟨some 7, Op.assign (Operand.tmp 18), 3, _, _, none⟩) (v := .int .i64 2) rfl (by kernel_rfl) (by kernel_rfl) (by kernel_rfl) (fun _ _ _ h => h) (Or.inl ⟨by rfl, fun w hS => by have cS := hS.1; go_simp⟩) hHa ?_
  simp only [Act.put, List.setIfInBounds_toArray, List.set_cons_zero, List.set_cons_succ]
  refine wpAnyH_take (i := 10) (oi := ⟨some 8, Op.assign (Operand.tmp 19), 42, _, _, none⟩) (v := .int .i64 0) rfl (by kernel_rfl) (by kernel_rfl) (by kernel_rfl) (fun _ _ _ h => h) (Or.inl ⟨by rfl, fun w hS => by have cS := hS.1; go_simp⟩) hHa ?_
  simp only [Act.put, List.setIfInBounds_toArray, List.set_cons_zero, List.set_cons_succ]
  refine wpAnyH_done (by kernel_rfl) ?_ _
  refine hK2 _ _ ?_
  refine wp_seq_k fun K3 hK3 => ?_
  refine wp_seq_k fun K4 hK4 => ?_
  refine wp_region_list (WL.out ?_)
  refine WL.val (by kernel_rfl) (.int .i64 2) (by go_simp) ?_
  simp only [Act.put, List.setIfInBounds_toArray, List.set_cons_zero, List.set_cons_succ]
  refine WL.val (by kernel_rfl) (.bool true) (by go_simp) ?_
  simp only [Act.put, List.setIfInBounds_toArray, List.set_cons_zero, List.set_cons_succ]
  refine WL.nil ?_
  refine hK4 _ _ ?_
  refine wp_cond_true rfl ?_
  refine wp_region_list (WL.out ?_)
  refine WL.val (by kernel_rfl) (.pointer (some ⟨s, 0, none⟩)) (by go_simp) ?_
  simp only [Act.put, List.setIfInBounds_toArray, List.set_cons_zero, List.set_cons_succ]
  refine WL.val (by kernel_rfl) (.slice (some ad) n c) (by go_simp) ?_
  simp only [Act.put, List.setIfInBounds_toArray, List.set_cons_zero, List.set_cons_succ]
  refine WL.callF (by kernel_rfl) 32 _ _ rfl Tryz.in32 #[.pointer (some ⟨s, 0, none⟩), .slice (some ad) n c] (by simp [Act.eval]) ?_
  refine (keep_ok s d mb g Av w4 HS4 ad n c l ⟨HR.out.below B4.out⟩ HL).mono ?_
  rintro e w5 ⟨rfl, k1⟩
  refine ⟨_, rfl, ?_⟩
  have B5 : Keep (Below w.heap.size w w5) := ⟨B4.out.trans (k1.mono B4.out.size)⟩
  have HS5 := Keep.mk (HS4.out.below k1)
  have H45 := Keep.mk (H44.out.below k1 H44.out.lt)
  have H65 := Keep.mk (H64.out.below k1 H64.out.lt)
  clear k1 HS4 H44 H64 B4
  simp only [Act.put, List.setIfInBounds_toArray, List.set_cons_zero, List.set_cons_succ]
  refine WL.val (by kernel_rfl) (.int .i64 0) (by go_simp) ?_
  simp only [Act.put, List.setIfInBounds_toArray, List.set_cons_zero, List.set_cons_succ]
  refine WL.nil ?_
  refine hK3 _ _ ?_
  refine wp_seq_k fun K5 hK5 => ?_
  refine wp_seq_k fun K6 hK6 => ?_
  refine wp_region_list (WL.out ?_)
  refine WL.val (by kernel_rfl) (.int .i64 0) (by go_simp) ?_
  simp only [Act.put, List.setIfInBounds_toArray, List.set_cons_zero, List.set_cons_succ]
  refine WL.val (by kernel_rfl) (.bool false) (by go_simp) ?_
  simp only [Act.put, List.setIfInBounds_toArray, List.set_cons_zero, List.set_cons_succ]
  refine WL.nil ?_
  refine hK6 _ _ ?_
  refine wp_cond_false rfl ?_
  refine wp_skip ?_
  refine hK5 _ _ ?_
  refine wp_seq_k fun K7 hK7 => ?_
  refine wp_seq_k fun K8 hK8 => ?_
  refine wp_region_list (WL.out ?_)
  refine WL.val (by kernel_rfl) (.int .i64 2) (by go_simp) ?_
  simp only [Act.put, List.setIfInBounds_toArray, List.set_cons_zero, List.set_cons_succ]
  refine WL.nil ?_
  refine hK8 _ _ ?_
  refine wp_block ?_
  refine wp_seq_k fun K9 hK9 => ?_
  refine wp_region_list (WL.out ?_)
  refine WL.val (by kernel_rfl) (.bool true) (by go_simp) ?_
  simp only [Act.put, List.setIfInBounds_toArray, List.set_cons_zero, List.set_cons_succ]
  refine WL.val (by kernel_rfl) (.bool true) (by go_simp) ?_
  simp only [Act.put, List.setIfInBounds_toArray, List.set_cons_zero, List.set_cons_succ]
  refine WL.nil ?_
  refine hK9 _ _ ?_
  refine wp_cond_true rfl ?_
  refine wp_seq_k fun K10 hK10 => ?_
  refine wp_region_list (WL.out ?_)
  refine WL.val (by kernel_rfl) (.pointer (some ⟨s, 0, none⟩)) (by go_simp) ?_
  simp only [Act.put, List.setIfInBounds_toArray, List.set_cons_zero, List.set_cons_succ]
  refine WL.row (by kernel_rfl) 61 (.tmp 4) rfl b4 rfl 61 vv _ H45.out Tryz.underlying61 rfl (by rw [hvv.out]; exact sizeV62 _ _ _) ?_
  simp only [Act.put, List.setIfInBounds_toArray, List.set_cons_zero, List.set_cons_succ]
  refine WL.val (by kernel_rfl) (.slice (some ad) n c) (by go_simp) ?_
  simp only [Act.put, List.setIfInBounds_toArray, List.set_cons_zero, List.set_cons_succ]
  refine WL.callF (by kernel_rfl) 33 _ _ rfl Tryz.in33 #[.pointer (some ⟨s, 0, none⟩), .agg vv, .slice (some ad) n c] (by simp [Act.eval]) ?_
  refine (add_one s d mb g Av w5 HS5 x bp vv hvv ad n c l ⟨HR.out.below B5.out⟩ HL ⟨by rw [B5.out.block mb LT.out.2.2.2.1]; exact HM.out⟩ Hg ⟨Nat.lt_of_lt_of_le LT.out.2.2.2.1 B5.out.size⟩ ⟨fun k e => Nat.lt_of_lt_of_le (LT.out.2.2.2.2 k e) B5.out.size⟩).mono ?_
  rintro e w6 ⟨rfl, g', Av', k1, k2, k3, k4, kmb, ksub, k5⟩
  refine ⟨_, rfl, ?_⟩
  have HS6 := Keep.mk k1
  have HB6 : Keep (MB w6 mb x l w5.heap.size) := ⟨kmb.2⟩
  have HOr := Keep.mk kmb.1
  clear kmb
  have HG' := Keep.mk (And.intro k2 (And.intro k3 k4))
  have HN' : Keep (∀ k, w.heap.size ≤ k → k < w5.heap.size → ¬ DgS d g' k) := ⟨fun k ha hb e => by
    rcases ksub k e with e2 | e2
    · have := LT.out.2.2.2.2 k e2; omega
    · omega⟩
  have HSB : Keep (∀ k, DgS d g' k → DgS d g k ∨ w.heap.size ≤ k) := ⟨fun k e => (ksub k e).imp id (Nat.le_trans B5.out.size)⟩
  have L65 : Keep (b6 < w5.heap.size) := ⟨H65.out.lt⟩
  have LW5 : Keep (w.heap.size ≤ w5.heap.size) := ⟨B5.out.size⟩
  clear ksub
  have ns : ∀ j, w.heap.size ≤ j → ¬ (j = mb ∨ DgS d g j) := fun j hj e => by
    rcases e with e | e
    · have := LT.out.2.2.2.1; omega
    · have := LT.out.2.2.2.2 j e; omega
  have H46 := Keep.mk (k5.blk H45.out (ns b4 LT.out.1))
  have H66 := Keep.mk (k5.blk H65.out (ns b6 (by have := LT.out; omega)))
  have G6 : Keep (Grown w w6 fun k => k = mb ∨ DgS d g k) := ⟨(Grown.below B5.out).trans k5⟩
  clear k1 k2 k3 k4 k5 HS5 H45 H65 B5 ns
  simp only [Act.put, List.setIfInBounds_toArray, List.set_cons_zero, List.set_cons_succ]
  refine WL.nil ?_
  refine hK10 _ _ ?_
  refine wp_seq_k fun K11 hK11 => ?_
  refine wp_region_list (WL.out ?_)
  refine WL.val (by kernel_rfl) (.pointer (some ⟨s, 0, none⟩)) (by go_simp) ?_
  simp only [Act.put, List.setIfInBounds_toArray, List.set_cons_zero, List.set_cons_succ]
  refine WL.callF (by kernel_rfl) 34 _ _ rfl Tryz.in34 #[.pointer (some ⟨s, 0, none⟩)] (by simp [Act.eval]) ?_
  refine (follow_none s d mb g' Av' w6 HS6 ⟨HG'.out.2.2⟩).mono ?_
  rintro e w7 ⟨rfl, k1⟩
  refine ⟨_, rfl, ?_⟩
  have HS7 := Keep.mk (HS6.out.below k1)
  have H47 := Keep.mk (H46.out.below k1 H46.out.lt)
  have H67 := Keep.mk (H66.out.below k1 H66.out.lt)
  have G7 : Keep (Grown w w7 fun k => k = mb ∨ DgS d g k) := ⟨G6.out.trans ((Grown.below (S := fun _ => False) k1).mono fun k _ e => e.elim)⟩
  have HB7 := Keep.mk (HB6.out.below k1)
  clear k1 HS6 H46 H66 G6 HB6
  simp only [Act.put, List.setIfInBounds_toArray, List.set_cons_zero, List.set_cons_succ]
  refine WL.val (by kernel_rfl) (.tuple #[.slice none 0 0, .slice none 0 0]) (by go_simp) ?_
  simp only [Act.put, List.setIfInBounds_toArray, List.set_cons_zero, List.set_cons_succ]
  refine WL.val (by kernel_rfl) (.slice none 0 0) (by go_simp) ?_
  simp only [Act.put, List.setIfInBounds_toArray, List.set_cons_zero, List.set_cons_succ]
  refine WL.val (by kernel_rfl) (.slice none 0 0) (by go_simp) ?_
  simp only [Act.put, List.setIfInBounds_toArray, List.set_cons_zero, List.set_cons_succ]
  refine WL.val (by kernel_rfl) (.slice none 0 0) (by go_simp) ?_
  simp only [Act.put, List.setIfInBounds_toArray, List.set_cons_zero, List.set_cons_succ]
  refine WL.val (by kernel_rfl) (.slice none 0 0) (by go_simp) ?_
  simp only [Act.put, List.setIfInBounds_toArray, List.set_cons_zero, List.set_cons_succ]
  refine WL.nil ?_
  refine hK11 _ _ ?_
  refine wp_seq_k fun K12 hK12 => ?_
  refine wp_region_list (WL.out ?_)
  refine WL.val (by kernel_rfl) (.int .i64 2) (by go_simp) ?_
  simp only [Act.put, List.setIfInBounds_toArray, List.set_cons_zero, List.set_cons_succ]
  refine WL.val (by kernel_rfl) (.pointer (some ⟨b4, 0, none⟩)) (by go_simp) ?_
  simp only [Act.put, List.setIfInBounds_toArray, List.set_cons_zero, List.set_cons_succ]
  refine WL.midA (by kernel_rfl) 50 (.tmp 43) rfl b4 0 rfl (bytesA 32 x.f) _ (by have h := blk_range H47.out; rw [hvv.out] at h; exact vtx_id h) Tryz.underlying50 rfl (size51E _) ?_
  simp only [Act.put, List.setIfInBounds_toArray, List.set_cons_zero, List.set_cons_succ]
  refine WL.bs (by kernel_rfl) 25 1 _ rfl #[(0, .agg (bytesA 32 x.f))] (by simp [Act.eval]) _ _ (bsH25 x.f w7) ?_
  have b8 := below_new w7 (.cells (bytesA 32 x.f) 50)
  have HS8 := Keep.mk (HS7.out.below b8)
  have HB8 := Keep.mk (HB7.out.below b8)
  have H68 := Keep.mk (H67.out.below b8 H67.out.lt)
  have G8 : Keep (Grown w (w7.alloc (.cells (bytesA 32 x.f) 50)) fun k => k = mb ∨ DgS d g k) := ⟨G7.out.trans ((Grown.below (S := fun _ => False) b8).mono fun k _ e => e.elim)⟩
  clear b8 HS7 H67 G7 HB7
  generalize w7.alloc (.cells (bytesA 32 x.f) 50) = w8 at *
  generalize w7.heap.size = gx at *
  simp only [Act.put, List.setIfInBounds_toArray, List.set_cons_zero, List.set_cons_succ]
  refine WL.val (by kernel_rfl) (.slice none 0 0) (by go_simp) ?_
  simp only [Act.put, List.setIfInBounds_toArray, List.set_cons_zero, List.set_cons_succ]
  have ha := app0 gx w8
  refine WL.valW (by kernel_rfl) (.slice (some ⟨gx, 0, none⟩) 1 1) w8 (by go_simp) ?_
  clear ha
  simp only [Act.put, List.setIfInBounds_toArray, List.set_cons_zero, List.set_cons_succ]
  refine WL.val (by kernel_rfl) (.slice none 0 0) (by go_simp) ?_
  simp only [Act.put, List.setIfInBounds_toArray, List.set_cons_zero, List.set_cons_succ]
  refine WL.bld (by kernel_rfl) 27 _ rfl [(0, .int .i64 2), (1, .slice (some ⟨gx, 0, none⟩) 1 1), (2, .slice none 0 0)] (by simp [Act.eval]) #[.int .i64 2, .slice (some ⟨gx, 0, none⟩) 1 1, .slice none 0 0] (by kernel_rfl) ?_
  simp only [Act.put, List.setIfInBounds_toArray, List.set_cons_zero, List.set_cons_succ]
  refine WL.storeR (by kernel_rfl) 27 (.tmp 6) (.tmp 49) rfl b6 #[.int .i64 2, .slice (some ⟨gx, 0, none⟩) 1 1, .slice none 0 0] rfl rfl 27 #[.int .i64 0, .slice none 0 0, .slice none 0 0] H68.out (by kernel_rfl) rfl (by simp [Value.oneCell']) ?_
  have H69 := Keep.mk (H68.out.setRow #[.int .i64 2, .slice (some ⟨gx, 0, none⟩) 1 1, .slice none 0 0])
  have g_w9 : Keep (Grown w8 (w8.setRow b6 #[.int .i64 2, .slice (some ⟨gx, 0, none⟩) 1 1, .slice none 0 0]) fun k => k = b6) := ⟨Grown.setRow w8 b6 _ fun _ => rfl⟩
  clear H68
  generalize w8.setRow b6 #[.int .i64 2, .slice (some ⟨gx, 0, none⟩) 1 1, .slice none 0 0] = w9 at *
  simp only [Act.put]
  refine WL.nil ?_
  refine hK12 _ _ ?_
  refine wp_ret ?_
  try simp only [Exit.inBlock, Exit.then]
  have k1 := LT.out
  have HS9 : ShAt w9 s d mb g' Av' := HS8.out.keep1 HG'.out.1 HG'.out.2.1 g_w9.out (fun j e => by subst e; exact ⟨by omega, by omega, HN'.out _ (by omega) L65.out⟩)
  refine bodyPost_ret (v := .agg #[.int .i64 2, .slice (some ⟨gx, 0, none⟩) 1 1, .slice none 0 0]) (results_cell_row Tryz.results14 _ _ b6 27 _ (0, 0) _ rfl H69.out Tryz.underlying27 rfl (by kernel_rfl)) rfl ⟨gx, rfl, g', Av', HS9, HG'.out.1, HG'.out.2.1, HG'.out.2.2, ⟨HOr.out, (HB8.out.keep g_w9.out (fun e => by omega) fun k e => by rw [e]; exact L65.out).mono LW5.out⟩, HSB.out, ?_⟩
  exact G8.out.next g_w9.out fun j hj e => by subst e; exfalso; omega

theorem Tryz.in6 (w : World) (vs : Array Value) : (callFunc 6 vs).run Tryz.prog w = .ok (.enter 6 vs) w := by kernel_rfl
theorem Tryz.in13 (w : World) (vs : Array Value) : (callFunc 13 vs).run Tryz.prog w = .ok (.enter 13 vs) w := by kernel_rfl
theorem Blk.setRow_ne {w : World} {b b' : Nat} {T : TypeId} {cs : Array Value} (h : Blk w b T cs) (hne : b ≠ b') (cs' : Array Value) : Blk (w.setRow b' cs') b T cs := Nd.Blk.setRow_ne h hne cs'
def l0 : List Int := [1, 1, 1, 0, 0]
def x0 : Hs := shaH [1, 1, 1, 0, 0]
theorem tk_built0 : Tryz.prog.built 27 [] = some (#[.int .i64 0, .slice none 0 0, .slice none 0 0]) := by kernel_rfl
theorem sizeTk : (Tryz.prog.info? 27).map (·.size) = some (#[.int .i64 0, .slice none 0 0, .slice none 0 0] : Array Value).size := by kernel_rfl
theorem sizeTk0 : (Tryz.prog.info? 27).map (·.size) = some 3 := by kernel_rfl
theorem tk_one : (#[.int .i64 0, .slice none 0 0, .slice none 0 0] : Array Value).all (·.oneCell') = true := by simp [Value.oneCell']
theorem blk_ne {w : World} {g g' : Nat} {T T' : TypeId} {cs cs' : Array Value} (h : w.heap[g]? = some (.cells cs T (0, 0))) (h' : w.heap[g']? = some (.cells cs' T' (0, 0))) (hT : T ≠ T') : g ≠ g' := fun e => by
  subst e
  rw [h] at h'
  injection h' with h'
  injection h' with _ h2
  exact hT h2
theorem dec0 : Nd.decR [1, 1, 1, 0, 0] = (0, 5, ⟨1, 1, [], []⟩) := by rfl
theorem enE_sha (l : List Int) (au ck : Int) (p q : Value) : Nd.enA (Nd.Sh.shaP l) (Nd.ndA au ck p q) = enE (shaH l).f au ck p q :=
  congrArg (fun b : Array Value => (b.toList ++ (Nd.ndA au ck p q).toList).toArray) (shaH_b l)
theorem entry_one (w : World) (ad : Addr) (c : Nat) (hr : RowAt w (.slice (some ad) 5 c) [1, 1, 1, 0, 0]) : Calls Tryz.prog 13 #[.slice (some ad) 5 c] w fun e w' => ∃ pa pc qa qc, e = .returned (.tuple #[.agg (enE x0.f 1 1 (.slice pa 0 pc) (.slice qa 0 qc)), .nilIface]) ∧ Below w.heap.size w w' := by
  refine (Nd.entry_any _ [1, 1, 1, 0, 0] w hr (by intro c hc; simp at hc; omega)).mono ?_
  rintro e w' (⟨_, _, vp, vo, rfl, h3, h4, _, _, hb⟩ | ⟨h | ⟨_, h⟩, _⟩)
  · rw [dec0] at h3 h4 ⊢
    obtain ⟨pa, pc, rfl⟩ := h3.sl
    obtain ⟨qa, qc, rfl⟩ := h4.sl
    exact ⟨pa, pc, qa, qc, by rw [enE_sha]; rfl, hb⟩
  · simp at h
  · rw [dec0] at h; exact absurd rfl h
theorem entry_nil (w : World) : Calls Tryz.prog 13 #[.slice none 0 0] w fun e w' => ∃ q, e = .returned (.tuple #[.agg Nd.zEn, .iface 121 (ptr q)]) ∧ Nd.BadAt w' q 20 0 ∧ Below w.heap.size w w' := by
  refine (Nd.entry_any _ [] w (.inl ⟨rfl, rfl⟩) (by intro c hc; simp at hc)).mono ?_
  rintro e w' (⟨_, h, _⟩ | ⟨_, q, _, rfl, h2, hb⟩)
  · exact absurd h (by decide)
  · exact ⟨q, rfl, h2, hb⟩
set_option maxRecDepth 8000 in
theorem tcatch_panicking (g2 g3 q : Nat) (old : Array Value) (w : World) (h2 : Blk w g2 27 old) (ho : old.size = 3) (h3 : Blk w g3 29 #[.nilIface]) :
    CallsD Tryz.prog 10 #[ptr g2, ptr g3] (.panicking [Nd.wr q]) w fun e u' w' => e = .returned (.tuple #[]) ∧ u' = .panicking [{ v := .iface 84 (.agg #[Nd.err q]), recovered := true }] ∧ Blk w' g2 27 (#[.int .i64 0, .slice none 0 0, .slice none 0 0]) ∧ Blk w' g3 29 #[Nd.err q] ∧ Grown w w' fun k => k = g2 ∨ k = g3 := by
  have H2 := Keep.mk h2
  have H3 := Keep.mk h3
  have Ho := Keep.mk ho
  have Hne : Keep (g2 ≠ g3) := ⟨blk_ne h2 h3 (by decide)⟩
  clear h2 h3 ho
  refine callsD_of_wpS Tryz.func10 rfl fun c₀ cs hu => ?_
  apply wpS_seq
  apply wpS_region
  unfold Nd.wr at hu
  simp [wpOpsS, go_sem, recoverD, hu, Tryz.ntmps10, Exit.thenS]
  apply wpS_seq
  apply wpS_region
  simp [wpOpsS, go_sem, Exit.thenS]
  refine wpS_cond (t := true) (by simp [Act.eval, Array.replicate]) ?_
  simp only [if_true]
  refine wpS_of_wp ?_
  refine wp_region_list (WL.out ?_)
  simp only [Array.replicate_succ, Array.replicate_zero, List.push_toArray, List.append_toArray, List.nil_append, List.cons_append, List.setIfInBounds_toArray, List.set_cons_zero, List.set_cons_succ]
  refine WL.bld (by kernel_rfl) 27 _ rfl [] (by simp) _ tk_built0 ?_
  simp only [Act.put, List.setIfInBounds_toArray, List.set_cons_zero, List.set_cons_succ]
  refine WL.val (by kernel_rfl) (.iface 84 (.agg #[Nd.err q])) (by go_simp) ?_
  simp only [Act.put, List.setIfInBounds_toArray, List.set_cons_zero, List.set_cons_succ]
  refine WL.callF (by kernel_rfl) 11 _ _ rfl Nd.Tryz.in11 #[.iface 84 (.agg #[Nd.err q])] (by simp [Act.eval]) ?_
  refine (Nd.caught_any q w).mono ?_
  rintro e w1 ⟨rfl, hb1⟩
  refine ⟨_, rfl, ?_⟩
  have B1 := Keep.mk hb1
  have H21 := Keep.mk (H2.out.below hb1 H2.out.lt)
  have H31 := Keep.mk (H3.out.below hb1 H3.out.lt)
  clear hb1
  simp only [Act.put, List.setIfInBounds_toArray, List.set_cons_zero, List.set_cons_succ]
  refine WL.storeR (by kernel_rfl) 27 (.tmp 0) (.tmp 6) rfl g2 (#[.int .i64 0, .slice none 0 0, .slice none 0 0]) rfl rfl 27 old H21.out sizeTk (by rw [Ho.out]; rfl) tk_one ?_
  have H22 := Keep.mk (H21.out.setRow (#[.int .i64 0, .slice none 0 0, .slice none 0 0]))
  have H32 := Keep.mk (H31.out.setRow_ne (b' := g2) (fun e => Hne.out e.symm) (#[.int .i64 0, .slice none 0 0, .slice none 0 0]))
  have G2 : Keep (Grown w (w1.setRow g2 (#[.int .i64 0, .slice none 0 0, .slice none 0 0])) fun k => k = g2 ∨ k = g3) := ⟨(Grown.below B1.out).trans (Grown.setRow w1 g2 _ fun _ => .inl rfl)⟩
  generalize w1.setRow g2 (#[.int .i64 0, .slice none 0 0, .slice none 0 0]) = w2 at *
  simp only [Act.put]
  have c0 := H32.out.c 0 rfl
  have f0 := H32.out.frozen 0
  refine WL.cell (by kernel_rfl) (w2.setCell ⟨g3, 0, none⟩ (Nd.err q)) (by unfold Nd.err; go_simp) ?_
  have H33 := Keep.mk (H32.out.set 0 (Nd.err q))
  have H23 := Keep.mk (H22.out.set_ne (b' := g3) (j := 0) Hne.out (Nd.err q))
  have G3 : Keep (Grown w (w2.setCell ⟨g3, 0, none⟩ (Nd.err q)) fun k => k = g2 ∨ k = g3) := ⟨G2.out.trans (Grown.setCell w2 g3 0 _ fun _ => .inr rfl)⟩
  generalize w2.setCell ⟨g3, 0, none⟩ (Nd.err q) = w3 at *
  simp only [Act.put]
  refine WL.nil ?_
  exact ⟨rfl, _, rfl, _, results_none rfl _ _ _, rfl, rfl, H23.out, H33.out, G3.out⟩
set_option maxRecDepth 8000 in
theorem tcatch_idle (g2 g3 : Nat) (w : World) :
    CallsD Tryz.prog 10 #[ptr g2, ptr g3] .returning w fun e u' w' => e = .returned (.tuple #[]) ∧ u' = .returning ∧ w' = w := by
  refine callsD_of_wpS Tryz.func10 rfl fun c₀ cs hu => ?_
  apply wpS_seq
  apply wpS_region
  simp [wpOpsS, go_sem, recoverD, hu, Tryz.ntmps10, Exit.thenS]
  apply wpS_seq
  apply wpS_region
  simp [wpOpsS, go_sem, Exit.thenS]
  refine wpS_cond (t := false) (by simp [Act.eval, Array.replicate]) ?_
  simp only [Bool.false_eq_true, if_false]
  refine wpS_of_wp (wp_skip ?_)
  cases c₀
  simp_all [bodyPostS, results, Tryz.results10]
theorem tload_err (w : World) (g : Nat) (x : Value) (h : Blk w g 29 #[x]) : (loadVar 29 ⟨g, 0, none⟩).run Tryz.prog w = .ok x w := by
  have c0 := h.c 0 rfl
  go_simp
theorem tresults_cells (tmps : Array Value) (w : World) (g g' : Nat) (cs : Array Value) (x : Value)
    (hp : tmps.getD 4 undef = .pointer (some ⟨g, 0, none⟩)) (hq : tmps.getD 5 undef = .pointer (some ⟨g', 0, none⟩)) (hg : Blk w g 27 cs) (hg' : Blk w g' 29 #[x]) (hi : cs.size = 3) :
    (results Tryz.f6 tmps).run Tryz.prog w = .ok (.tuple #[.agg cs, x]) w := by
  have hr := run_loadVar_row (P := Tryz.prog) w g 27 27 cs (0, 0) _ hg Tryz.underlying27 rfl (by rw [hi]; exact sizeTk0)
  have hx := tload_err w g' x hg'
  simp only [results, Tryz.results6]
  simp only [Array.getD_eq_getD_getElem?] at hp hq
  simp [Result.andThen, asAddr, hp, hq, hr, hx]
set_option maxRecDepth 8000 in
set_option maxHeartbeats 2000000 in
theorem take_nil_ (s d mb : Nat) (g : DG) (Av : Nat → Prop) (w : World) (HS : Keep (ShAt w s d mb g Av)) : Calls Tryz.prog 6 #[.pointer (some ⟨s, 0, none⟩), .slice none 0 0] w fun e w' => ∃ q, e = .returned (.tuple #[.agg #[.int .i64 0, .slice none 0 0, .slice none 0 0], .iface 121 (ptr q)]) ∧ Nd.BadAt w' q 20 0 ∧ Below w.heap.size w w' := by
  have hmf : ∀ (fn : Fn) (first cap : Array Value) (w : World), (Instr.makeFunc fn first cap).run Tryz.prog w = .ok (.func fn first cap) w := fun _ _ _ _ => rfl
  go_enter_defers Tryz.func6, Tryz.ntmps6
  refine wp_seq_k fun K1 hK1 => ?_
  refine wp_region_list (WL.out ?_)
  refine WL.new (by kernel_rfl) 27 rfl _ Tryz.new27 ?_
  have H4 := Keep.mk (Blk.new w 27 #[.int .i64 0, .slice none 0 0, .slice none 0 0])
  have b_g4 := Keep.mk (below_new w (.cells #[.int .i64 0, .slice none 0 0, .slice none 0 0] 27))
  generalize w.alloc (.cells #[.int .i64 0, .slice none 0 0, .slice none 0 0] 27) = w1 at *
  obtain ⟨g4, hg4⟩ : ∃ z, Keep (z = w.heap.size) := ⟨_, ⟨rfl⟩⟩
  rw [← hg4.out] at H4 ⊢
  simp only [Act.put, List.setIfInBounds_toArray, List.set_cons_zero, List.set_cons_succ]
  refine WL.new (by kernel_rfl) 29 rfl _ Nd.Tryz.new29 ?_
  have H5 := Keep.mk (Blk.new w1 29 #[.nilIface])
  have b_g5 := Keep.mk (below_new w1 (.cells #[.nilIface] 29))
  generalize w1.alloc (.cells #[.nilIface] 29) = w2 at *
  obtain ⟨g5, hg5⟩ : ∃ z, Keep (z = w1.heap.size) := ⟨_, ⟨rfl⟩⟩
  rw [← hg5.out] at H5 ⊢
  have H42 := Keep.mk (H4.out.below b_g5.out H4.out.lt)
  have B2 : Keep (Below w.heap.size w w2) := ⟨b_g4.out.trans (b_g5.out.mono b_g4.out.size)⟩
  have LT : Keep (w.heap.size ≤ g4 ∧ g4 < g5) := ⟨by
    have h1 := hg4.out
    have h2 := hg5.out
    have h3 := H4.out.lt
    exact ⟨by omega, by omega⟩⟩
  clear H4 b_g4 b_g5
  simp only [Act.put, List.setIfInBounds_toArray, List.set_cons_zero, List.set_cons_succ]
  refine WL.nil ?_
  refine hK1 _ _ ?_
  refine wp_seq_k fun K2 hK2 => ?_
  refine wp_region_list (WL.out ?_)
  refine WL.val (by kernel_rfl) (.func (.func 10) #[] #[.pointer (some ⟨g4, 0, none⟩), .pointer (some ⟨g5, 0, none⟩)]) (by go_simp) ?_
  simp only [Act.put, List.setIfInBounds_toArray, List.set_cons_zero, List.set_cons_succ]
  refine WL.defer (by kernel_rfl) { target := .fn (.func 10) #[.pointer (some ⟨g4, 0, none⟩), .pointer (some ⟨g5, 0, none⟩)], args := #[] } (by go_simp) ?_
  clear hmf
  simp only [Act.put]
  refine WL.nil ?_
  refine hK2 _ _ ?_
  refine wp_seq_k fun K3 hK3 => ?_
  refine wp_seq_k fun K4 hK4 => ?_
  refine wp_region_list (WL.out ?_)
  refine WL.val (by kernel_rfl) (.pointer (some ⟨s, 0, none⟩)) (by go_simp) ?_
  simp only [Act.put, List.setIfInBounds_toArray, List.set_cons_zero, List.set_cons_succ]
  refine WL.val (by kernel_rfl) (.pointer (some ⟨s, 0, none⟩)) (by go_simp) ?_
  simp only [Act.put, List.setIfInBounds_toArray, List.set_cons_zero, List.set_cons_succ]
  refine WL.val (by kernel_rfl) (.pointer (some ⟨s, 3, none⟩)) (by go_simp) ?_
  simp only [Act.put, List.setIfInBounds_toArray, List.set_cons_zero, List.set_cons_succ]
  have cS : w2.cell? ⟨s, 3, none⟩ = some (.bool false) := (HS.out.below B2.out).bl.c 3 rfl
  refine WL.val (by kernel_rfl) (.bool false) (by go_simp) ?_
  clear cS
  simp only [Act.put, List.setIfInBounds_toArray, List.set_cons_zero, List.set_cons_succ]
  refine WL.nil ?_
  refine hK4 _ _ ?_
  refine wp_cond_false rfl ?_
  refine wp_skip ?_
  refine hK3 _ _ ?_
  refine wp_seq_k fun K5 hK5 => ?_
  refine wp_region_list (WL.out ?_)
  refine WL.val (by kernel_rfl) (.slice none 0 0) (by go_simp) ?_
  simp only [Act.put, List.setIfInBounds_toArray, List.set_cons_zero, List.set_cons_succ]
  refine WL.callF (by kernel_rfl) 13 _ _ rfl Tryz.in13 #[.slice none 0 0] (by simp [Act.eval]) ?_
  refine (entry_nil w2).mono ?_
  rintro e w3 ⟨q, rfl, hq, hb⟩
  refine ⟨_, rfl, ?_⟩
  have HB3 := Keep.mk hq
  have HNq : Keep (q ≠ g4 ∧ q ≠ g5) := ⟨⟨fun e => (blk_ne hq (H42.out.below hb H42.out.lt) (by decide)) e, fun e => (blk_ne hq (H5.out.below hb H5.out.lt) (by decide)) e⟩⟩
  have B3 : Keep (Below w.heap.size w w3) := ⟨B2.out.trans (hb.mono B2.out.size)⟩
  have H43 := Keep.mk (H42.out.below hb H42.out.lt)
  have H53 := Keep.mk (H5.out.below hb H5.out.lt)
  clear hb hq
  simp only [Act.put, List.setIfInBounds_toArray, List.set_cons_zero, List.set_cons_succ]
  refine WL.val (by kernel_rfl) (.agg Nd.zEn) (by go_simp) ?_
  simp only [Act.put, List.setIfInBounds_toArray, List.set_cons_zero, List.set_cons_succ]
  refine WL.val (by kernel_rfl) (.iface 121 (ptr q)) (by go_simp) ?_
  simp only [Act.put, List.setIfInBounds_toArray, List.set_cons_zero, List.set_cons_succ]
  refine WL.callP (by kernel_rfl) 12 _ _ rfl Tryz.in12 #[.agg Nd.zEn, .iface 121 (ptr q)] (by simp [Act.eval]) ?_
  refine (must12_bad Nd.zEn q w3 (by rw [Nd.zEn_size]; kernel_rfl) (Nd.enA_one _ 0 0 none 0 0 none 0 0) Nd.zEn_size).mono ?_
  rintro e w4 ⟨rfl, hb⟩
  refine .inr ⟨_, rfl, ?_⟩
  try simp only [Exit.inBlock, Exit.then]
  have B4 : Keep (Below w.heap.size w w4) := ⟨B3.out.trans (hb.mono B3.out.size)⟩
  refine leaves_cons (f := 10) (args := #[ptr g4, ptr g5]) (by simp) (by simp [go_sem, ptr]) ?_
  refine (tcatch_panicking g4 g5 q (#[.int .i64 0, .slice none 0 0, .slice none 0 0]) w4 (H43.out.below hb H43.out.lt) rfl (H53.out.below hb H53.out.lt)).mono ?_
  rintro e u' w5 ⟨rfl, rfl, i2, i3, i4⟩
  simp only [settle, List.dropWhile]
  refine ⟨.tuple #[.agg #[.int .i64 0, .slice none 0 0, .slice none 0 0], Nd.err q], tresults_cells _ _ g4 g5 _ _ rfl rfl i2 i3 rfl, ?_⟩
  have hq4 : Nd.BadAt w4 q 20 0 := HB3.out.below hb HB3.out.lt
  have k1 := LT.out
  exact ⟨q, rfl, i4.blk hq4 (fun e => by
    rcases e with e | e
    · exact HNq.out.1 e
    · exact HNq.out.2 e), B4.out.trans (i4.to_below (fun k hk e => by omega) B4.out.size)⟩
set_option maxRecDepth 8000 in
set_option maxHeartbeats 2000000 in
theorem take_known (s d mb : Nat) (g : DG) (Av : Nat → Prop) (w : World) (HS : Keep (ShAt w s d mb g Av)) (ad : Addr) (c : Nat) (HR : Keep (RowAt w (.slice (some ad) 5 c) [1, 1, 1, 0, 0])) (Hf : Keep (fitV g.held g.wait ⟨x0, 1, []⟩ = (1, 0))) (Hh : Keep (g.held = [⟨x0, 1, []⟩])) : Calls Tryz.prog 6 #[.pointer (some ⟨s, 0, none⟩), .slice (some ad) 5 c] w fun e w' => e = .returned (.tuple #[.agg #[.int .i64 1, .slice none 0 0, .slice none 0 0], .nilIface]) ∧ Below w.heap.size w w' := by
  have hmf : ∀ (fn : Fn) (first cap : Array Value) (w : World), (Instr.makeFunc fn first cap).run Tryz.prog w = .ok (.func fn first cap) w := fun _ _ _ _ => rfl
  go_enter_defers Tryz.func6, Tryz.ntmps6
  refine wp_seq_k fun K1 hK1 => ?_
  refine wp_region_list (WL.out ?_)
  refine WL.new (by kernel_rfl) 27 rfl _ Tryz.new27 ?_
  have H4 := Keep.mk (Blk.new w 27 #[.int .i64 0, .slice none 0 0, .slice none 0 0])
  have b_g4 := Keep.mk (below_new w (.cells #[.int .i64 0, .slice none 0 0, .slice none 0 0] 27))
  generalize w.alloc (.cells #[.int .i64 0, .slice none 0 0, .slice none 0 0] 27) = w1 at *
  obtain ⟨g4, hg4⟩ : ∃ z, Keep (z = w.heap.size) := ⟨_, ⟨rfl⟩⟩
  rw [← hg4.out] at H4 ⊢
  simp only [Act.put, List.setIfInBounds_toArray, List.set_cons_zero, List.set_cons_succ]
  refine WL.new (by kernel_rfl) 29 rfl _ Nd.Tryz.new29 ?_
  have H5 := Keep.mk (Blk.new w1 29 #[.nilIface])
  have b_g5 := Keep.mk (below_new w1 (.cells #[.nilIface] 29))
  generalize w1.alloc (.cells #[.nilIface] 29) = w2 at *
  obtain ⟨g5, hg5⟩ : ∃ z, Keep (z = w1.heap.size) := ⟨_, ⟨rfl⟩⟩
  rw [← hg5.out] at H5 ⊢
  have H42 := Keep.mk (H4.out.below b_g5.out H4.out.lt)
  have B2 : Keep (Below w.heap.size w w2) := ⟨b_g4.out.trans (b_g5.out.mono b_g4.out.size)⟩
  have LT : Keep (w.heap.size ≤ g4 ∧ g4 < g5) := ⟨by
    have h1 := hg4.out
    have h2 := hg5.out
    have h3 := H4.out.lt
    exact ⟨by omega, by omega⟩⟩
  clear H4 b_g4 b_g5
  simp only [Act.put, List.setIfInBounds_toArray, List.set_cons_zero, List.set_cons_succ]
  refine WL.nil ?_
  refine hK1 _ _ ?_
  refine wp_seq_k fun K2 hK2 => ?_
  refine wp_region_list (WL.out ?_)
  refine WL.val (by kernel_rfl) (.func (.func 10) #[] #[.pointer (some ⟨g4, 0, none⟩), .pointer (some ⟨g5, 0, none⟩)]) (by go_simp) ?_
  simp only [Act.put, List.setIfInBounds_toArray, List.set_cons_zero, List.set_cons_succ]
  refine WL.defer (by kernel_rfl) { target := .fn (.func 10) #[.pointer (some ⟨g4, 0, none⟩), .pointer (some ⟨g5, 0, none⟩)], args := #[] } (by go_simp) ?_
  clear hmf
  simp only [Act.put]
  refine WL.nil ?_
  refine hK2 _ _ ?_
  refine wp_seq_k fun K3 hK3 => ?_
  refine wp_seq_k fun K4 hK4 => ?_
  refine wp_region_list (WL.out ?_)
  refine WL.val (by kernel_rfl) (.pointer (some ⟨s, 0, none⟩)) (by go_simp) ?_
  simp only [Act.put, List.setIfInBounds_toArray, List.set_cons_zero, List.set_cons_succ]
  refine WL.val (by kernel_rfl) (.pointer (some ⟨s, 0, none⟩)) (by go_simp) ?_
  simp only [Act.put, List.setIfInBounds_toArray, List.set_cons_zero, List.set_cons_succ]
  refine WL.val (by kernel_rfl) (.pointer (some ⟨s, 3, none⟩)) (by go_simp) ?_
  simp only [Act.put, List.setIfInBounds_toArray, List.set_cons_zero, List.set_cons_succ]
  have cS : w2.cell? ⟨s, 3, none⟩ = some (.bool false) := (HS.out.below B2.out).bl.c 3 rfl
  refine WL.val (by kernel_rfl) (.bool false) (by go_simp) ?_
  clear cS
  simp only [Act.put, List.setIfInBounds_toArray, List.set_cons_zero, List.set_cons_succ]
  refine WL.nil ?_
  refine hK4 _ _ ?_
  refine wp_cond_false rfl ?_
  refine wp_skip ?_
  refine hK3 _ _ ?_
  refine wp_seq_k fun K5 hK5 => ?_
  refine wp_region_list (WL.out ?_)
  refine WL.val (by kernel_rfl) (.slice (some ad) 5 c) (by go_simp) ?_
  simp only [Act.put, List.setIfInBounds_toArray, List.set_cons_zero, List.set_cons_succ]
  refine WL.callF (by kernel_rfl) 13 _ _ rfl Tryz.in13 #[.slice (some ad) 5 c] (by simp [Act.eval]) ?_
  refine (entry_one w2 ad c (HR.out.below B2.out)).mono ?_
  rintro e w3 ⟨pa, pc, qa, qc, rfl, hb⟩
  refine ⟨_, rfl, ?_⟩
  have B3 : Keep (Below w.heap.size w w3) := ⟨B2.out.trans (hb.mono B2.out.size)⟩
  have H43 := Keep.mk (H42.out.below hb H42.out.lt)
  have H53 := Keep.mk (H5.out.below hb H5.out.lt)
  clear hb H42 H5 B2
  obtain ⟨ee, hee⟩ : ∃ a : Array Value, Keep (a = enE x0.f 1 1 (.slice pa 0 pc) (.slice qa 0 qc)) := ⟨_, ⟨rfl⟩⟩
  rw [← hee.out]
  have e1 : (Tryz.prog.info? 55).map (·.size) = some ee.size := by rw [hee.out]; exact Nd.Tryz.size55B _ _ _ _ _
  have e2 : ee.all (·.oneCell') = true := by rw [hee.out]; exact Nd.enA_one _ 1 1 pa 0 pc qa 0 qc
  have e3 : ee.size = 36 := by rw [hee.out]; exact Nd.enA_size _ _ _ _ _
  have E1 := Keep.mk e1
  have E2 := Keep.mk e2
  have E3 := Keep.mk e3
  clear e1 e2 e3
  simp only [Act.put, List.setIfInBounds_toArray, List.set_cons_zero, List.set_cons_succ]
  refine WL.val (by kernel_rfl) (.agg ee) (by go_simp) ?_
  simp only [Act.put, List.setIfInBounds_toArray, List.set_cons_zero, List.set_cons_succ]
  refine WL.val (by kernel_rfl) (.nilIface) (by go_simp) ?_
  simp only [Act.put, List.setIfInBounds_toArray, List.set_cons_zero, List.set_cons_succ]
  refine WL.callF (by kernel_rfl) 12 _ _ rfl Tryz.in12 #[.agg ee, .nilIface] (by simp [Act.eval]) ?_
  refine (must12_ok ee w3 E1.out E2.out E3.out).mono ?_
  rintro e w4 ⟨rfl, hb⟩
  refine ⟨_, rfl, ?_⟩
  have B4 : Keep (Below w.heap.size w w4) := ⟨B3.out.trans (hb.mono B3.out.size)⟩
  have H44 := Keep.mk (H43.out.below hb H43.out.lt)
  have H54 := Keep.mk (H53.out.below hb H53.out.lt)
  clear hb H43 H53 B3
  simp only [Act.put, List.setIfInBounds_toArray, List.set_cons_zero, List.set_cons_succ]
  refine WL.new (by kernel_rfl) 55 rfl _ Nd.Tryz.new55 ?_
  have H6 := Keep.mk (Blk.new w4 55 Nd.zEn)
  have b_b6 := Keep.mk (below_new w4 (.cells Nd.zEn 55))
  generalize w4.alloc (.cells Nd.zEn 55) = w5 at *
  obtain ⟨b6, hb6⟩ : ∃ z, Keep (z = w4.heap.size) := ⟨_, ⟨rfl⟩⟩
  rw [← hb6.out] at H6 ⊢
  have H45 := Keep.mk (H44.out.below b_b6.out H44.out.lt)
  have H55 := Keep.mk (H54.out.below b_b6.out H54.out.lt)
  have B5 : Keep (Below w.heap.size w w5) := ⟨B4.out.trans (b_b6.out.mono B4.out.size)⟩
  have L6 : Keep (g5 < b6) := ⟨by have h1 := hb6.out; have h2 := H54.out.lt; omega⟩
  clear H44 H54 b_b6 B4
  simp only [Act.put, List.setIfInBounds_toArray, List.set_cons_zero, List.set_cons_succ]
  refine WL.storeR (by kernel_rfl) 55 (.tmp 6) (.tmp 18) rfl b6 ee rfl rfl 55 Nd.zEn H6.out E1.out (by rw [E3.out, Nd.zEn_size]) E2.out ?_
  have H66 := Keep.mk (H6.out.setRow ee)
  have g_w6 : Keep (Grown w5 (w5.setRow b6 ee) fun k => k = b6) := ⟨Grown.setRow w5 b6 _ fun _ => rfl⟩
  clear H6
  generalize w5.setRow b6 ee = w6 at *
  have H46 := Keep.mk (g_w6.out.blk H45.out (by have h1 := LT.out; have h2 := L6.out; omega))
  have H56 := Keep.mk (g_w6.out.blk H55.out (by have h2 := L6.out; omega))
  have B6 : Keep (Below w.heap.size w w6) := ⟨B5.out.trans (g_w6.out.to_below (fun k hk e => by have h1 := LT.out; have h2 := L6.out; omega) B5.out.size)⟩
  clear H45 H55 B5
  simp only [Act.put]
  refine WL.nil ?_
  refine hK5 _ _ ?_
  refine wp_seq_k fun K6 hK6 => ?_
  refine wp_region_list (WL.out ?_)
  refine WL.val (by kernel_rfl) (.pointer (some ⟨s, 0, none⟩)) (by go_simp) ?_
  simp only [Act.put, List.setIfInBounds_toArray, List.set_cons_zero, List.set_cons_succ]
  refine WL.row (by kernel_rfl) 55 (.tmp 6) rfl b6 rfl 55 ee _ H66.out Tryz.underlying55 rfl E1.out ?_
  simp only [Act.put, List.setIfInBounds_toArray, List.set_cons_zero, List.set_cons_succ]
  refine WL.callF (by kernel_rfl) 15 _ _ rfl Tryz.in15 #[.agg ee] (by simp [Act.eval]) ?_
  refine (vertex0 x0.f 1 1 pa pc (.slice qa 0 qc) ee hee w6).mono ?_
  rintro e w7 ⟨bp, rfl, _, hb⟩
  refine ⟨_, rfl, ?_⟩
  have B7 : Keep (Below w.heap.size w w7) := ⟨B6.out.trans (hb.mono B6.out.size)⟩
  have H47 := Keep.mk (H46.out.below hb H46.out.lt)
  have H57 := Keep.mk (H56.out.below hb H56.out.lt)
  have HS7 := Keep.mk (HS.out.below B7.out)
  clear hb H46 H56 B6 H66
  obtain ⟨vv, hvv⟩ : ∃ a : Array Value, Keep (a = vtx x0.f 1 (.slice (some ⟨bp, 0, none⟩) 0 0)) := ⟨_, ⟨rfl⟩⟩
  rw [← hvv.out]
  simp only [Act.put, List.setIfInBounds_toArray, List.set_cons_zero, List.set_cons_succ]
  refine WL.val (by kernel_rfl) (.slice (some ad) 5 c) (by go_simp) ?_
  simp only [Act.put, List.setIfInBounds_toArray, List.set_cons_zero, List.set_cons_succ]
  refine WL.callF (by kernel_rfl) 14 _ _ rfl Tryz.in14 #[.pointer (some ⟨s, 0, none⟩), .agg vv, .slice (some ad) 5 c] (by simp [Act.eval]) ?_
  refine (place_known s d mb g Av w7 HS7 x0 bp vv hvv ad 5 c Hf ⟨.inr Hh.out⟩).mono ?_
  rintro e w8 ⟨rfl, hb⟩
  refine ⟨_, rfl, ?_⟩
  have G8 : Keep (Grown w w8 fun k => k = mb ∨ DgS d g k) := ⟨Grown.below (B7.out.trans (hb.mono B7.out.size))⟩
  have B8 : Keep (Below w.heap.size w w8) := ⟨B7.out.trans (hb.mono B7.out.size)⟩
  have H48 := Keep.mk (H47.out.below hb H47.out.lt)
  have H58 := Keep.mk (H57.out.below hb H57.out.lt)
  clear hb H47 H57 B7 HS7
  simp only [Act.put, List.setIfInBounds_toArray, List.set_cons_zero, List.set_cons_succ]
  refine WL.storeR (by kernel_rfl) 27 (.tmp 4) (.tmp 23) rfl g4 #[.int .i64 1, .slice none 0 0, .slice none 0 0] rfl rfl 27 #[.int .i64 0, .slice none 0 0, .slice none 0 0] H48.out (by kernel_rfl) rfl (by simp [Value.oneCell']) ?_
  have H49 := Keep.mk (H48.out.setRow #[.int .i64 1, .slice none 0 0, .slice none 0 0])
  have g_w9 : Keep (Grown w8 (w8.setRow g4 #[.int .i64 1, .slice none 0 0, .slice none 0 0]) fun k => k = g4) := ⟨Grown.setRow w8 g4 _ fun _ => rfl⟩
  clear H48
  generalize w8.setRow g4 #[.int .i64 1, .slice none 0 0, .slice none 0 0] = w9 at *
  have H59 := Keep.mk (g_w9.out.blk H58.out (by have h1 := LT.out; omega))
  have c0 := H59.out.c 0 rfl
  have f0 := H59.out.frozen 0
  clear H58
  simp only [Act.put]
  refine WL.cell (by kernel_rfl) (w9.setCell ⟨g5, 0, none⟩ .nilIface) (by go_simp) ?_
  have H5a := Keep.mk (H59.out.set 0 .nilIface)
  have g_wa : Keep (Grown w9 (w9.setCell ⟨g5, 0, none⟩ .nilIface) fun k => k = g5) := ⟨Grown.setCell w9 g5 0 _ fun _ => rfl⟩
  have H4a := Keep.mk (g_wa.out.blk H49.out (by have h1 := LT.out; omega))
  clear c0 f0 H59 H49
  generalize w9.setCell ⟨g5, 0, none⟩ .nilIface = wa at *
  simp only [Act.put]
  refine WL.nil ?_
  refine hK6 _ _ ?_
  refine wp_ret ?_
  try simp only [Exit.inBlock, Exit.then]
  refine leaves_cons (f := 10) (args := #[ptr g4, ptr g5]) (by simp) (by simp [go_sem, ptr]) ?_
  refine (tcatch_idle g4 g5 wa).mono ?_
  rintro e u' wb ⟨rfl, rfl, rfl⟩
  simp only [settle]
  refine ⟨.tuple #[.agg #[.int .i64 1, .slice none 0 0, .slice none 0 0], .nilIface], tresults_cells _ _ g4 g5 _ _ rfl rfl H4a.out H5a.out rfl, ?_⟩
  have g89 : Grown w8 wb (fun k => k = g4 ∨ k = g5) := (g_w9.out.mono fun k _ e => .inl e).trans (g_wa.out.mono fun k _ e => .inr e)
  exact ⟨rfl, B8.out.trans (g89.to_below (fun k hk e => by have := LT.out; omega) B8.out.size)⟩
set_option maxRecDepth 8000 in
set_option maxHeartbeats 2000000 in
theorem take_took (s d mb : Nat) (g : DG) (Av : Nat → Prop) (w : World) (HS : Keep (ShAt w s d mb g Av)) (ad : Addr) (c : Nat) (HR : Keep (RowAt w (.slice (some ad) 5 c) [1, 1, 1, 0, 0])) (HM : Keep (w.heap[mb]? = some (.map #[] 0))) (Hg : Keep (g.held = [] ∧ g.wait = [] ∧ g.heads = [] ∧ g.order = [] ∧ g.queue = [])) : Calls Tryz.prog 6 #[.pointer (some ⟨s, 0, none⟩), .slice (some ad) 5 c] w fun e w' => ∃ gx, e = .returned (.tuple #[.agg #[.int .i64 2, .slice (some ⟨gx, 0, none⟩) 1 1, .slice none 0 0], .nilIface]) ∧ ∃ g' Av', ShAt w' s d mb g' Av' ∧ g'.held = [⟨x0, 1, []⟩] ∧ g'.wait = [] ∧ g'.queue = [] ∧ g'.order = [x0] ∧ (∃ B, MB w' mb x0 [1, 1, 1, 0, 0] B) ∧ Grown w w' fun k => k = mb ∨ DgS d g k := by
  have hmf : ∀ (fn : Fn) (first cap : Array Value) (w : World), (Instr.makeFunc fn first cap).run Tryz.prog w = .ok (.func fn first cap) w := fun _ _ _ _ => rfl
  go_enter_defers Tryz.func6, Tryz.ntmps6
  refine wp_seq_k fun K1 hK1 => ?_
  refine wp_region_list (WL.out ?_)
  refine WL.new (by kernel_rfl) 27 rfl _ Tryz.new27 ?_
  have H4 := Keep.mk (Blk.new w 27 #[.int .i64 0, .slice none 0 0, .slice none 0 0])
  have b_g4 := Keep.mk (below_new w (.cells #[.int .i64 0, .slice none 0 0, .slice none 0 0] 27))
  generalize w.alloc (.cells #[.int .i64 0, .slice none 0 0, .slice none 0 0] 27) = w1 at *
  obtain ⟨g4, hg4⟩ : ∃ z, Keep (z = w.heap.size) := ⟨_, ⟨rfl⟩⟩
  rw [← hg4.out] at H4 ⊢
  simp only [Act.put, List.setIfInBounds_toArray, List.set_cons_zero, List.set_cons_succ]
  refine WL.new (by kernel_rfl) 29 rfl _ Nd.Tryz.new29 ?_
  have H5 := Keep.mk (Blk.new w1 29 #[.nilIface])
  have b_g5 := Keep.mk (below_new w1 (.cells #[.nilIface] 29))
  generalize w1.alloc (.cells #[.nilIface] 29) = w2 at *
  obtain ⟨g5, hg5⟩ : ∃ z, Keep (z = w1.heap.size) := ⟨_, ⟨rfl⟩⟩
  rw [← hg5.out] at H5 ⊢
  have H42 := Keep.mk (H4.out.below b_g5.out H4.out.lt)
  have B2 : Keep (Below w.heap.size w w2) := ⟨b_g4.out.trans (b_g5.out.mono b_g4.out.size)⟩
  have LT : Keep (w.heap.size ≤ g4 ∧ g4 < g5) := ⟨by
    have h1 := hg4.out
    have h2 := hg5.out
    have h3 := H4.out.lt
    exact ⟨by omega, by omega⟩⟩
  clear H4 b_g4 b_g5
  simp only [Act.put, List.setIfInBounds_toArray, List.set_cons_zero, List.set_cons_succ]
  refine WL.nil ?_
  refine hK1 _ _ ?_
  refine wp_seq_k fun K2 hK2 => ?_
  refine wp_region_list (WL.out ?_)
  refine WL.val (by kernel_rfl) (.func (.func 10) #[] #[.pointer (some ⟨g4, 0, none⟩), .pointer (some ⟨g5, 0, none⟩)]) (by go_simp) ?_
  simp only [Act.put, List.setIfInBounds_toArray, List.set_cons_zero, List.set_cons_succ]
  refine WL.defer (by kernel_rfl) { target := .fn (.func 10) #[.pointer (some ⟨g4, 0, none⟩), .pointer (some ⟨g5, 0, none⟩)], args := #[] } (by go_simp) ?_
  clear hmf
  simp only [Act.put]
  refine WL.nil ?_
  refine hK2 _ _ ?_
  refine wp_seq_k fun K3 hK3 => ?_
  refine wp_seq_k fun K4 hK4 => ?_
  refine wp_region_list (WL.out ?_)
  refine WL.val (by kernel_rfl) (.pointer (some ⟨s, 0, none⟩)) (by go_simp) ?_
  simp only [Act.put, List.setIfInBounds_toArray, List.set_cons_zero, List.set_cons_succ]
  refine WL.val (by kernel_rfl) (.pointer (some ⟨s, 0, none⟩)) (by go_simp) ?_
  simp only [Act.put, List.setIfInBounds_toArray, List.set_cons_zero, List.set_cons_succ]
  refine WL.val (by kernel_rfl) (.pointer (some ⟨s, 3, none⟩)) (by go_simp) ?_
  simp only [Act.put, List.setIfInBounds_toArray, List.set_cons_zero, List.set_cons_succ]
  have cS : w2.cell? ⟨s, 3, none⟩ = some (.bool false) := (HS.out.below B2.out).bl.c 3 rfl
  refine WL.val (by kernel_rfl) (.bool false) (by go_simp) ?_
  clear cS
  simp only [Act.put, List.setIfInBounds_toArray, List.set_cons_zero, List.set_cons_succ]
  refine WL.nil ?_
  refine hK4 _ _ ?_
  refine wp_cond_false rfl ?_
  refine wp_skip ?_
  refine hK3 _ _ ?_
  refine wp_seq_k fun K5 hK5 => ?_
  refine wp_region_list (WL.out ?_)
  refine WL.val (by kernel_rfl) (.slice (some ad) 5 c) (by go_simp) ?_
  simp only [Act.put, List.setIfInBounds_toArray, List.set_cons_zero, List.set_cons_succ]
  refine WL.callF (by kernel_rfl) 13 _ _ rfl Tryz.in13 #[.slice (some ad) 5 c] (by simp [Act.eval]) ?_
  refine (entry_one w2 ad c (HR.out.below B2.out)).mono ?_
  rintro e w3 ⟨pa, pc, qa, qc, rfl, hb⟩
  refine ⟨_, rfl, ?_⟩
  have B3 : Keep (Below w.heap.size w w3) := ⟨B2.out.trans (hb.mono B2.out.size)⟩
  have H43 := Keep.mk (H42.out.below hb H42.out.lt)
  have H53 := Keep.mk (H5.out.below hb H5.out.lt)
  clear hb H42 H5 B2
  obtain ⟨ee, hee⟩ : ∃ a : Array Value, Keep (a = enE x0.f 1 1 (.slice pa 0 pc) (.slice qa 0 qc)) := ⟨_, ⟨rfl⟩⟩
  rw [← hee.out]
  have e1 : (Tryz.prog.info? 55).map (·.size) = some ee.size := by rw [hee.out]; exact Nd.Tryz.size55B _ _ _ _ _
  have e2 : ee.all (·.oneCell') = true := by rw [hee.out]; exact Nd.enA_one _ 1 1 pa 0 pc qa 0 qc
  have e3 : ee.size = 36 := by rw [hee.out]; exact Nd.enA_size _ _ _ _ _
  have E1 := Keep.mk e1
  have E2 := Keep.mk e2
  have E3 := Keep.mk e3
  clear e1 e2 e3
  simp only [Act.put, List.setIfInBounds_toArray, List.set_cons_zero, List.set_cons_succ]
  refine WL.val (by kernel_rfl) (.agg ee) (by go_simp) ?_
  simp only [Act.put, List.setIfInBounds_toArray, List.set_cons_zero, List.set_cons_succ]
  refine WL.val (by kernel_rfl) (.nilIface) (by go_simp) ?_
  simp only [Act.put, List.setIfInBounds_toArray, List.set_cons_zero, List.set_cons_succ]
  refine WL.callF (by kernel_rfl) 12 _ _ rfl Tryz.in12 #[.agg ee, .nilIface] (by simp [Act.eval]) ?_
  refine (must12_ok ee w3 E1.out E2.out E3.out).mono ?_
  rintro e w4 ⟨rfl, hb⟩
  refine ⟨_, rfl, ?_⟩
  have B4 : Keep (Below w.heap.size w w4) := ⟨B3.out.trans (hb.mono B3.out.size)⟩
  have H44 := Keep.mk (H43.out.below hb H43.out.lt)
  have H54 := Keep.mk (H53.out.below hb H53.out.lt)
  clear hb H43 H53 B3
  simp only [Act.put, List.setIfInBounds_toArray, List.set_cons_zero, List.set_cons_succ]
  refine WL.new (by kernel_rfl) 55 rfl _ Nd.Tryz.new55 ?_
  have H6 := Keep.mk (Blk.new w4 55 Nd.zEn)
  have b_b6 := Keep.mk (below_new w4 (.cells Nd.zEn 55))
  generalize w4.alloc (.cells Nd.zEn 55) = w5 at *
  obtain ⟨b6, hb6⟩ : ∃ z, Keep (z = w4.heap.size) := ⟨_, ⟨rfl⟩⟩
  rw [← hb6.out] at H6 ⊢
  have H45 := Keep.mk (H44.out.below b_b6.out H44.out.lt)
  have H55 := Keep.mk (H54.out.below b_b6.out H54.out.lt)
  have B5 : Keep (Below w.heap.size w w5) := ⟨B4.out.trans (b_b6.out.mono B4.out.size)⟩
  have L6 : Keep (g5 < b6) := ⟨by have h1 := hb6.out; have h2 := H54.out.lt; omega⟩
  clear H44 H54 b_b6 B4
  simp only [Act.put, List.setIfInBounds_toArray, List.set_cons_zero, List.set_cons_succ]
  refine WL.storeR (by kernel_rfl) 55 (.tmp 6) (.tmp 18) rfl b6 ee rfl rfl 55 Nd.zEn H6.out E1.out (by rw [E3.out, Nd.zEn_size]) E2.out ?_
  have H66 := Keep.mk (H6.out.setRow ee)
  have g_w6 : Keep (Grown w5 (w5.setRow b6 ee) fun k => k = b6) := ⟨Grown.setRow w5 b6 _ fun _ => rfl⟩
  clear H6
  generalize w5.setRow b6 ee = w6 at *
  have H46 := Keep.mk (g_w6.out.blk H45.out (by have h1 := LT.out; have h2 := L6.out; omega))
  have H56 := Keep.mk (g_w6.out.blk H55.out (by have h2 := L6.out; omega))
  have B6 : Keep (Below w.heap.size w w6) := ⟨B5.out.trans (g_w6.out.to_below (fun k hk e => by have h1 := LT.out; have h2 := L6.out; omega) B5.out.size)⟩
  clear H45 H55 B5
  simp only [Act.put]
  refine WL.nil ?_
  refine hK5 _ _ ?_
  refine wp_seq_k fun K6 hK6 => ?_
  refine wp_region_list (WL.out ?_)
  refine WL.val (by kernel_rfl) (.pointer (some ⟨s, 0, none⟩)) (by go_simp) ?_
  simp only [Act.put, List.setIfInBounds_toArray, List.set_cons_zero, List.set_cons_succ]
  refine WL.row (by kernel_rfl) 55 (.tmp 6) rfl b6 rfl 55 ee _ H66.out Tryz.underlying55 rfl E1.out ?_
  simp only [Act.put, List.setIfInBounds_toArray, List.set_cons_zero, List.set_cons_succ]
  refine WL.callF (by kernel_rfl) 15 _ _ rfl Tryz.in15 #[.agg ee] (by simp [Act.eval]) ?_
  refine (vertex0 x0.f 1 1 pa pc (.slice qa 0 qc) ee hee w6).mono ?_
  rintro e w7 ⟨bp, rfl, _, hb⟩
  refine ⟨_, rfl, ?_⟩
  have B7 : Keep (Below w.heap.size w w7) := ⟨B6.out.trans (hb.mono B6.out.size)⟩
  have H47 := Keep.mk (H46.out.below hb H46.out.lt)
  have H57 := Keep.mk (H56.out.below hb H56.out.lt)
  have HS7 := Keep.mk (HS.out.below B7.out)
  clear hb H46 H56 B6 H66
  obtain ⟨vv, hvv⟩ : ∃ a : Array Value, Keep (a = vtx x0.f 1 (.slice (some ⟨bp, 0, none⟩) 0 0)) := ⟨_, ⟨rfl⟩⟩
  rw [← hvv.out]
  simp only [Act.put, List.setIfInBounds_toArray, List.set_cons_zero, List.set_cons_succ]
  refine WL.val (by kernel_rfl) (.slice (some ad) 5 c) (by go_simp) ?_
  simp only [Act.put, List.setIfInBounds_toArray, List.set_cons_zero, List.set_cons_succ]
  refine WL.callF (by kernel_rfl) 14 _ _ rfl Tryz.in14 #[.pointer (some ⟨s, 0, none⟩), .agg vv, .slice (some ad) 5 c] (by simp [Act.eval]) ?_
  refine (place_took s d mb g Av w7 HS7 x0 bp vv hvv ad 5 c [1, 1, 1, 0, 0] ⟨HR.out.below B7.out⟩ ⟨by decide⟩ ⟨by rw [B7.out.block mb (Array.getElem?_eq_some_iff.1 HM.out).1]; exact HM.out⟩ Hg ⟨by rw [Hg.out.1, Hg.out.2.1]; exact fit_first x0⟩ ⟨.inl Hg.out.1⟩).mono ?_
  rintro e w8 ⟨gx, rfl, g', Av', k1, k2, k3, k4, kmb, k5, k6⟩
  refine ⟨_, rfl, ?_⟩
  have HS8 := Keep.mk k1
  have HB8 : Keep (MB w8 mb x0 [1, 1, 1, 0, 0] w7.heap.size) := ⟨kmb.2⟩
  have HOr := Keep.mk kmb.1
  have L47 : Keep (g4 < w7.heap.size ∧ g5 < w7.heap.size) := ⟨H47.out.lt, H57.out.lt⟩
  clear kmb
  have HG' := Keep.mk (And.intro k2 (And.intro k3 k4))
  have nn : ∀ j, w.heap.size ≤ j → j < w7.heap.size → ¬ (j = mb ∨ DgS d g j) ∧ ¬ DgS d g' j := fun j h1 h2 => by
    have lm := (Array.getElem?_eq_some_iff.1 HM.out).1
    have a1 : ¬ DgS d g j := fun e => by have := HS.out.dg.lt j (HS.out.dg.av j e); omega
    exact ⟨fun e => e.elim (fun e => by omega) a1, fun e => (k5 j e).elim a1 (fun e => by omega)⟩
  have N4 := Keep.mk (nn g4 LT.out.1 H47.out.lt)
  have N5 := Keep.mk (nn g5 (by have := LT.out; omega) H57.out.lt)
  have H48 := Keep.mk (k6.blk H47.out N4.out.1)
  have H58 := Keep.mk (k6.blk H57.out N5.out.1)
  have G8 : Keep (Grown w w8 fun k => k = mb ∨ DgS d g k) := ⟨(Grown.below B7.out).trans k6⟩
  clear k1 k2 k3 k4 k5 k6 nn H47 H57 B7 HS7
  simp only [Act.put, List.setIfInBounds_toArray, List.set_cons_zero, List.set_cons_succ]
  refine WL.storeR (by kernel_rfl) 27 (.tmp 4) (.tmp 23) rfl g4 #[.int .i64 2, .slice (some ⟨gx, 0, none⟩) 1 1, .slice none 0 0] rfl rfl 27 #[.int .i64 0, .slice none 0 0, .slice none 0 0] H48.out (by kernel_rfl) rfl (by simp [Value.oneCell']) ?_
  have H49 := Keep.mk (H48.out.setRow #[.int .i64 2, .slice (some ⟨gx, 0, none⟩) 1 1, .slice none 0 0])
  have g_w9 : Keep (Grown w8 (w8.setRow g4 #[.int .i64 2, .slice (some ⟨gx, 0, none⟩) 1 1, .slice none 0 0]) fun k => k = g4) := ⟨Grown.setRow w8 g4 _ fun _ => rfl⟩
  clear H48
  generalize w8.setRow g4 #[.int .i64 2, .slice (some ⟨gx, 0, none⟩) 1 1, .slice none 0 0] = w9 at *
  have H59 := Keep.mk (g_w9.out.blk H58.out (by have h1 := LT.out; omega))
  have c0 := H59.out.c 0 rfl
  have f0 := H59.out.frozen 0
  clear H58
  simp only [Act.put]
  refine WL.cell (by kernel_rfl) (w9.setCell ⟨g5, 0, none⟩ .nilIface) (by go_simp) ?_
  have H5a := Keep.mk (H59.out.set 0 .nilIface)
  have g_wa : Keep (Grown w9 (w9.setCell ⟨g5, 0, none⟩ .nilIface) fun k => k = g5) := ⟨Grown.setCell w9 g5 0 _ fun _ => rfl⟩
  have H4a := Keep.mk (g_wa.out.blk H49.out (by have h1 := LT.out; omega))
  clear c0 f0 H59 H49
  generalize w9.setCell ⟨g5, 0, none⟩ .nilIface = wa at *
  simp only [Act.put]
  refine WL.nil ?_
  refine hK6 _ _ ?_
  refine wp_ret ?_
  try simp only [Exit.inBlock, Exit.then]
  refine leaves_cons (f := 10) (args := #[ptr g4, ptr g5]) (by simp) (by simp [go_sem, ptr]) ?_
  refine (tcatch_idle g4 g5 wa).mono ?_
  rintro e u' wb ⟨rfl, rfl, rfl⟩
  simp only [settle]
  refine ⟨.tuple #[.agg #[.int .i64 2, .slice (some ⟨gx, 0, none⟩) 1 1, .slice none 0 0], .nilIface], tresults_cells _ _ g4 g5 _ _ rfl rfl H4a.out H5a.out rfl, ?_⟩
  have g89 : Grown w8 wb (fun k => k = g4 ∨ k = g5) := (g_w9.out.mono fun k _ e => .inl e).trans (g_wa.out.mono fun k _ e => .inr e)
  exact ⟨gx, rfl, g', Av', HS8.out.keep1 HG'.out.1 HG'.out.2.1 g89 (fun k e => by
    rcases e with e | e <;> subst e
    · exact ⟨fun e => by have := HS.out.bl.lt; have := LT.out; omega, fun e => N4.out.1 (.inl e), N4.out.2⟩
    · exact ⟨fun e => by have := HS.out.bl.lt; have := LT.out; omega, fun e => N5.out.1 (.inl e), N5.out.2⟩), HG'.out.1, HG'.out.2.1, HG'.out.2.2, HOr.out, ⟨w7.heap.size, HB8.out.keep g89 (fun e => by have h1 := (Array.getElem?_eq_some_iff.1 HM.out).1; have := LT.out; rcases e with e | e <;> omega) (fun k e => by have := L47.out; rcases e with e | e <;> omega)⟩, G8.out.next g89 fun k hk e => by have := LT.out; exfalso; omega⟩

theorem order_any (d : Nat) (Av : Nat → Prop) (g : DG) (w : World) (hD : DagAt w Av d g) (hL : g.order.length ≤ 4398046511104) : Calls Tryz.prog 37 #[ptr d] w fun e w' => ∃ v', e = .returned v' ∧ Fresh w w' v' g.order := by
  obtain ⟨xa, xc, hx⟩ := hD.oo.sl
  have Hx := Keep.mk hx
  have HD := Keep.mk hD
  have HL := Keep.mk hL
  clear hD hL hx
  go_enter Tryz.func37, Tryz.ntmps37
  have cl : w.cell? ⟨d, 3, none⟩ = some (.slice xa g.order.length xc) := by have h := HD.out.blk.c 3 (by rfl : (dgA g)[3]? = some g.ov); rw [Hx.out] at h; exact h
  refine wp_seq_k fun K1 hK1 => ?_
  refine wp_region_list (WL.out ?_)
  refine WL.val (by kernel_rfl) (.slice none 0 0) (by go_simp) ?_
  simp only [Act.put, List.setIfInBounds_toArray, List.set_cons_zero, List.set_cons_succ]
  refine WL.nil ?_
  refine hK1 _ _ ?_
  refine wp_seq_k fun K2 hK2 => ?_
  refine wp_region_list (WL.out ?_)
  refine WL.val (by kernel_rfl) (.pointer (some ⟨d, 0, none⟩)) (by go_simp) ?_
  simp only [Act.put, List.setIfInBounds_toArray, List.set_cons_zero, List.set_cons_succ]
  refine WL.val (by kernel_rfl) (.pointer (some ⟨d, 0, none⟩)) (by go_simp) ?_
  simp only [Act.put, List.setIfInBounds_toArray, List.set_cons_zero, List.set_cons_succ]
  refine WL.val (by kernel_rfl) (.pointer (some ⟨d, 3, none⟩)) (by go_simp) ?_
  simp only [Act.put, List.setIfInBounds_toArray, List.set_cons_zero, List.set_cons_succ]
  refine WL.val (by kernel_rfl) (.slice xa g.order.length xc) (by go_simp) ?_
  simp only [Act.put, List.setIfInBounds_toArray, List.set_cons_zero, List.set_cons_succ]
  clear cl
  refine WL.callF (by kernel_rfl) 65 _ _ rfl Tryz.in65 #[.slice xa g.order.length xc] (by simp [Act.eval]) ?_
  refine (clone_any _ g.order w (Hx.out ▸ HD.out.oo.row) HL.out).mono ?_
  rintro e w1 ⟨v1, rfl, hf⟩
  refine ⟨_, rfl, ?_⟩
  have HF := Keep.mk hf
  clear hf
  simp only [Act.put, List.setIfInBounds_toArray, List.set_cons_zero, List.set_cons_succ]
  refine WL.val (by kernel_rfl) (v1) (by go_simp) ?_
  simp only [Act.put, List.setIfInBounds_toArray, List.set_cons_zero, List.set_cons_succ]
  refine WL.nil ?_
  refine hK2 _ _ ?_
  refine wp_ret ?_
  go_ret
  exact ⟨_, rfl, HF.out⟩
theorem Tryz.in20 (w : World) (vs : Array Value) : (callFunc 20 vs).run Tryz.prog w = .ok (.enter 20 vs) w := by kernel_rfl
theorem Tryz.in38 (w : World) (vs : Array Value) : (callFunc 38 vs).run Tryz.prog w = .ok (.enter 38 vs) w := by kernel_rfl
theorem Tryz.in21 (w : World) (vs : Array Value) : (callFunc 21 vs).run Tryz.prog w = .ok (.enter 21 vs) w := by kernel_rfl
theorem Tryz.in37 (w : World) (vs : Array Value) : (callFunc 37 vs).run Tryz.prog w = .ok (.enter 37 vs) w := by kernel_rfl
theorem look45 {w : World} {mb : Nat} {x : Hs} {u : Value} (h : w.heap[mb]? = some (.map #[⟨.agg (bytesA 32 x.f), u, 0⟩] 1)) : (Instr.lookup 45 (.map (some mb)) (.agg (bytesA 32 x.f)) false).run Tryz.prog w = .ok u w := by
  have hk : (Instr.findAsking 50 (.agg (bytesA 32 x.f)) [⟨.agg (bytesA 32 x.f), u, 0⟩] 0).run Tryz.prog w = .ok (some (0, u)) w := by
    rw [Instr.findAsking, Sem.run_bind, Op_equal, Result.andThen_ok]
    simp
  simp [Instr.lookup, run_underlying Tryz.underlying45, MapKept.run_getObj_map h, Tryz.chk, findKey_eq, hk, Result.andThen]
theorem yieldsIf_l45 {ops : Array Oper} {S : World → Prop} {op : Oper} {a : Act} (hw : Region.wanted op (yielded ops a.tmps) = true) (m k : Operand) (ho : op.op = .lookup 45 m k false) (b : Nat) (x : Nat → Int) (hm : a.eval m = .map (some b)) (hk : a.eval k = .agg (bytesA 32 x)) (v : Value)
    (hr : ∀ w, S w → (Instr.lookup 45 (.map (some b)) (.agg (bytesA 32 x)) false).run Tryz.prog w = .ok v w) : YieldsIf Tryz.prog ops S op v a :=
  .inl ⟨hw, fun w hS => by unfold execOp; simp only [ho, hm, hk, Sem.run_bind, hr w hS, Result.andThen_ok, Sem.run_pure]⟩
set_option maxRecDepth 8000 in
theorem sorder (s d mb : Nat) (g : DG) (Av : Nat → Prop) (w : World) (HS : Keep (ShAt w s d mb g Av)) (x : Hs) (HO : Keep (g.order = [x])) : Calls Tryz.prog 20 #[.pointer (some ⟨s, 0, none⟩)] w fun e w' => ∃ v', e = .returned v' ∧ Fresh w w' v' [x] := by
  go_enter Tryz.func20, Tryz.ntmps20
  refine wp_seq_k fun K1 hK1 => ?_
  refine wp_region_list (WL.out ?_)
  refine WL.val (by kernel_rfl) (.slice none 0 0) (by go_simp) ?_
  simp only [Act.put, List.setIfInBounds_toArray, List.set_cons_zero, List.set_cons_succ]
  refine WL.nil ?_
  refine hK1 _ _ ?_
  refine wp_seq_k fun K2 hK2 => ?_
  refine wp_region_list (WL.out ?_)
  refine WL.val (by kernel_rfl) (.pointer (some ⟨s, 0, none⟩)) (by go_simp) ?_
  simp only [Act.put, List.setIfInBounds_toArray, List.set_cons_zero, List.set_cons_succ]
  refine WL.val (by kernel_rfl) (.pointer (some ⟨s, 0, none⟩)) (by go_simp) ?_
  simp only [Act.put, List.setIfInBounds_toArray, List.set_cons_zero, List.set_cons_succ]
  refine WL.val (by kernel_rfl) (.pointer (some ⟨s, 1, none⟩)) (by go_simp) ?_
  simp only [Act.put, List.setIfInBounds_toArray, List.set_cons_zero, List.set_cons_succ]
  have cs := HS.out.bl.c 1 rfl
  refine WL.val (by kernel_rfl) (.pointer (some ⟨d, 0, none⟩)) (by go_simp) ?_
  clear cs
  simp only [Act.put, List.setIfInBounds_toArray, List.set_cons_zero, List.set_cons_succ]
  refine WL.callF (by kernel_rfl) 37 _ _ rfl Tryz.in37 #[.pointer (some ⟨d, 0, none⟩)] (by simp [Act.eval]) ?_
  refine (order_any d Av g w HS.out.dg (by rw [HO.out]; simp)).mono ?_
  rintro e w1 ⟨v', rfl, hf⟩
  refine ⟨_, rfl, ?_⟩
  have HF := Keep.mk hf
  clear hf
  simp only [Act.put, List.setIfInBounds_toArray, List.set_cons_zero, List.set_cons_succ]
  refine WL.val (by kernel_rfl) (v') (by go_simp) ?_
  simp only [Act.put, List.setIfInBounds_toArray, List.set_cons_zero, List.set_cons_succ]
  refine WL.nil ?_
  refine hK2 _ _ ?_
  refine wp_ret ?_
  go_ret
  rw [HO.out] at HF
  exact ⟨v', rfl, HF.out⟩
theorem has_vv (d : Nat) (x : Hs) (Av : Nat → Prop) (g : DG) (w : World) (hD : DagAt w Av d g) (h : g.held = [⟨x, 1, []⟩]) : Calls Tryz.prog 57 #[ptr d, .agg (bytesA 32 x.f)] w fun e w' => e = .returned (.bool true) ∧ Below w.heap.size w w' := by
  have h2 := has_any d x Av g w hD
  rw [h] at h2
  simpa [isV] using h2
set_option maxRecDepth 8000 in
theorem shas (s d mb : Nat) (g : DG) (Av : Nat → Prop) (w : World) (HS : Keep (ShAt w s d mb g Av)) (x : Hs) (HH : Keep (g.held = [⟨x, 1, []⟩])) : Calls Tryz.prog 38 #[.pointer (some ⟨s, 0, none⟩), .agg (bytesA 32 x.f)] w fun e w' => e = .returned (.bool true) ∧ Below w.heap.size w w' := by
  go_enter Tryz.func38, Tryz.ntmps38
  refine wp_seq_k fun K1 hK1 => ?_
  refine wp_region_list (WL.out ?_)
  refine WL.box (by kernel_rfl) 50 (.tmp 1) rfl (bytesA 32 x.f) rfl ?_
  have H3 := Keep.mk (Blk.new w 50 (bytesA 32 x.f))
  have b_b3 := Keep.mk (below_new w (.cells (bytesA 32 x.f) 50))
  change WL _ _ _ _ _ (w.alloc (.cells (bytesA 32 x.f) 50))
  generalize w.alloc (.cells (bytesA 32 x.f) 50) = w1 at *
  obtain ⟨b3, hb3⟩ : ∃ z, Keep (z = w.heap.size) := ⟨_, ⟨rfl⟩⟩
  rw [← hb3.out] at H3 ⊢
  have HS1 := Keep.mk (HS.out.below b_b3.out)
  simp only [Act.put, List.setIfInBounds_toArray, List.set_cons_zero, List.set_cons_succ]
  refine WL.val (by kernel_rfl) (.bool false) (by go_simp) ?_
  simp only [Act.put, List.setIfInBounds_toArray, List.set_cons_zero, List.set_cons_succ]
  refine WL.nil ?_
  refine hK1 _ _ ?_
  refine wp_seq_k fun K2 hK2 => ?_
  refine wp_region_held_drew (S := fun wx => wx.cell? ⟨s, 1, none⟩ = some (.pointer (some ⟨d, 0, none⟩)) ∧ Blk wx b3 50 (bytesA 32 x.f)) (by kernel_rfl) (⟨HS1.out.bl.drew.c 1 rfl, H3.out.drew⟩) (fun hHeld => ?_)
  have HS2 := Keep.mk (HS1.out.below (Below.refl w1.heap.size w1).drew)
  have H32 := Keep.mk H3.out.drew
  have B2 : Keep (Below w.heap.size w w1.drew) := ⟨b_b3.out.drew⟩
  clear HS1 H3 b_b3
  generalize w1.drew = w2 at *
  refine wpAnyH_take (i := 0) (oi := ⟨some 5, Op.move (Operand.tmp 0), 23, _, _, none⟩) (v := .pointer (some ⟨s, 0, none⟩)) rfl (by kernel_rfl) (by kernel_rfl) (by kernel_rfl) (fun _ _ _ h => h) (Or.inl ⟨by rfl, fun w hS => by have cS := hS.1; go_simp⟩) hHeld ?_
  simp only [Act.put, List.setIfInBounds_toArray, List.set_cons_zero, List.set_cons_succ]
  refine wpAnyH_take (i := 1) (oi := ⟨some 6, Op.nilCheck (Operand.tmp 5), 0, _, _, none⟩) (v := .pointer (some ⟨s, 0, none⟩)) rfl (by kernel_rfl) (by kernel_rfl) (by kernel_rfl) (fun _ _ _ h => h) (Or.inl ⟨by rfl, fun w hS => by have cS := hS.1; go_simp⟩) hHeld ?_
  simp only [Act.put, List.setIfInBounds_toArray, List.set_cons_zero, List.set_cons_succ]
  refine wpAnyH_take (i := 2) (oi := ⟨some 7, Op.fieldAddr 47 (Operand.tmp 6) 1, 0, _, _, none⟩) (v := .pointer (some ⟨s, 1, none⟩)) rfl (by kernel_rfl) (by kernel_rfl) (by kernel_rfl) (fun _ _ _ h => h) (Or.inl ⟨by rfl, fun w hS => by have cS := hS.1; go_simp⟩) hHeld ?_
  simp only [Act.put, List.setIfInBounds_toArray, List.set_cons_zero, List.set_cons_succ]
  refine wpAnyH_take (i := 3) (oi := ⟨some 8, Op.load 41 (Operand.tmp 7), 41, _, _, none⟩) (v := .pointer (some ⟨d, 0, none⟩)) rfl (by kernel_rfl) (by kernel_rfl) (by kernel_rfl) (fun _ _ _ h => h) (Or.inl ⟨by rfl, fun w hS => by have cS := hS.1; go_simp⟩) hHeld ?_
  simp only [Act.put, List.setIfInBounds_toArray, List.set_cons_zero, List.set_cons_succ]
  refine wpAnyH_take (i := 4) (oi := ⟨some 9, Op.load 50 (Operand.tmp 3), 50, _, _, none⟩) (v := .agg (bytesA 32 x.f)) rfl (by kernel_rfl) (by kernel_rfl) (by kernel_rfl) (fun _ _ _ h => h) (yieldsIf_ld (by rfl) (Operand.tmp 3) 50 rfl b3 0 rfl (bytesA 32 x.f) _ Tryz.underlying50 rfl (size51E _) fun w hS => blk_range hS.2) hHeld ?_
  simp only [Act.put, List.setIfInBounds_toArray, List.set_cons_zero, List.set_cons_succ]
  refine wpAnyH_ready (rs := [5]) (by kernel_rfl) (by simp) ?_
  refine AllReadyH.cons (o := ⟨some 10, Op.call { callee := Callee.value (Operand.func 57), args := #[Operand.tmp 8, Operand.tmp 9], argTypes := #[41, 50] }, 4, _, _, none⟩) rfl (fun K hK => ?_) AllReadyH.nil
  rw [if_pos (by rfl)]
  refine wp_callF 57 _ _ rfl Tryz.in57 #[ptr d, .agg (bytesA 32 x.f)] (by simp [Act.eval]) (fun vz wz => vz = .bool true ∧ Below w2.heap.size w2 wz) ?_ ?_
  · refine (has_vv d x Av g w2 HS2.out.dg HH.out).mono ?_
    rintro e wz ⟨rfl, k1⟩
    exact ⟨_, rfl, rfl, k1⟩
  rintro vz w3 ⟨rfl, k1⟩
  have b3_ := Keep.mk k1
  clear k1
  refine hK _ _ (⟨(HS2.out.below b3_.out).bl.c 1 rfl, H32.out.below b3_.out H32.out.lt⟩) fun hHa => ?_
  clear hK
  simp only [Act.put, List.setIfInBounds_toArray, List.set_cons_zero, List.set_cons_succ]
  refine wpAnyH_take (i := 6) (oi := ⟨some 4, Op.assign (Operand.tmp 10), 4, _, _, none⟩) (v := .bool true) rfl (by kernel_rfl) (by kernel_rfl) (by kernel_rfl) (fun _ _ _ h => h) (Or.inl ⟨by rfl, fun w hS => by have cS := hS.1; go_simp⟩) hHa ?_
  simp only [Act.put, List.setIfInBounds_toArray, List.set_cons_zero, List.set_cons_succ]
  refine wpAnyH_done (by kernel_rfl) ?_ _
  refine hK2 _ _ ?_
  refine wp_ret ?_
  go_ret
  exact ⟨rfl, B2.out.trans (b3_.out.mono B2.out.size)⟩
set_option maxRecDepth 8000 in
set_option maxHeartbeats 1000000 in
theorem sblock_ (s d mb : Nat) (g : DG) (Av : Nat → Prop) (w : World) (HS : Keep (ShAt w s d mb g Av)) (x : Hs) (HH : Keep (g.held = [⟨x, 1, []⟩])) (ad : Addr) (n c : Nat) (l : List Int) (HM : Keep (w.heap[mb]? = some (.map #[⟨.agg (bytesA 32 x.f), .slice (some ad) n c, 0⟩] 1))) (HR : Keep (RowAt w (.slice (some ad) n c) l)) (HL : Keep (l.length ≤ 140737488355328)) : Calls Tryz.prog 21 #[.pointer (some ⟨s, 0, none⟩), .agg (bytesA 32 x.f)] w fun e w' => ∃ v, e = .returned (.tuple #[v, .int .i64 0]) ∧ Own w' v l ∧ (∀ k, v.ownBlock = some k → w.heap.size ≤ k) ∧ Below w.heap.size w w' := by
  go_enter Tryz.func21, Tryz.ntmps21
  refine wp_seq_k fun K1 hK1 => ?_
  refine wp_region_list (WL.out ?_)
  refine WL.box (by kernel_rfl) 50 (.tmp 1) rfl (bytesA 32 x.f) rfl ?_
  have H3 := Keep.mk (Blk.new w 50 (bytesA 32 x.f))
  have b_b3 := Keep.mk (below_new w (.cells (bytesA 32 x.f) 50))
  change WL _ _ _ _ _ (w.alloc (.cells (bytesA 32 x.f) 50))
  generalize w.alloc (.cells (bytesA 32 x.f) 50) = w1 at *
  obtain ⟨b3, hb3⟩ : ∃ z, Keep (z = w.heap.size) := ⟨_, ⟨rfl⟩⟩
  rw [← hb3.out] at H3 ⊢
  have HS1 := Keep.mk (HS.out.below b_b3.out)
  simp only [Act.put, List.setIfInBounds_toArray, List.set_cons_zero, List.set_cons_succ]
  refine WL.val (by kernel_rfl) (.slice none 0 0) (by go_simp) ?_
  simp only [Act.put, List.setIfInBounds_toArray, List.set_cons_zero, List.set_cons_succ]
  refine WL.val (by kernel_rfl) (.int .i64 0) (by go_simp) ?_
  simp only [Act.put, List.setIfInBounds_toArray, List.set_cons_zero, List.set_cons_succ]
  refine WL.nil ?_
  refine hK1 _ _ ?_
  refine wp_seq_k fun K2 hK2 => ?_
  refine wp_seq_k fun K3 hK3 => ?_
  refine wp_region_list (WL.out ?_)
  refine WL.val (by kernel_rfl) (.pointer (some ⟨s, 0, none⟩)) (by go_simp) ?_
  simp only [Act.put, List.setIfInBounds_toArray, List.set_cons_zero, List.set_cons_succ]
  refine WL.row (by kernel_rfl) 50 (.tmp 3) rfl b3 rfl 50 (bytesA 32 x.f) _ H3.out Tryz.underlying50 rfl (size51E _) ?_
  simp only [Act.put, List.setIfInBounds_toArray, List.set_cons_zero, List.set_cons_succ]
  refine WL.callF (by kernel_rfl) 38 _ _ rfl Tryz.in38 #[.pointer (some ⟨s, 0, none⟩), .agg (bytesA 32 x.f)] (by simp [Act.eval]) ?_
  refine (shas s d mb g Av w1 HS1 x HH).mono ?_
  rintro e w2 ⟨rfl, hb⟩
  refine ⟨_, rfl, ?_⟩
  have HS2 := Keep.mk (HS1.out.below hb)
  have H32 := Keep.mk (H3.out.below hb H3.out.lt)
  have B2 : Keep (Below w.heap.size w w2) := ⟨b_b3.out.trans (hb.mono b_b3.out.size)⟩
  clear hb HS1 H3 b_b3
  simp only [Act.put, List.setIfInBounds_toArray, List.set_cons_zero, List.set_cons_succ]
  refine WL.val (by kernel_rfl) (.bool false) (by go_simp) ?_
  simp only [Act.put, List.setIfInBounds_toArray, List.set_cons_zero, List.set_cons_succ]
  refine WL.nil ?_
  refine hK3 _ _ ?_
  refine wp_cond_false rfl ?_
  refine wp_skip ?_
  refine hK2 _ _ ?_
  refine wp_seq_k fun K4 hK4 => ?_
  refine wp_region_held_drew (S := fun wx => wx.cell? ⟨s, 2, none⟩ = some (.map (some mb)) ∧ Blk wx b3 50 (bytesA 32 x.f) ∧ wx.heap[mb]? = some (.map #[⟨.agg (bytesA 32 x.f), .slice (some ad) n c, 0⟩] 1)) (by kernel_rfl) (⟨HS2.out.bl.drew.c 2 rfl, H32.out.drew, by have h := B2.out.block mb (Array.getElem?_eq_some_iff.1 HM.out).1; exact h.trans HM.out⟩) (fun hHeld => ?_)
  have HM3 : Keep (w2.drew.heap[mb]? = some (.map #[⟨.agg (bytesA 32 x.f), .slice (some ad) n c, 0⟩] 1)) := ⟨by have h := B2.out.block mb (Array.getElem?_eq_some_iff.1 HM.out).1; exact h.trans HM.out⟩
  have HS3 := Keep.mk (HS2.out.below (Below.refl w2.heap.size w2).drew)
  have H33 := Keep.mk H32.out.drew
  have B3 : Keep (Below w.heap.size w w2.drew) := ⟨B2.out.drew⟩
  have HR3 : Keep (RowAt w2.drew (.slice (some ad) n c) l) := ⟨HR.out.below B3.out⟩
  clear HS2 H32 B2
  generalize w2.drew = w3 at *
  refine wpAnyH_take (i := 0) (oi := ⟨some 10, Op.move (Operand.tmp 0), 23, _, _, none⟩) (v := .pointer (some ⟨s, 0, none⟩)) rfl (by kernel_rfl) (by kernel_rfl) (by kernel_rfl) (fun _ _ _ h => h) (Or.inl ⟨by rfl, fun w hS => by have cS := hS.1; go_simp⟩) hHeld ?_
  simp only [Act.put, List.setIfInBounds_toArray, List.set_cons_zero, List.set_cons_succ]
  refine wpAnyH_take (i := 1) (oi := ⟨some 11, Op.nilCheck (Operand.tmp 10), 0, _, _, none⟩) (v := .pointer (some ⟨s, 0, none⟩)) rfl (by kernel_rfl) (by kernel_rfl) (by kernel_rfl) (fun _ _ _ h => h) (Or.inl ⟨by rfl, fun w hS => by have cS := hS.1; go_simp⟩) hHeld ?_
  simp only [Act.put, List.setIfInBounds_toArray, List.set_cons_zero, List.set_cons_succ]
  refine wpAnyH_take (i := 2) (oi := ⟨some 12, Op.fieldAddr 47 (Operand.tmp 11) 2, 0, _, _, none⟩) (v := .pointer (some ⟨s, 2, none⟩)) rfl (by kernel_rfl) (by kernel_rfl) (by kernel_rfl) (fun _ _ _ h => h) (Or.inl ⟨by rfl, fun w hS => by have cS := hS.1; go_simp⟩) hHeld ?_
  simp only [Act.put, List.setIfInBounds_toArray, List.set_cons_zero, List.set_cons_succ]
  refine wpAnyH_take (i := 3) (oi := ⟨some 13, Op.load 45 (Operand.tmp 12), 45, _, _, none⟩) (v := .map (some mb)) rfl (by kernel_rfl) (by kernel_rfl) (by kernel_rfl) (fun _ _ _ h => h) (Or.inl ⟨by rfl, fun w hS => by have cS := hS.1; go_simp⟩) hHeld ?_
  simp only [Act.put, List.setIfInBounds_toArray, List.set_cons_zero, List.set_cons_succ]
  refine wpAnyH_take (i := 4) (oi := ⟨some 14, Op.load 50 (Operand.tmp 3), 50, _, _, none⟩) (v := .agg (bytesA 32 x.f)) rfl (by kernel_rfl) (by kernel_rfl) (by kernel_rfl) (fun _ _ _ h => h) (yieldsIf_ld (by rfl) (Operand.tmp 3) 50 rfl b3 0 rfl (bytesA 32 x.f) _ Tryz.underlying50 rfl (size51E _) fun w hS => blk_range hS.2.1) hHeld ?_
  simp only [Act.put, List.setIfInBounds_toArray, List.set_cons_zero, List.set_cons_succ]
  refine wpAnyH_take (i := 5) (oi := ⟨some 15, Op.lookup 45 (Operand.tmp 13) (Operand.tmp 14) false, 32, _, _, none⟩) (v := .slice (some ad) n c) rfl (by kernel_rfl) (by kernel_rfl) (by kernel_rfl) (fun _ _ _ h => h) (yieldsIf_l45 (by rfl) (Operand.tmp 13) (Operand.tmp 14) rfl mb x.f rfl rfl (.slice (some ad) n c) fun w hS => look45 hS.2.2) hHeld ?_
  simp only [Act.put, List.setIfInBounds_toArray, List.set_cons_zero, List.set_cons_succ]
  refine wpAnyH_ready (rs := [6]) (by kernel_rfl) (by simp) ?_
  refine AllReadyH.cons (o := ⟨some 16, Op.call { callee := Callee.value (Operand.func 39), args := #[Operand.tmp 15], argTypes := #[32] }, 32, _, _, none⟩) rfl (fun K hK => ?_) AllReadyH.nil
  rw [if_pos (by rfl)]
  refine wp_callF 39 _ _ rfl Tryz.in39 #[.slice (some ad) n c] (by simp [Act.eval]) (fun vz wz => ∃ v, vz = v ∧ Own wz v l ∧ (∀ k, v.ownBlock = some k → w3.heap.size ≤ k) ∧ Below w3.heap.size w3 wz) ?_ ?_
  · refine (clo_some w3 ad n c l HR3 HL).mono ?_
    rintro e wz ⟨v, rfl, k1, k2, k3⟩
    exact ⟨_, rfl, v, rfl, k1, k2, k3⟩
  rintro vz w4 ⟨v, rfl, k1, k2, k3⟩
  have HO := Keep.mk k1
  have HN := Keep.mk k2
  have b4 := Keep.mk k3
  clear k1 k2 k3
  refine hK _ _ (⟨(HS3.out.below b4.out).bl.c 2 rfl, H33.out.below b4.out H33.out.lt, by rw [b4.out.block mb (Array.getElem?_eq_some_iff.1 HM3.out).1]; exact HM3.out⟩) fun hHa => ?_
  clear hK
  simp only [Act.put, List.setIfInBounds_toArray, List.set_cons_zero, List.set_cons_succ]
  refine wpAnyH_take (i := 7) (oi := ⟨some 4, Op.assign (Operand.tmp 16), 32, _, _, none⟩) (v := vz) rfl (by kernel_rfl) (by kernel_rfl) (by kernel_rfl) (fun _ _ _ h => h) (Or.inl ⟨by rfl, fun w hS => by have cS := hS.1; go_simp⟩) hHa ?_
  simp only [Act.put, List.setIfInBounds_toArray, List.set_cons_zero, List.set_cons_succ]
  refine wpAnyH_take (i := 8) (oi := ⟨some 5, Op.assign (Operand.const (Value.int IntKind.i64 0)), 42, _, _, none⟩) (v := .int .i64 0) rfl (by kernel_rfl) (by kernel_rfl) (by kernel_rfl) (fun _ _ _ h => h) (Or.inl ⟨by rfl, fun w hS => by have cS := hS.1; go_simp⟩) hHa ?_
  simp only [Act.put, List.setIfInBounds_toArray, List.set_cons_zero, List.set_cons_succ]
  refine wpAnyH_done (by kernel_rfl) ?_ _
  refine hK4 _ _ ?_
  refine wp_ret ?_
  try simp only [Exit.inBlock, Exit.then]
  exact bodyPost_ret (results_tmp2 (fn := Tryz.f21) rfl _ _ _) rfl ⟨vz, rfl, HO.out, fun k hk => Nat.le_trans B3.out.size (HN.out k hk), B3.out.trans (b4.out.mono B3.out.size)⟩
theorem sblock (s d mb : Nat) (g : DG) (Av : Nat → Prop) (w : World) (HS : Keep (ShAt w s d mb g Av)) (x : Hs) (HH : Keep (g.held = [⟨x, 1, []⟩])) (l : List Int) (B : Nat) (hl : l ≠ []) (HM : MB w mb x l B) (HL : l.length ≤ 140737488355328) : Calls Tryz.prog 21 #[.pointer (some ⟨s, 0, none⟩), .agg (bytesA 32 x.f)] w fun e w' => ∃ v, e = .returned (.tuple #[v, .int .i64 0]) ∧ Own w' v l ∧ (∀ k, v.ownBlock = some k → w.heap.size ≤ k) ∧ Below w.heap.size w w' := by
  obtain ⟨u, h1, h2, _⟩ := HM
  rcases h2.row with ⟨_, e⟩ | ⟨_, _, _, e⟩ | ⟨q, off, cap, rfl, h3, h4⟩
  · exact absurd e hl
  · exact absurd e hl
  · exact sblock_ s d mb g Av w HS x HH ⟨q, off, none⟩ l.length cap l ⟨h1⟩ ⟨.inr (.inr ⟨q, off, cap, rfl, h3, h4⟩)⟩ ⟨HL⟩

end Go.Proofs.YtdkhjeofjhcceaaGreatDoor
namespace Go.Proofs.YtdkhjeofjhcceaaGreatDoor.Nd
open Go.RowKit
set_option linter.unusedSimpArgs false
set_option linter.unusedVariables false
def bform (m : List Int) : List Int := numL m.length ++ m

theorem wrap64_len (n : Nat) (h : n ≤ 140737488355328) : IntKind.u64.wrap (n : Int) = n := by rw [IntKind.wrap_u64]; omega


def RdPostB (p : Nat) (s : ByteArray) (why : Int) (a : Nat) (l : List Int) (w : World) (e : Ending) (w' : World) : Prop :=
  ∃ bad er res, e = .returned (.tuple #[res, er]) ∧ InAt w' p s a bad ∧ (Grown w w' fun k => k = p) ∧ ErrAs w w' why a bad er ∧
    ((why = 0 ∧ OwnT w' res l ∧ ∃ k, res.ownBlock = some k ∧ w.heap.size ≤ k ∧ bad = none) ∨ (why ≠ 0 ∧ res = .slice none 0 0))


theorem conv_bytes (w : World) (s : ByteArray) (hb : s.size ≤ 140737488355328) : ∃ v w', (convert 9 32 (.string s)).run Tryz.prog w = .ok v w' ∧ OwnT w' v (lst s) ∧ v.ownBlock = some w.heap.size ∧ Below w.heap.size w w' := by
  have hr := Lib.run_convert_string_bytes (P := Tryz.prog) w 9 32 5 s Tryz.underlying9 Tryz.underlying32 Tryz.underlying5
  refine ⟨_, _, hr, ?_, rfl, ⟨rfl, rfl, rfl, ?_, fun k hk => Lib.bytesWorld_at_old w 5 s k hk⟩⟩
  · have hge := grownCap_ge w s.size 0 5
    have hcs : (Lib.bytesCells w 5 s).size = grownCap w s.size 0 5 := by
      have : s.data.size = s.size := rfl
      simp [Lib.bytesCells]; omega
    refine .inr ⟨w.heap.size, grownCap w s.size 0 5, _, _, by rw [lst_len], Lib.bytesWorld_at_new w 5 s, .inr (by rw [hcs]; exact Nat.le_refl _), by rw [lst_len]; exact hge, grownCap_le_maxLen w _ _ _ (by unfold maxLen; omega), hcs, ?_⟩
    rw [lst_len, ← lst_cells]
    simp only [Lib.bytesCells, Array.toList_append, Lib.strCells]
    rw [List.take_append_of_le_length (by simp), List.take_of_length_le (by simp)]
    simp
  · rw [Lib.bytesWorld_size]; omega

set_option maxRecDepth 8000 in
set_option maxHeartbeats 1000000 in
theorem olayB_any (p : Nat) (v vx : Value) (l m : List Int) (w : World) (h : OutAt w p v l) (hx : RowAt w vx m) (hsep : ∀ k, vx.ownBlock = some k → ¬ OF p v k) (hb : l.length + (bform m).length ≤ 140737488355328) :
    Calls Tryz.prog 40 #[ptr p, vx] w (OutPost p v (l ++ bform m) w) := by
  have HO : Keep (OutAt w p v l) := ⟨h⟩
  have HX : Keep (RowAt w vx m) := ⟨hx⟩
  have HS : Keep (∀ k, vx.ownBlock = some k → ¬ OF p v k) := ⟨hsep⟩
  have HB : Keep (l.length + (numL m.length).length + m.length ≤ 140737488355328) := ⟨by simpa [bform, Nat.add_assoc] using hb⟩
  obtain ⟨xa, xc, rfl⟩ := row_form hx
  have hw := wrap64_len m.length (by have := HB.out; omega)
  clear h hx hb hsep
  go_enter Tryz.func40, Tryz.ntmps40
  go_wp2_with fail
  refine (onum_any p v l m.length w HO.out (by have := HB.out; omega) (by have := HB.out; simp only [List.length_append]; omega)).mono ?_
  rintro e w1 ⟨rfl, v1, hO1, hm1, hg1⟩
  have HX1 : Keep (RowAt w1 (.slice xa m.length xc) m) := ⟨HX.out.grown hg1 fun b hb _ => HS.out b hb⟩
  have HO1 : Keep (OutAt w1 p v1 (l ++ numL m.length)) := ⟨hO1⟩
  have c0 : w1.cell? ⟨p, 0, none⟩ = some v1 := by rw [hO1.blk.cell]; rfl
  have HB1 : Keep ((l ++ numL m.length).length + m.length ≤ 200000000000000) := ⟨by have := HB.out; simp only [List.length_append]; omega⟩
  clear hO1
  go_wp2_with (first | (at_builtin; refine wpList_app rfl (.tmp 13) (.tmp 14) rfl v1 _ (l ++ numL m.length) m rfl rfl HO1.out.own HX1.out HB1.out ?_; intro v' w' hp; refine Hid.out ?_))
  refine hid_in ?_
  obtain ⟨a1, n1, k1, rfl⟩ := hp.1.sl
  have HP : Keep (AppPost w1 v1 (l ++ bform m) (.slice a1 n1 k1) w') := ⟨by rw [List.append_assoc] at hp; exact hp⟩
  have hp1 : Blk w' p 96 #[v1] := hp.grown.blk HO1.out.blk (HO1.out.own.ne HO1.out.blk (by decide))
  have c1 : w'.cell? ⟨p, 0, none⟩ = some v1 := by rw [hp1.cell]; rfl
  have f1 : w'.frozen? ⟨p, 0, none⟩ = false := hp1.frozen 0
  clear hp hp1 c0
  go_wp2
  go_end0
  exact (HO1.out.stored HP.out).trans hm1 hg1
set_option maxRecDepth 8000 in
set_option maxHeartbeats 400000 in
theorem obytes_any (p : Nat) (v vx : Value) (l m : List Int) (w : World) (h : OutAt w p v l) (hx : RowAt w vx m) (hsep : ∀ k, vx.ownBlock = some k → ¬ OF p v k) (hb : l.length + (bform m).length ≤ 140737488355328) :
    Calls Tryz.prog 22 #[ptr p, vx] w (OutPost p v (l ++ bform m) w) := by
  have HC := Keep.mk (olayB_any p v vx l m w h hx hsep hb)
  clear h hx hsep hb
  go_enter Tryz.func22, Tryz.ntmps22
  go_wp2_with fail
  refine HC.out.mono ?_
  rintro e w1 ⟨rfl, hrest⟩
  have HR := Keep.mk hrest
  clear hrest
  go_wp2
  go_end0
  exact ⟨rfl, HR.out⟩
set_option maxRecDepth 8000 in
set_option maxHeartbeats 1000000 in
theorem iraw_good (p : Nat) (s : ByteArray) (a : Nat) (n : Int) (w : World) (h : InAt w p s a none) (hb : s.size ≤ 140737488355328) (hn1 : -9223372036854775808 ≤ n) (hn2 : n ≤ 9223372036854775807) (D : List Int) (hD : D = (lst s).drop a) (W : Int) (hW : W = nextW D n) (N : Nat) (hN : N = nextN D n) :
    Calls Tryz.prog 71 #[ptr p, .int .i64 n] w (RdPostB p s W (a + N) (D.take N) w) := by
  have HC := Keep.mk (inext_good p s a n w h hb hn1 hn2)
  have HL := Keep.mk h.le
  have HLD : Keep (D.length = s.size - a) := ⟨by rw [hD, List.length_drop, lst_len]⟩
  have HS := Keep.mk hb
  rw [← hD, ← hW, ← hN] at HC
  have HDD := Keep.mk hD
  have HW := Keep.mk hW
  have HN := Keep.mk hN
  clear h hb hD hW hN hn1 hn2
  go_enter Tryz.func71, Tryz.ntmps71
  go_wp2_with fail
  refine HC.out.mono ?_
  rintro e w1 ⟨bad, er, rfl, h1, h2, h3⟩
  have H1 := Keep.mk h1
  have H2 := Keep.mk h2
  have H3 := Keep.mk h3
  clear h1 h2 HC
  rcases h3 with ⟨h0, rfl, rfl⟩ | ⟨h0, q, hq, rfl, rfl, hbad⟩
  · have hx := nextN_0 D n (by rw [← HW.out]; exact h0)
    have hNl : N ≤ D.length := by rw [HN.out, hx.1]; exact hx.2.2
    have hl : lst (s.extract a (a + N)) = D.take N := by rw [lst_extract, ← HDD.out, show a + N - a = N by omega]
    have hsz : (s.extract a (a + N)).size = N := ext_size s a N (by have := HLD.out; have := HL.out; omega)
    obtain ⟨v, w2, hr, hO, hk, hB⟩ := conv_bytes w1 (s.extract a (a + N)) (by rw [hsz]; have := HLD.out; have := HS.out; omega)
    rw [hl] at hO
    have HO := Keep.mk hO
    have HK := Keep.mk hk
    have HB := Keep.mk hB
    have H0 := Keep.mk h0
    clear hl hsz hx hNl h0 hO hk hB HN HW HDD HLD
    generalize s.extract a (a + N) = st at *
    go_wp2
    go_ret2
    refine ⟨none, .nilIface, v, rfl, ⟨H1.out.blk.below HB.out H1.out.blk.lt, H1.out.le⟩, H2.out.next (Grown.below (S := fun _ => False) HB.out) fun _ _ h => h.elim, .inl ⟨H0.out, rfl, rfl⟩, .inl ⟨H0.out, HO.out, _, HK.out, H2.out.size, rfl⟩⟩
  · have H0 := Keep.mk h0
    clear h0 hbad
    unfold err
    go_wp2
    go_ret2
    exact ⟨some q, err q, _, rfl, H1.out, H2.out, H3.out, .inr ⟨H0.out, rfl⟩⟩
set_option maxRecDepth 8000 in
set_option maxHeartbeats 1000000 in
theorem ireadB_good (p : Nat) (s : ByteArray) (a : Nat) (most : Int) (mm : Nat) (hmm : (mm : Int) = max most 0) (w : World) (h : InAt w p s a none) (hb : s.size ≤ 140737488355328) (hm2 : mm ≤ 9223372036854775807) (D : List Int) (hD : D = (lst s).drop a) (W : Int) (hW : W = (byt D (mm : Int)).1) (N : Nat) (hN : N = (byt D (mm : Int)).2.1) (l : List Int) (hl : l = (byt D (mm : Int)).2.2) :
    Calls Tryz.prog 102 #[ptr p, .int .i64 most] w (RdPostB p s W (a + N) l w) := by
  have hc := inum_good p s a mm w h hb
  rw [← hD] at hc
  have HLD : Keep (D.length = s.size - a) := ⟨by rw [hD, List.length_drop, lst_len]⟩
  have HL := Keep.mk h.le
  have HS := Keep.mk hb
  have HDD := Keep.mk hD
  have HBy := Keep.mk (byt_eq D (mm : Int))
  have HSh := Keep.mk (fstM_shape D (mm : Int))
  have HLe := Keep.mk (fstM_le D (mm : Int) (by rw [hD]; exact (lst_byts s).drop a))
  have HW := Keep.mk hW
  have HN := Keep.mk hN
  have Hl := Keep.mk hl
  have hmx := hmm.symm
  have hwm : IntKind.u64.wrap (mm : Int) = (mm : Int) := by rw [IntKind.wrap_u64]; omega
  have Hm2 := Keep.mk hm2
  clear hW hN hl hD hmm h hb hm2
  generalize fstM D (mm : Int) = R at *
  obtain ⟨x, k, y⟩ := R
  simp only at hc HBy HSh HLe
  have HC := Keep.mk hc
  clear hc
  go_enter Tryz.func102, Tryz.ntmps102
  go_wp2_with fail
  refine HC.out.mono ?_
  rintro e w1 ⟨bad, er, rfl, h1, h2, h3⟩
  have H1 := Keep.mk h1
  have H2 := Keep.mk h2
  have H3 := Keep.mk h3
  clear h1 h2 HC hwm hmx
  rcases h3 with ⟨h0, rfl, rfl⟩ | ⟨h0, q, hq, rfl, rfl, hbad⟩
  · obtain ⟨hx0, hx1⟩ := HLe.out h0
    have hk0 : 0 ≤ k := HSh.out.2.1
    have hk1 : k ≤ D.length := HSh.out.2.2
    obtain ⟨kn, rfl⟩ : ∃ kn : Nat, k = (kn : Int) := ⟨k.toNat, by omega⟩
    rw [if_pos h0, Int.toNat_natCast] at HBy
    have hx2 : x ≤ 9223372036854775807 := by have := Hm2.out; omega
    have hak : Keep (a + kn ≤ s.size) := ⟨by have := HLD.out; have := HL.out; omega⟩
    rw [Int.toNat_natCast] at H1
    have hc2 := inext_good p s (a + kn) x w1 H1.out HS.out (by omega) hx2
    have hDk : (lst s).drop (a + kn) = D.drop kn := by rw [HDD.out, List.drop_drop]
    rw [hDk] at hc2
    obtain ⟨W2, hW2⟩ : ∃ W2, Keep (W2 = nextW (D.drop kn) x) := ⟨_, ⟨rfl⟩⟩
    obtain ⟨N2, hN2⟩ : ∃ N2, Keep (N2 = nextN (D.drop kn) x) := ⟨_, ⟨rfl⟩⟩
    rw [← hW2.out, ← hN2.out] at hc2 HBy
    have eW : W = W2 := by rw [HW.out, HBy.out]
    have eN : N = kn + N2 := by rw [HN.out, HBy.out]
    have el : l = (D.drop kn).take N2 := by rw [Hl.out, HBy.out]
    have HC2 := Keep.mk hc2
    subst eW
    have HeN := Keep.mk eN
    have Hel := Keep.mk el
    have HDk := Keep.mk hDk
    clear hc2 h0 eN el hDk HW HN Hl HBy HSh HLe H3 hk0 hk1
    go_wp2_with fail
    refine HC2.out.mono ?_
    rintro e w2 ⟨bad, er, rfl, h4, h5, h6⟩
    have H4 : Keep (InAt w2 p s (a + N) bad) := ⟨by rw [HeN.out, ← Nat.add_assoc]; exact h4⟩
    have H5 := Keep.mk (H2.out.trans h5)
    have hsz := H2.out.size
    have H6 : Keep (ErrAs w w2 W (a + N) bad er) := ⟨by
      rw [HeN.out, ← Nat.add_assoc]
      rcases h6 with h6 | ⟨h6, q, h7, h8⟩
      · exact .inl h6
      · exact .inr ⟨h6, q, by omega, h8⟩⟩
    have hNl : Keep (N2 ≤ (D.drop kn).length) := ⟨by
      by_cases hw : W = 0
      · have := nextN_0 (D.drop kn) x (by rw [← hW2.out]; exact hw); rw [hN2.out, this.1]; exact this.2.2
      · rw [hN2.out, nextN_1 (D.drop kn) x (by rw [← hW2.out]; exact hw)]; omega⟩
    have hls : lst (s.extract (a + kn) (a + kn + N2)) = l := by rw [lst_extract, HDk.out, Hel.out, show a + kn + N2 - (a + kn) = N2 by omega]
    have hsz2 : (s.extract (a + kn) (a + kn + N2)).size = N2 := ext_size s (a + kn) N2 (by have := HLD.out; have := HL.out; have := hNl.out; have h8 := hak.out; have h9 := hNl.out; rw [List.length_drop] at h9; omega)
    clear h4 h5 HC2 hsz
    rcases h6 with ⟨h0, rfl, rfl⟩ | ⟨h0, q, hq, rfl, rfl, hbad⟩
    · obtain ⟨v, w3, hr, hO, hk, hB⟩ := conv_bytes w2 (s.extract (a + kn) (a + kn + N2)) (by rw [hsz2]; have := HLD.out; have := HS.out; have := hNl.out; rw [List.length_drop] at this; omega)
      rw [hls] at hO
      have HO := Keep.mk hO
      have HK := Keep.mk hk
      have HB := Keep.mk hB
      have H0 := Keep.mk h0
      clear hls hsz2 h0 hO hk hB hNl
      generalize s.extract (a + kn) (a + kn + N2) = st at *
      go_wp2
      go_ret2
      refine ⟨none, .nilIface, v, rfl, ⟨H4.out.blk.below HB.out H4.out.blk.lt, H4.out.le⟩, H5.out.next (Grown.below (S := fun _ => False) HB.out) fun _ _ h => h.elim, .inl ⟨H0.out, rfl, rfl⟩, .inl ⟨H0.out, HO.out, _, HK.out, H5.out.size, rfl⟩⟩
    · have H0 := Keep.mk h0
      clear h0 hbad hls hsz2
      unfold err
      go_wp2
      go_ret2
      exact ⟨some q, err q, _, rfl, H4.out, H5.out, H6.out, .inr ⟨H0.out, rfl⟩⟩
  · rw [if_neg h0] at HBy
    have eW : W = y := by rw [HW.out, HBy.out]
    have eN : N = 0 := by rw [HN.out, HBy.out]
    subst eW eN
    obtain ⟨rfl, rfl⟩ := HSh.out.1 h0
    have H0 := Keep.mk h0
    clear h0 hbad HBy HSh HLe HW HN Hl
    unfold err
    go_wp2
    go_ret2
    exact ⟨some q, err q, _, rfl, H1.out, H2.out, H3.out, .inr ⟨H0.out, rfl⟩⟩
set_option maxRecDepth 8000 in
set_option maxHeartbeats 1000000 in
theorem ibytes_good (p : Nat) (s : ByteArray) (a : Nat) (most : Int) (mm : Nat) (hmm : (mm : Int) = max most 0) (w : World) (h : InAt w p s a none) (hb : s.size ≤ 140737488355328) (hm2 : mm ≤ 9223372036854775807) (D : List Int) (hD : D = (lst s).drop a) (W : Int) (hW : W = (byt D (mm : Int)).1) (N : Nat) (hN : N = (byt D (mm : Int)).2.1) (l : List Int) (hl : l = (byt D (mm : Int)).2.2) :
    Calls Tryz.prog 74 #[ptr p, .int .i64 most] w (RdPostB p s W (a + N) l w) := by
  have HC := Keep.mk (ireadB_good p s a most mm hmm w h hb hm2 D hD W hW N hN l hl)
  clear hmm h hb hm2 hD hW hN hl
  go_enter Tryz.func74, Tryz.ntmps74
  go_wp2_with fail
  refine HC.out.mono ?_
  rintro e w1 ⟨bad, er, res, rfl, h1⟩
  have H := Keep.mk h1
  clear h1 HC
  go_wp2
  go_ret2
  exact ⟨bad, er, res, rfl, H.out⟩

end Go.Proofs.YtdkhjeofjhcceaaGreatDoor.Nd
namespace Go.Proofs.YtdkhjeofjhcceaaGreatDoor
open Go.RowKit
set_option linter.unusedSimpArgs false
set_option linter.unusedVariables false
theorem Tryz.in7 (w : World) (vs : Array Value) : (callFunc 7 vs).run Tryz.prog w = .ok (.enter 7 vs) w := by kernel_rfl
theorem Tryz.in16 (w : World) (vs : Array Value) : (callFunc 16 vs).run Tryz.prog w = .ok (.enter 16 vs) w := by kernel_rfl
theorem Tryz.in17 (w : World) (vs : Array Value) : (callFunc 17 vs).run Tryz.prog w = .ok (.enter 17 vs) w := by kernel_rfl
theorem Tryz.in18 (w : World) (vs : Array Value) : (callFunc 18 vs).run Tryz.prog w = .ok (.enter 18 vs) w := by kernel_rfl
theorem Tryz.in19 (w : World) (vs : Array Value) : (callFunc 19 vs).run Tryz.prog w = .ok (.enter 19 vs) w := by kernel_rfl
theorem Tryz.in22 (w : World) (vs : Array Value) : (callFunc 22 vs).run Tryz.prog w = .ok (.enter 22 vs) w := by kernel_rfl
theorem Tryz.in23 (w : World) (vs : Array Value) : (callFunc 23 vs).run Tryz.prog w = .ok (.enter 23 vs) w := by kernel_rfl
theorem Tryz.in25 (w : World) (vs : Array Value) : (callFunc 25 vs).run Tryz.prog w = .ok (.enter 25 vs) w := by kernel_rfl
def PO (w0 w : World) (p : Nat) (l : List Int) : Prop := ∃ v, Nd.OutAt w p v l ∧ (∀ k, Nd.OF p v k → w0.heap.size ≤ k) ∧ Below w0.heap.size w0 w
theorem PO.bel {w0 w : World} {p : Nat} {l : List Int} (h : PO w0 w p l) : Below w0.heap.size w0 w := by
  obtain ⟨_, _, _, h⟩ := h
  exact h
theorem PO.below {w0 w w' : World} {p : Nat} {l : List Int} (h : PO w0 w p l) (hb : Below w.heap.size w w') : PO w0 w' p l := by
  obtain ⟨v, h1, h2, h3⟩ := h
  exact ⟨v, h1.grown (Nd.Grown.below (S := fun _ => False) hb) fun _ _ e => e.elim, h2, h3.trans (hb.mono h3.size)⟩
theorem PO.next {w0 w w' : World} {p : Nat} {l m : List Int} {v : Value} {e : Ending} (h1 : Nd.OutAt w p v l) (h2 : ∀ k, Nd.OF p v k → w0.heap.size ≤ k) (h3 : Below w0.heap.size w0 w) (h : Nd.OutPost p v m w e w') : e = .returned (.tuple #[]) ∧ PO w0 w' p m := by
  obtain ⟨rfl, v', h4, h5, h6⟩ := h
  refine ⟨rfl, v', h4, fun k hk => ?_, h3.trans (h6.to_below (fun k hk e => by have := h2 k e; omega) h3.size)⟩
  rcases hk with e | e
  · exact h2 k (.inl e)
  · rcases h5 with e2 | ⟨i, e2, e3⟩
    · exact h2 k (.inr (e2 ▸ e))
    · rw [e2] at e; injection e with e; subst e; exact Nat.le_trans h3.size e3
theorem po_raw {w0 w : World} {p : Nat} {l m : List Int} {vx : Value} (h : PO w0 w p l) (hx : RowAt w vx m) (hb : (l ++ m).length ≤ 1000000) : Calls Tryz.prog 17 #[ptr p, vx] w fun e w' => e = .returned (.tuple #[]) ∧ PO w0 w' p (l ++ m) := by
  obtain ⟨v, h1, h2, h3⟩ := h
  exact (Nd.oraw_any p v vx l m w h1 hx (by omega)).mono fun e w' h => PO.next h1 h2 h3 h
theorem po_num {w0 w : World} {p : Nat} {l : List Int} (h : PO w0 w p l) (hb : l.length ≤ 1000000) : Calls Tryz.prog 18 #[ptr p, .int .u64 1] w fun e w' => e = .returned (.tuple #[]) ∧ PO w0 w' p (l ++ [1]) := by
  obtain ⟨v, h1, h2, h3⟩ := h
  exact (Nd.onum_any p v l 1 w h1 (by decide) (by simp [show Nd.numL 1 = [1] from rfl]; omega)).mono fun e w' h => PO.next h1 h2 h3 h
theorem po_bytes {w0 w : World} {p : Nat} {l : List Int} {vx : Value} (h : PO w0 w p l) (hx : RowAt w vx [1, 1, 1, 0, 0]) (hsep : ∀ k, vx.ownBlock = some k → w.heap.size ≤ k ∨ ∀ v, Nd.OutAt w p v l → ¬ Nd.OF p v k) (hb : l.length ≤ 1000000) : Calls Tryz.prog 22 #[ptr p, vx] w fun e w' => e = .returned (.tuple #[]) ∧ PO w0 w' p (l ++ [5, 1, 1, 1, 0, 0]) := by
  obtain ⟨v, h1, h2, h3⟩ := h
  refine (Nd.obytes_any p v vx l [1, 1, 1, 0, 0] w h1 hx (fun k hk e => ?_) (by simp [show Nd.bform [1, 1, 1, 0, 0] = [5, 1, 1, 1, 0, 0] from rfl]; omega)).mono fun e w' h => PO.next h1 h2 h3 h
  rcases hsep k hk with h | h
  · rcases e with e | e
    · have := h1.blk.lt; omega
    · have := h1.own.lt k e; omega
  · exact h v h1 e
theorem po_hash {w0 w : World} {p : Nat} {l : List Int} (c : Nat → Int) (h : PO w0 w p l) (hb : l.length ≤ 1000000) : Calls Tryz.prog 23 #[ptr p, .agg (bytesA 32 c)] w fun e w' => e = .returned (.tuple #[]) ∧ PO w0 w' p (l ++ Nd.hl 32 c) := by
  obtain ⟨v, h1, h2, h3⟩ := h
  exact (Nd.ohash_any p v l c w h1 (by omega)).mono fun e w' h => PO.next h1 h2 h3 h
theorem po_done {w0 w : World} {p : Nat} {l : List Int} (h : PO w0 w p l) (hb : l.length ≤ 1000000) : Calls Tryz.prog 25 #[ptr p] w fun e w' => ∃ q, e = .returned (.slice (some ⟨q, 0, none⟩) l.length l.length) ∧ w.heap.size ≤ q ∧ RowAt w' (.slice (some ⟨q, 0, none⟩) l.length l.length) l ∧ Below w.heap.size w w' := by
  obtain ⟨v, h1, h2, h3⟩ := h
  refine (Nd.odone_any p v l w h1 (by omega)).mono ?_
  rintro e w' ⟨rfl, rfl⟩
  exact ⟨_, rfl, Nat.le_refl _, (own_done w l (by omega)).row, below_new w _⟩
theorem po_new (w : World) : Calls Tryz.prog 16 #[] w fun e w' => ∃ p, e = .returned (ptr p) ∧ PO w w' p [] := by
  refine (Nd.newOut_any w).mono ?_
  rintro e w' ⟨rfl, rfl⟩
  refine ⟨_, rfl, .slice none 0 0, ⟨Blk.new w _ _, ⟨rfl, .inl ⟨rfl, rfl⟩⟩⟩, fun k hk => ?_, below_new w _⟩
  rcases hk with e | e
  · omega
  · simp [Value.ownBlock] at e
theorem bsMk (w : World) : (Instr.buildSlice 32 8 #[(0, .int .u8 80), (1, .int .u8 76), (2, .int .u8 69), (3, .int .u8 65), (4, .int .u8 67), (5, .int .u8 72), (6, .int .u8 65), (7, .int .u8 49)]).run Tryz.prog w = .ok (.slice (some ⟨w.heap.size, 0, none⟩) 8 8) (w.alloc (.cells #[.int .u8 80, .int .u8 76, .int .u8 69, .int .u8 65, .int .u8 67, .int .u8 72, .int .u8 65, .int .u8 49] 5)) := by kernel_rfl
theorem row_mk (w : World) : RowAt (w.alloc (.cells #[.int .u8 80, .int .u8 76, .int .u8 69, .int .u8 65, .int .u8 67, .int .u8 72, .int .u8 65, .int .u8 49] 5 (8, 9))) (.slice (some ⟨w.heap.size, 0, none⟩) 8 8) [80, 76, 69, 65, 67, 72, 65, 49] :=
  .inr (.inr ⟨_, 0, 8, rfl, by decide, fun i hi => by
    rw [World.cell?_alloc_mark]
    have hi : i < 8 := hi
    rcases (by omega : i = 0 ∨ i = 1 ∨ i = 2 ∨ i = 3 ∨ i = 4 ∨ i = 5 ∨ i = 6 ∨ i = 7) with rfl | rfl | rfl | rfl | rfl | rfl | rfl | rfl <;> rfl⟩)
theorem Tryz.new50h (w : World) : (Instr.alloc 50 true (.tuple #[])).run Tryz.prog w = .ok (.pointer (some ⟨w.heap.size, 0, none⟩)) (w.alloc (.cells (bytesA 32 fun _ => 0) 50)) := by kernel_rfl
theorem sha_is (v : Value) (l : List Int) (w : World) (h : RowAt w v l) (hl : l.length ≤ 1000000) : Calls Tryz.prog 24 #[v] w fun e w' => e = .returned (.agg (bytesA 32 (shaH l).f)) ∧ Below w.heap.size w w' := by
  have h2 := Nd.of_any v l w h (by omega)
  rw [← shaH_b]
  exact h2
def A15 : List Int := [80, 76, 69, 65, 67, 72, 65, 49, 1, 5, 1, 1, 1, 0, 0]
def arkL : List Int := A15 ++ Nd.hl 32 (shaH A15).f
theorem arkL_len : arkL.length = 47 := by simp [arkL, A15, Nd.hl_len]
set_option maxRecDepth 8000 in
theorem slen_ (s d mb : Nat) (g : DG) (Av : Nat → Prop) (w : World) (HS : Keep (ShAt w s d mb g Av)) : Calls Tryz.prog 19 #[.pointer (some ⟨s, 0, none⟩)] w fun e w' => e = .returned (.int .i64 (g.held.length : Int)) ∧ w' = w := by
  go_enter Tryz.func19, Tryz.ntmps19
  refine wp_seq_k fun K1 hK1 => ?_
  refine wp_region_list (WL.out ?_)
  refine WL.val (by kernel_rfl) (.int .i64 0) (by go_simp) ?_
  simp only [Act.put, List.setIfInBounds_toArray, List.set_cons_zero, List.set_cons_succ]
  refine WL.nil ?_
  refine hK1 _ _ ?_
  refine wp_seq_k fun K2 hK2 => ?_
  refine wp_region_list (WL.out ?_)
  refine WL.val (by kernel_rfl) (.pointer (some ⟨s, 0, none⟩)) (by go_simp) ?_
  simp only [Act.put, List.setIfInBounds_toArray, List.set_cons_zero, List.set_cons_succ]
  refine WL.val (by kernel_rfl) (.pointer (some ⟨s, 0, none⟩)) (by go_simp) ?_
  simp only [Act.put, List.setIfInBounds_toArray, List.set_cons_zero, List.set_cons_succ]
  refine WL.val (by kernel_rfl) (.pointer (some ⟨s, 1, none⟩)) (by go_simp) ?_
  simp only [Act.put, List.setIfInBounds_toArray, List.set_cons_zero, List.set_cons_succ]
  have cs := HS.out.bl.c 1 rfl
  refine WL.val (by kernel_rfl) (.pointer (some ⟨d, 0, none⟩)) (by go_simp) ?_
  clear cs
  simp only [Act.put, List.setIfInBounds_toArray, List.set_cons_zero, List.set_cons_succ]
  refine WL.callF (by kernel_rfl) 36 _ _ rfl Tryz.in36 #[.pointer (some ⟨d, 0, none⟩)] (by simp [Act.eval]) ?_
  refine (dlen_any d Av g w HS.out.dg).mono ?_
  rintro e w1 ⟨rfl, hw_⟩
  refine ⟨_, rfl, ?_⟩
  have hw_ := hw_.symm
  subst hw_
  simp only [Act.put, List.setIfInBounds_toArray, List.set_cons_zero, List.set_cons_succ]
  refine WL.val (by kernel_rfl) (.int .i64 (g.held.length : Int)) (by go_simp) ?_
  simp only [Act.put, List.setIfInBounds_toArray, List.set_cons_zero, List.set_cons_succ]
  refine WL.nil ?_
  refine hK2 _ _ ?_
  refine wp_ret ?_
  go_ret
  exact ⟨rfl, rfl⟩
theorem slen_1 (s d mb : Nat) (g : DG) (Av : Nat → Prop) (w : World) (HS : Keep (ShAt w s d mb g Av)) (x : Hs) (h : g.held = [⟨x, 1, []⟩]) : Calls Tryz.prog 19 #[.pointer (some ⟨s, 0, none⟩)] w fun e w' => e = .returned (.int .i64 1) ∧ w' = w := by
  have h2 := slen_ s d mb g Av w HS
  rw [h] at h2
  exact h2
theorem hrow_1 {w : World} {x : Hs} {a : Option Addr} {c : Nat} (h : HRow w (.slice a [x].length c) [x]) : ∃ b off, a = some ⟨b, off, none⟩ ∧ w.rangeAt b off (bytesA 32 x.f).toList := by
  obtain ⟨b, off, h1, _, _, h2⟩ := h.at (by simp)
  exact ⟨b, off, h1, fun j v hv => h2 j v (by rw [show flatH [x] = (bytesA 32 x.f).toList by simp [flatH, encH]]; exact hv)⟩
theorem po_old {w0 w w' : World} {p : Nat} {l : List Int} (h : PO w0 w p l) (hb : Below w.heap.size w w') {v : Value} (hv : Nd.OutAt w' p v l) (k : Nat) (hk : w.heap.size ≤ k) : ¬ Nd.OF p v k := by
  obtain ⟨v', h1, _, _⟩ := h
  have h2 : Nd.OutAt w' p v' l := h1.grown (Nd.Grown.below (S := fun _ => False) hb) fun _ _ e => e.elim
  have e : v = v' := by
    have a := hv.blk
    have b := h2.blk
    unfold Nd.Blk at a b
    rw [a] at b
    injection b with b
    injection b with b
    simpa using b
  subst e
  intro e
  rcases e with e | e
  · have := h1.blk.lt; omega
  · have := h1.own.lt k e; omega
set_option maxRecDepth 8000 in
set_option maxHeartbeats 2000000 in
theorem pack_1 (s d mb : Nat) (g : DG) (Av : Nat → Prop) (w : World) (HS : Keep (ShAt w s d mb g Av)) (x : Hs) (HH : Keep (g.held = [⟨x, 1, []⟩])) (HO : Keep (g.order = [x])) (B : Nat) (HM : Keep (MB w mb x [1, 1, 1, 0, 0] B)) : Calls Tryz.prog 7 #[.pointer (some ⟨s, 0, none⟩)] w fun e w' => ∃ q, e = .returned (.slice (some ⟨q, 0, none⟩) arkL.length arkL.length) ∧ w.heap.size ≤ q ∧ RowAt w' (.slice (some ⟨q, 0, none⟩) arkL.length arkL.length) arkL ∧ Below w.heap.size w w' := by
  go_enter Tryz.func7, Tryz.ntmps7
  refine wp_seq_k fun K1 hK1 => ?_
  refine wp_region_list (WL.out ?_)
  refine WL.val (by kernel_rfl) (.slice none 0 0) (by go_simp) ?_
  simp only [Act.put, List.setIfInBounds_toArray, List.set_cons_zero, List.set_cons_succ]
  refine WL.nil ?_
  refine hK1 _ _ ?_
  refine wp_seq_k fun K2 hK2 => ?_
  refine wp_region_list (WL.out ?_)
  refine WL.callF (by kernel_rfl) 16 _ _ rfl Tryz.in16 #[] (by simp) ?_
  refine (po_new w).mono ?_
  rintro e w1 ⟨p, rfl, hp⟩
  refine ⟨_, rfl, ?_⟩
  have HP1 := Keep.mk hp
  clear hp
  simp only [Act.put, List.setIfInBounds_toArray, List.set_cons_zero, List.set_cons_succ]
  refine WL.val (by kernel_rfl) (.pointer (some ⟨p, 0, none⟩)) (by go_simp) ?_
  simp only [Act.put, List.setIfInBounds_toArray, List.set_cons_zero, List.set_cons_succ]
  refine WL.nil ?_
  refine hK2 _ _ ?_
  refine wp_seq_k fun K3 hK3 => ?_
  refine wp_region_list (WL.out ?_)
  refine WL.val (by kernel_rfl) (.pointer (some ⟨p, 0, none⟩)) (by go_simp) ?_
  simp only [Act.put, List.setIfInBounds_toArray, List.set_cons_zero, List.set_cons_succ]
  refine WL.bs (by kernel_rfl) 32 8 _ rfl #[(0, .int .u8 80), (1, .int .u8 76), (2, .int .u8 69), (3, .int .u8 65), (4, .int .u8 67), (5, .int .u8 72), (6, .int .u8 65), (7, .int .u8 49)] (by simp [Act.eval]) _ _ (bsMk w1) ?_
  simp only [Act.put, List.setIfInBounds_toArray, List.set_cons_zero, List.set_cons_succ]
  have hcc := Lib.run_convert_bytes_const (P := Tryz.prog) w1 32 5 #[.int .u8 80, .int .u8 76, .int .u8 69, .int .u8 65, .int .u8 67, .int .u8 72, .int .u8 65, .int .u8 49] 8 8 Tryz.underlying32 Tryz.underlying5
  have HR2 := Keep.mk (row_mk w1)
  have HP2 := Keep.mk (HP1.out.below (below_new w1 (.cells #[.int .u8 80, .int .u8 76, .int .u8 69, .int .u8 65, .int .u8 67, .int .u8 72, .int .u8 65, .int .u8 49] 5 (8, 9))))
  obtain ⟨w2, hw2⟩ : ∃ wx, Keep (wx = w1.alloc (.cells #[.int .u8 80, .int .u8 76, .int .u8 69, .int .u8 65, .int .u8 67, .int .u8 72, .int .u8 65, .int .u8 49] 5 (8, 9))) := ⟨_, ⟨rfl⟩⟩
  rw [show (#[.int .u8 80, .int .u8 76, .int .u8 69, .int .u8 65, .int .u8 67, .int .u8 72, .int .u8 65, .int .u8 49] : Array Value).size = 8 from rfl, ← hw2.out] at hcc
  rw [← hw2.out] at HR2 HP2
  refine WL.valW (by kernel_rfl) (.slice (some ⟨w1.heap.size, 0, none⟩) 8 8) w2 (by go_simp) ?_
  clear hcc hw2 HP1
  generalize w1.heap.size = q2 at *
  simp only [Act.put, List.setIfInBounds_toArray, List.set_cons_zero, List.set_cons_succ]
  refine WL.callF (by kernel_rfl) 17 _ _ rfl Tryz.in17 #[.pointer (some ⟨p, 0, none⟩), .slice (some ⟨q2, 0, none⟩) 8 8] (by simp [Act.eval]) ?_
  refine (po_raw HP2.out HR2.out (by decide)).mono ?_
  rintro e w3 ⟨rfl, hp⟩
  refine ⟨_, rfl, ?_⟩
  have HP3 : Keep (PO w w3 p [80, 76, 69, 65, 67, 72, 65, 49]) := ⟨hp⟩
  clear hp HP2 HR2
  simp only [Act.put, List.setIfInBounds_toArray, List.set_cons_zero, List.set_cons_succ]
  refine WL.nil ?_
  refine hK3 _ _ ?_
  refine wp_seq_k fun K4 hK4 => ?_
  refine wp_region_list (WL.out ?_)
  refine WL.val (by kernel_rfl) (.pointer (some ⟨p, 0, none⟩)) (by go_simp) ?_
  simp only [Act.put, List.setIfInBounds_toArray, List.set_cons_zero, List.set_cons_succ]
  refine WL.val (by kernel_rfl) (.pointer (some ⟨s, 0, none⟩)) (by go_simp) ?_
  simp only [Act.put, List.setIfInBounds_toArray, List.set_cons_zero, List.set_cons_succ]
  refine WL.callF (by kernel_rfl) 19 _ _ rfl Tryz.in19 #[.pointer (some ⟨s, 0, none⟩)] (by simp [Act.eval]) ?_
  refine (slen_1 s d mb g Av w3 ⟨HS.out.below HP3.out.bel⟩ x HH.out).mono ?_
  rintro e w3_ ⟨rfl, hw_⟩
  refine ⟨_, rfl, ?_⟩
  have hw_ := hw_.symm
  subst hw_
  simp only [Act.put, List.setIfInBounds_toArray, List.set_cons_zero, List.set_cons_succ]
  refine WL.val (by kernel_rfl) (.int .u64 1) (by go_simp <;> rfl) ?_
  simp only [Act.put, List.setIfInBounds_toArray, List.set_cons_zero, List.set_cons_succ]
  refine WL.callF (by kernel_rfl) 18 _ _ rfl Tryz.in18 #[.pointer (some ⟨p, 0, none⟩), .int .u64 1] (by simp [Act.eval]) ?_
  refine (po_num HP3.out (by decide)).mono ?_
  rintro e w4 ⟨rfl, hp⟩
  refine ⟨_, rfl, ?_⟩
  have HP4 := Keep.mk hp
  clear hp HP3
  simp only [Act.put, List.setIfInBounds_toArray, List.set_cons_zero, List.set_cons_succ]
  refine WL.nil ?_
  refine hK4 _ _ ?_
  refine wp_seq_k fun K5 hK5 => ?_
  refine wp_seq_k fun K6 hK6 => ?_
  refine wp_region_list (WL.out ?_)
  refine WL.val (by kernel_rfl) (.pointer (some ⟨s, 0, none⟩)) (by go_simp) ?_
  simp only [Act.put, List.setIfInBounds_toArray, List.set_cons_zero, List.set_cons_succ]
  refine WL.callF (by kernel_rfl) 20 _ _ rfl Tryz.in20 #[.pointer (some ⟨s, 0, none⟩)] (by simp [Act.eval]) ?_
  refine (sorder s d mb g Av w4 ⟨HS.out.below HP4.out.bel⟩ x HO).mono ?_
  rintro e w5 ⟨v5, rfl, hf⟩
  refine ⟨_, rfl, ?_⟩
  have HP5 := Keep.mk (HP4.out.below hf.bel)
  obtain ⟨va, vc, hv5⟩ := hf.own.sl
  subst hv5
  obtain ⟨g5, off, hva, hrg⟩ := hrow_1 hf.own.row
  subst hva
  have HG5 := Keep.mk hrg
  clear hf hrg HP4
  simp only [Act.put, List.setIfInBounds_toArray, List.set_cons_zero, List.set_cons_succ]
  refine WL.val (by kernel_rfl) (.int .i64 1) (by go_simp <;> rfl) ?_
  simp only [Act.put, List.setIfInBounds_toArray, List.set_cons_zero, List.set_cons_succ]
  refine WL.val (by kernel_rfl) (.int .i64 0) (by go_simp) ?_
  simp only [Act.put, List.setIfInBounds_toArray, List.set_cons_zero, List.set_cons_succ]
  refine WL.nil ?_
  refine hK6 _ _ ?_
  refine wp_block ?_
  refine wp_loop_rounds 2 ?_
  rw [rounds_succ]
  refine wp_seq_k fun K7 hK7 => ?_
  refine wp_region_list (WL.out ?_)
  refine WL.val (by kernel_rfl) (.bool true) (by go_simp) ?_
  simp only [Act.put, List.setIfInBounds_toArray, List.set_cons_zero, List.set_cons_succ]
  refine WL.nil ?_
  refine hK7 _ _ ?_
  refine wp_seq_k fun K8 hK8 => ?_
  refine wp_cond_true rfl ?_
  refine wp_skip ?_
  refine hK8 _ _ ?_
  refine wp_seq_k fun K9 hK9 => ?_
  refine wp_block ?_
  refine wp_seq_k fun K10 hK10 => ?_
  refine wp_region_list (WL.out ?_)
  refine WL.val (by kernel_rfl) (.pointer (some ⟨g5, off, none⟩)) (by go_simp) ?_
  simp only [Act.put, List.setIfInBounds_toArray, List.set_cons_zero, List.set_cons_succ]
  refine WL.midA (by kernel_rfl) 50 (.tmp 23) rfl g5 off rfl (bytesA 32 x.f) _ HG5.out Tryz.underlying50 rfl (size51E _) ?_
  simp only [Act.put, List.setIfInBounds_toArray, List.set_cons_zero, List.set_cons_succ]
  refine WL.new (by kernel_rfl) 50 rfl _ Tryz.new50h ?_
  have H6 := Keep.mk (Blk.new w5 50 (bytesA 32 fun _ => 0))
  have b_b5 := Keep.mk (below_new w5 (.cells (bytesA 32 fun _ => 0) 50))
  generalize w5.alloc (.cells (bytesA 32 fun _ => 0) 50) = w6 at *
  obtain ⟨b5, hb5⟩ : ∃ z, Keep (z = w5.heap.size) := ⟨_, ⟨rfl⟩⟩
  rw [← hb5.out] at H6 ⊢
  have HP6 := Keep.mk (HP5.out.below b_b5.out)
  simp only [Act.put, List.setIfInBounds_toArray, List.set_cons_zero, List.set_cons_succ]
  refine WL.storeR (by kernel_rfl) 50 (.tmp 5) (.tmp 24) rfl b5 (bytesA 32 x.f) rfl rfl 50 (bytesA 32 fun _ => 0) H6.out (size51E _) (bytesA_sizes _ _ _) (bytesA_one _ _) ?_
  have H7 := Keep.mk (H6.out.setRow (bytesA 32 x.f))
  have g_w7 : Keep (Grown w6 (w6.setRow b5 (bytesA 32 x.f)) fun k => k = b5) := ⟨Grown.setRow w6 b5 _ fun _ => rfl⟩
  clear H6
  generalize w6.setRow b5 (bytesA 32 x.f) = w7 at *
  have B57 : Keep (Below w5.heap.size w5 w7) := ⟨b_b5.out.trans (g_w7.out.to_below (fun k hk e => by have h := hb5.out; omega) b_b5.out.size)⟩
  have HP7 := Keep.mk (HP5.out.below B57.out)
  clear HP6 HP5 B57
  simp only [Act.put]
  refine WL.nil ?_
  refine hK10 _ _ ?_
  refine wp_seq_k fun K11 hK11 => ?_
  refine wp_region_list (WL.out ?_)
  refine WL.val (by kernel_rfl) (.pointer (some ⟨s, 0, none⟩)) (by go_simp) ?_
  simp only [Act.put, List.setIfInBounds_toArray, List.set_cons_zero, List.set_cons_succ]
  refine WL.row (by kernel_rfl) 50 (.tmp 5) rfl b5 rfl 50 (bytesA 32 x.f) _ H7.out Tryz.underlying50 rfl (size51E _) ?_
  simp only [Act.put, List.setIfInBounds_toArray, List.set_cons_zero, List.set_cons_succ]
  refine WL.callF (by kernel_rfl) 21 _ _ rfl Tryz.in21 #[.pointer (some ⟨s, 0, none⟩), .agg (bytesA 32 x.f)] (by simp [Act.eval]) ?_
  refine (sblock s d mb g Av w7 ⟨HS.out.below HP7.out.bel⟩ x HH [1, 1, 1, 0, 0] B (by simp) (HM.out.below HP7.out.bel) (by decide)).mono ?_
  rintro e w8 ⟨v8, rfl, k1, k2, k3⟩
  refine ⟨_, rfl, ?_⟩
  have HO8 := Keep.mk k1
  have HN8 := Keep.mk k2
  have LP7 : Keep (∀ k, w7.heap.size ≤ k → ∀ v, Nd.OutAt w8 p v ([80, 76, 69, 65, 67, 72, 65, 49] ++ [1]) → ¬ Nd.OF p v k) := ⟨fun k hk v hv e => po_old HP7.out k3 hv k hk e⟩
  have HP8 := Keep.mk (HP7.out.below k3)
  clear k1 k2 k3 HP7 H7
  simp only [Act.put, List.setIfInBounds_toArray, List.set_cons_zero, List.set_cons_succ]
  refine WL.val (by kernel_rfl) (.tuple #[v8, .int .i64 0]) (by go_simp) ?_
  simp only [Act.put, List.setIfInBounds_toArray, List.set_cons_zero, List.set_cons_succ]
  refine WL.val (by kernel_rfl) (v8) (by go_simp) ?_
  simp only [Act.put, List.setIfInBounds_toArray, List.set_cons_zero, List.set_cons_succ]
  refine WL.val (by kernel_rfl) (.int .i64 0) (by go_simp) ?_
  simp only [Act.put, List.setIfInBounds_toArray, List.set_cons_zero, List.set_cons_succ]
  refine WL.val (by kernel_rfl) (v8) (by go_simp) ?_
  simp only [Act.put, List.setIfInBounds_toArray, List.set_cons_zero, List.set_cons_succ]
  refine WL.val (by kernel_rfl) (.int .i64 0) (by go_simp) ?_
  simp only [Act.put, List.setIfInBounds_toArray, List.set_cons_zero, List.set_cons_succ]
  refine WL.nil ?_
  refine hK11 _ _ ?_
  refine wp_region_list (WL.out ?_)
  refine WL.val (by kernel_rfl) (.pointer (some ⟨p, 0, none⟩)) (by go_simp) ?_
  simp only [Act.put, List.setIfInBounds_toArray, List.set_cons_zero, List.set_cons_succ]
  refine WL.val (by kernel_rfl) (v8) (by go_simp) ?_
  simp only [Act.put, List.setIfInBounds_toArray, List.set_cons_zero, List.set_cons_succ]
  refine WL.callF (by kernel_rfl) 22 _ _ rfl Tryz.in22 #[.pointer (some ⟨p, 0, none⟩), v8] (by simp [Act.eval]) ?_
  refine (po_bytes HP8.out HO8.out.row (fun k hk => .inr (LP7.out k (HN8.out k hk))) (by decide)).mono ?_
  rintro e w9 ⟨rfl, hp⟩
  refine ⟨_, rfl, ?_⟩
  have HP9 : Keep (PO w w9 p A15) := ⟨hp⟩
  clear hp HP8 HO8 HN8 LP7
  simp only [Act.put, List.setIfInBounds_toArray, List.set_cons_zero, List.set_cons_succ]
  refine WL.nil ?_
  refine hK9 _ _ ?_
  refine wp_region_list (WL.out ?_)
  refine WL.val (by kernel_rfl) (.int .i64 1) (by go_simp <;> rfl) ?_
  simp only [Act.put, List.setIfInBounds_toArray, List.set_cons_zero, List.set_cons_succ]
  refine WL.val (by kernel_rfl) (.int .i64 1) (by go_simp <;> rfl) ?_
  simp only [Act.put, List.setIfInBounds_toArray, List.set_cons_zero, List.set_cons_succ]
  refine WL.nil ?_
  simp only [Exit.then, Exit.inBlock]
  rw [rounds_succ]
  refine wp_seq_k fun K12 hK12 => ?_
  refine wp_region_list (WL.out ?_)
  refine WL.val (by kernel_rfl) (.bool false) (by go_simp) ?_
  simp only [Act.put, List.setIfInBounds_toArray, List.set_cons_zero, List.set_cons_succ]
  refine WL.nil ?_
  refine hK12 _ _ ?_
  refine wp_seq_k fun K13 hK13 => ?_
  refine wp_cond_false rfl ?_
  refine wp_exit ?_
  refine hK5 _ _ ?_
  refine wp_seq_k fun K14 hK14 => ?_
  refine wp_region_list (WL.out ?_)
  refine WL.val (by kernel_rfl) (.pointer (some ⟨p, 0, none⟩)) (by go_simp) ?_
  simp only [Act.put, List.setIfInBounds_toArray, List.set_cons_zero, List.set_cons_succ]
  refine WL.val (by kernel_rfl) (.pointer (some ⟨p, 0, none⟩)) (by go_simp) ?_
  simp only [Act.put, List.setIfInBounds_toArray, List.set_cons_zero, List.set_cons_succ]
  refine WL.callF (by kernel_rfl) 25 _ _ rfl Tryz.in25 #[.pointer (some ⟨p, 0, none⟩)] (by simp [Act.eval]) ?_
  refine (po_done HP9.out (by decide)).mono ?_
  rintro e w10 ⟨q10, rfl, _, k1, k2⟩
  refine ⟨_, rfl, ?_⟩
  have HR10 := Keep.mk k1
  have HP10 := Keep.mk (HP9.out.below k2)
  clear k1 k2 HP9
  simp only [Act.put, List.setIfInBounds_toArray, List.set_cons_zero, List.set_cons_succ]
  refine WL.callF (by kernel_rfl) 24 _ _ rfl Nd.Tryz.in24 #[.slice (some ⟨q10, 0, none⟩) A15.length A15.length] (by simp [Act.eval]) ?_
  refine (sha_is _ A15 w10 HR10.out (by decide)).mono ?_
  rintro e w11 ⟨rfl, hb⟩
  refine ⟨_, rfl, ?_⟩
  have HP11 := Keep.mk (HP10.out.below hb)
  clear hb HP10 HR10
  simp only [Act.put, List.setIfInBounds_toArray, List.set_cons_zero, List.set_cons_succ]
  refine WL.callF (by kernel_rfl) 23 _ _ rfl Tryz.in23 #[.pointer (some ⟨p, 0, none⟩), .agg (bytesA 32 (shaH A15).f)] (by simp [Act.eval]) ?_
  refine (po_hash _ HP11.out (by decide)).mono ?_
  rintro e w12 ⟨rfl, hp⟩
  refine ⟨_, rfl, ?_⟩
  have HP12 : Keep (PO w w12 p arkL) := ⟨hp⟩
  clear hp HP11
  simp only [Act.put, List.setIfInBounds_toArray, List.set_cons_zero, List.set_cons_succ]
  refine WL.nil ?_
  refine hK14 _ _ ?_
  refine wp_seq_k fun K15 hK15 => ?_
  refine wp_region_list (WL.out ?_)
  refine WL.val (by kernel_rfl) (.pointer (some ⟨p, 0, none⟩)) (by go_simp) ?_
  simp only [Act.put, List.setIfInBounds_toArray, List.set_cons_zero, List.set_cons_succ]
  refine WL.callF (by kernel_rfl) 25 _ _ rfl Tryz.in25 #[.pointer (some ⟨p, 0, none⟩)] (by simp [Act.eval]) ?_
  refine (po_done HP12.out (by rw [arkL_len]; decide)).mono ?_
  rintro e w13 ⟨q13, rfl, hq, k1, k2⟩
  refine ⟨_, rfl, ?_⟩
  have HR13 := Keep.mk k1
  have HP13 := Keep.mk (HP12.out.below k2)
  have HQ := Keep.mk (Nat.le_trans HP12.out.bel.size hq)
  clear k1 k2 HP12 hq
  simp only [Act.put, List.setIfInBounds_toArray, List.set_cons_zero, List.set_cons_succ]
  refine WL.val (by kernel_rfl) (.slice (some ⟨q13, 0, none⟩) arkL.length arkL.length) (by go_simp) ?_
  simp only [Act.put, List.setIfInBounds_toArray, List.set_cons_zero, List.set_cons_succ]
  refine WL.nil ?_
  refine hK15 _ _ ?_
  refine wp_ret ?_
  try simp only [Exit.inBlock, Exit.then]
  go_ret
  exact ⟨q13, rfl, HQ.out, HR13.out, HP13.out.bel⟩

theorem Tryz.in70 (w : World) (vs : Array Value) : (callFunc 70 vs).run Tryz.prog w = .ok (.enter 70 vs) w := by kernel_rfl
theorem Tryz.in71 (w : World) (vs : Array Value) : (callFunc 71 vs).run Tryz.prog w = .ok (.enter 71 vs) w := by kernel_rfl
theorem Tryz.in74 (w : World) (vs : Array Value) : (callFunc 74 vs).run Tryz.prog w = .ok (.enter 74 vs) w := by kernel_rfl
theorem Tryz.in43 (w : World) (vs : Array Value) : (callFunc 43 vs).run Tryz.prog w = .ok (.enter 43 vs) w := by kernel_rfl
theorem Tryz.in47 (w : World) (vs : Array Value) : (callFunc 47 vs).run Tryz.prog w = .ok (.enter 47 vs) w := by kernel_rfl
def sA : ByteArray := strOfNums arkL
theorem hl_byts (x : Hs) : Nd.Byts (Nd.hl 32 x.f) := fun c hc => by
  simp only [Nd.hl, List.mem_map] at hc
  obtain ⟨i, hi, rfl⟩ := hc
  rw [List.mem_range] at hi
  rw [Hs.f_get _ _ hi]
  have := (x[i]).toNat_lt
  omega
theorem arkL_byts : Nd.Byts arkL := fun c hc => by
  unfold arkL at hc
  rcases List.mem_append.1 hc with h | h
  · simp [A15] at h; omega
  · exact hl_byts _ c h
theorem sA_lst : Nd.lst sA = arkL := Nd.lst_nums arkL_byts
theorem sA_size : sA.size = 47 := by rw [← Nd.lst_len, sA_lst, arkL_len]
theorem sA_small : sA.size ≤ 140737488355328 := by rw [sA_size]; decide
theorem drop15 : arkL.drop 15 = Nd.hl 32 (shaH A15).f := by rfl
theorem raw8 (p : Nat) (w : World) (h : Nd.InAt w p sA 0 none) : Calls Tryz.prog 71 #[ptr p, .int .i64 8] w fun e w' => ∃ g c, e = .returned (.tuple #[.slice (some ⟨g, 0, none⟩) 8 c, .nilIface]) ∧ Nd.InAt w' p sA 8 none ∧ (Nd.Grown w w' fun k => k = p) ∧ w.heap.size ≤ g ∧ Nd.OwnT w' (.slice (some ⟨g, 0, none⟩) 8 c) [80, 76, 69, 65, 67, 72, 65, 49] := by
  refine (Nd.iraw_good p sA 0 8 w h sA_small (by decide) (by decide) arkL (by simp [sA_lst]) 0 (by unfold Nd.nextW; rw [arkL_len]; rfl) 8 (by unfold Nd.nextN Nd.nextW; rw [arkL_len]; rfl)).mono ?_
  rintro e w' ⟨bad, er, res, rfl, h1, h2, h3, h4⟩
  rcases h4 with ⟨_, ho, k, hk, hk2, rfl⟩ | ⟨h, _⟩
  · rcases h3 with ⟨_, _, rfl⟩ | ⟨h, _⟩
    · have ho' : Nd.OwnT w' res [80, 76, 69, 65, 67, 72, 65, 49] := ho
      rcases ho with ⟨_, e⟩ | ⟨g, cap, cur, fz, rfl, _⟩
      · exact absurd (show ([80, 76, 69, 65, 67, 72, 65, 49] : List Int) = [] from e) (by simp)
      · cases hk
        exact ⟨g, cap, rfl, h1, h2, hk2, ho'⟩
    · exact absurd rfl h
  · exact absurd rfl h
theorem num1 (p : Nat) (w : World) (h : Nd.InAt w p sA 8 none) : Calls Tryz.prog 45 #[ptr p, .int .u64 4096] w fun e w' => e = .returned (.tuple #[.int .u64 1, .nilIface]) ∧ Nd.InAt w' p sA 9 none ∧ (Nd.Grown w w' fun k => k = p) := by
  have hc := Nd.inum_good p sA 8 4096 w h sA_small
  rw [show Nd.fstM ((Nd.lst sA).drop 8) ((4096 : Nat) : Int) = (1, 1, 0) by rw [sA_lst]; rfl] at hc
  refine hc.mono ?_
  rintro e w' ⟨bad, er, rfl, h1, h2, h3⟩
  rcases h3 with ⟨_, rfl, rfl⟩ | ⟨h, _⟩
  · exact ⟨rfl, h1, h2⟩
  · exact absurd rfl h
theorem byt5 : Nd.byt (arkL.drop 9) ((1048576 : Nat) : Int) = (0, 6, [1, 1, 1, 0, 0]) := by
  rw [Nd.byt_eq, show Nd.fstM (arkL.drop 9) ((1048576 : Nat) : Int) = (5, 1, 0) by rfl]
  rfl
theorem bytes5 (p : Nat) (w : World) (h : Nd.InAt w p sA 9 none) : Calls Tryz.prog 74 #[ptr p, .int .i64 1048576] w fun e w' => ∃ g c, e = .returned (.tuple #[.slice (some ⟨g, 0, none⟩) 5 c, .nilIface]) ∧ Nd.InAt w' p sA 15 none ∧ (Nd.Grown w w' fun k => k = p) ∧ w.heap.size ≤ g ∧ Nd.OwnT w' (.slice (some ⟨g, 0, none⟩) 5 c) [1, 1, 1, 0, 0] := by
  refine (Nd.ibytes_good p sA 9 1048576 1048576 (by decide) w h sA_small (by decide) (arkL.drop 9) (by rw [sA_lst]) 0 (by rw [byt5]) 6 (by rw [byt5]) [1, 1, 1, 0, 0] (by rw [byt5])).mono ?_
  rintro e w' ⟨bad, er, res, rfl, h1, h2, h3, h4⟩
  rcases h4 with ⟨_, ho, k, hk, hk2, rfl⟩ | ⟨h, _⟩
  · rcases h3 with ⟨_, _, rfl⟩ | ⟨h, _⟩
    · have ho' : Nd.OwnT w' res [1, 1, 1, 0, 0] := ho
      rcases ho with ⟨_, e⟩ | ⟨g, cap, cur, fz, rfl, _⟩
      · exact absurd e (by simp)
      · cases hk
        exact ⟨g, cap, rfl, h1, h2, hk2, ho'⟩
    · exact absurd rfl h
  · exact absurd rfl h
theorem hash32 (p : Nat) (w : World) (h : Nd.InAt w p sA 15 none) : Calls Tryz.prog 77 #[ptr p] w fun e w' => e = .returned (.tuple #[.agg (bytesA 32 (shaH A15).f), .nilIface]) ∧ Nd.InAt w' p sA 47 none ∧ (Nd.Grown w w' fun k => k = p) := by
  refine (Nd.ihash_good p sA 15 w h sA_small (arkL.drop 15) (by rw [sA_lst]) 0 (by unfold Nd.nextW; rw [drop15, Nd.hl_len]; rfl) 32 (by unfold Nd.nextN Nd.nextW; rw [drop15, Nd.hl_len]; rfl)).mono ?_
  rintro e w' ⟨bad, er, rfl, h1, h2, h3⟩
  rcases h3 with ⟨_, rfl, rfl⟩ | ⟨h, _⟩
  · refine ⟨?_, h1, h2⟩
    rw [show Nd.bytesA 32 (Nd.hrd (arkL.drop 15) 0) = Nd.bytesA 32 (shaH A15).f from Nd.bytesA_congr fun i hi => by unfold Nd.hrd; rw [if_pos rfl, drop15, Nd.hl_get _ _ _ hi]]
    rfl
  · exact absurd rfl h
theorem at_n (p a : Nat) (n : Int) (hn : (a : Int) = n) (w : World) (h : Nd.InAt w p sA a none) : Calls Tryz.prog 69 #[ptr p] w fun e w' => e = .returned (.int .i64 n) ∧ w' = w := hn ▸ Nd.iat_any p sA a none w h
set_option maxRecDepth 8000 in
theorem must44 (n : Int) (w : World) : Calls Tryz.prog 44 #[.int .u64 n, .nilIface] w fun e w' => e = .returned (.int .u64 n) ∧ w' = w := by
  go_enter Tryz.func44, Tryz.ntmps44
  refine wp_seq_k fun K1 hK1 => ?_
  refine wp_region_list (WL.out ?_)
  refine WL.val (by kernel_rfl) (.int .u64 0) (by go_simp) ?_
  simp only [Act.put, List.setIfInBounds_toArray, List.set_cons_zero, List.set_cons_succ]
  refine WL.nil ?_
  refine hK1 _ _ ?_
  refine wp_seq_k fun K2 hK2 => ?_
  refine wp_seq_k fun K3 hK3 => ?_
  refine wp_region_list (WL.out ?_)
  refine WL.val (by kernel_rfl) (.nilIface) (by go_simp) ?_
  simp only [Act.put, List.setIfInBounds_toArray, List.set_cons_zero, List.set_cons_succ]
  refine WL.val (by kernel_rfl) (.bool false) (by go_simp) ?_
  simp only [Act.put, List.setIfInBounds_toArray, List.set_cons_zero, List.set_cons_succ]
  refine WL.nil ?_
  refine hK3 _ _ ?_
  refine wp_cond_false rfl ?_
  refine wp_skip ?_
  refine hK2 _ _ ?_
  refine wp_seq_k fun K4 hK4 => ?_
  refine wp_region_list (WL.out ?_)
  refine WL.val (by kernel_rfl) (.int .u64 n) (by go_simp) ?_
  simp only [Act.put, List.setIfInBounds_toArray, List.set_cons_zero, List.set_cons_succ]
  refine WL.val (by kernel_rfl) (.int .u64 n) (by go_simp) ?_
  simp only [Act.put, List.setIfInBounds_toArray, List.set_cons_zero, List.set_cons_succ]
  refine WL.nil ?_
  refine hK4 _ _ ?_
  refine wp_ret ?_
  go_ret
  exact ⟨rfl, rfl⟩
set_option maxRecDepth 8000 in
theorem must70 (a : Option Addr) (n c : Nat) (w : World) : Calls Tryz.prog 70 #[.slice a n c, .nilIface] w fun e w' => e = .returned (.slice a n c) ∧ w' = w := by
  go_enter Tryz.func70, Tryz.ntmps70
  refine wp_seq_k fun K1 hK1 => ?_
  refine wp_region_list (WL.out ?_)
  refine WL.val (by kernel_rfl) (.slice none 0 0) (by go_simp) ?_
  simp only [Act.put, List.setIfInBounds_toArray, List.set_cons_zero, List.set_cons_succ]
  refine WL.nil ?_
  refine hK1 _ _ ?_
  refine wp_seq_k fun K2 hK2 => ?_
  refine wp_seq_k fun K3 hK3 => ?_
  refine wp_region_list (WL.out ?_)
  refine WL.val (by kernel_rfl) (.nilIface) (by go_simp) ?_
  simp only [Act.put, List.setIfInBounds_toArray, List.set_cons_zero, List.set_cons_succ]
  refine WL.val (by kernel_rfl) (.bool false) (by go_simp) ?_
  simp only [Act.put, List.setIfInBounds_toArray, List.set_cons_zero, List.set_cons_succ]
  refine WL.nil ?_
  refine hK3 _ _ ?_
  refine wp_cond_false rfl ?_
  refine wp_skip ?_
  refine hK2 _ _ ?_
  refine wp_seq_k fun K4 hK4 => ?_
  refine wp_region_list (WL.out ?_)
  refine WL.val (by kernel_rfl) (.slice a n c) (by go_simp) ?_
  simp only [Act.put, List.setIfInBounds_toArray, List.set_cons_zero, List.set_cons_succ]
  refine WL.val (by kernel_rfl) (.slice a n c) (by go_simp) ?_
  simp only [Act.put, List.setIfInBounds_toArray, List.set_cons_zero, List.set_cons_succ]
  refine WL.nil ?_
  refine hK4 _ _ ?_
  refine wp_ret ?_
  go_ret
  exact ⟨rfl, rfl⟩
theorem Tryz.results76 : Tryz.f76.results = #[.cell 4 50] := by kernel_rfl
set_option maxRecDepth 8000 in
theorem must76 (c : Nat → Int) (w : World) : Calls Tryz.prog 76 #[.agg (bytesA 32 c), .nilIface] w fun e w' => e = .returned (.agg (bytesA 32 c)) ∧ Below w.heap.size w w' := by
  go_enter Tryz.func76, Tryz.ntmps76
  refine wp_seq_k fun K1 hK1 => ?_
  refine wp_region_list (WL.out ?_)
  refine WL.box (by kernel_rfl) 50 (.tmp 0) rfl (bytesA 32 c) rfl ?_
  have H2 := Keep.mk (Blk.new w 50 (bytesA 32 c))
  have b_b2 := Keep.mk (below_new w (.cells (bytesA 32 c) 50))
  change WL _ _ _ _ _ (w.alloc (.cells (bytesA 32 c) 50))
  generalize w.alloc (.cells (bytesA 32 c) 50) = w1 at *
  obtain ⟨b2, hb2⟩ : ∃ z, Keep (z = w.heap.size) := ⟨_, ⟨rfl⟩⟩
  rw [← hb2.out] at H2 ⊢
  simp only [Act.put, List.setIfInBounds_toArray, List.set_cons_zero, List.set_cons_succ]
  refine WL.new (by kernel_rfl) 50 rfl _ Tryz.new50h ?_
  have H4 := Keep.mk (Blk.new w1 50 (bytesA 32 fun _ => 0))
  have b_b4 := Keep.mk (below_new w1 (.cells (bytesA 32 fun _ => 0) 50))
  generalize w1.alloc (.cells (bytesA 32 fun _ => 0) 50) = w2 at *
  obtain ⟨b4, hb4⟩ : ∃ z, Keep (z = w1.heap.size) := ⟨_, ⟨rfl⟩⟩
  rw [← hb4.out] at H4 ⊢
  simp only [Act.put, List.setIfInBounds_toArray, List.set_cons_zero, List.set_cons_succ]
  refine WL.nil ?_
  refine hK1 _ _ ?_
  refine wp_seq_k fun K2 hK2 => ?_
  refine wp_seq_k fun K3 hK3 => ?_
  refine wp_region_list (WL.out ?_)
  refine WL.val (by kernel_rfl) (.nilIface) (by go_simp) ?_
  simp only [Act.put, List.setIfInBounds_toArray, List.set_cons_zero, List.set_cons_succ]
  refine WL.val (by kernel_rfl) (.bool false) (by go_simp) ?_
  simp only [Act.put, List.setIfInBounds_toArray, List.set_cons_zero, List.set_cons_succ]
  refine WL.nil ?_
  refine hK3 _ _ ?_
  refine wp_cond_false rfl ?_
  refine wp_skip ?_
  refine hK2 _ _ ?_
  refine wp_seq_k fun K4 hK4 => ?_
  refine wp_region_list (WL.out ?_)
  refine WL.row (by kernel_rfl) 50 (.tmp 2) rfl b2 rfl 50 (bytesA 32 c) _ (H2.out.below b_b4.out H2.out.lt) Tryz.underlying50 rfl (size51E _) ?_
  simp only [Act.put, List.setIfInBounds_toArray, List.set_cons_zero, List.set_cons_succ]
  refine WL.storeR (by kernel_rfl) 50 (.tmp 4) (.tmp 9) rfl b4 (bytesA 32 c) rfl rfl 50 (bytesA 32 fun _ => 0) H4.out (size51E _) (bytesA_sizes _ _ _) (bytesA_one _ _) ?_
  have H5 := Keep.mk (H4.out.setRow (bytesA 32 c))
  have g_w3 : Keep (Grown w2 (w2.setRow b4 (bytesA 32 c)) fun k => k = b4) := ⟨Grown.setRow w2 b4 _ fun _ => rfl⟩
  clear H4
  generalize w2.setRow b4 (bytesA 32 c) = w3 at *
  simp only [Act.put]
  refine WL.nil ?_
  refine hK4 _ _ ?_
  refine wp_ret ?_
  have k1 := hb4.out
  have k2 := b_b2.out.size
  exact bodyPost_ret (v := .agg (bytesA 32 c)) (results_cell_row Tryz.results76 _ _ b4 50 _ (0, 0) _ rfl H5.out Tryz.underlying50 rfl (size51E _)) rfl ⟨rfl, b_b2.out.trans ((b_b4.out.mono b_b2.out.size).trans (g_w3.out.to_below (fun k hk e => by omega) (Nat.le_trans b_b2.out.size b_b4.out.size)))⟩
set_option maxRecDepth 8000 in
theorem mark_is (p : Nat) (w : World) (HI : Keep (Nd.InAt w p sA 0 none)) : Calls Tryz.prog 43 #[.pointer (some ⟨p, 0, none⟩)] w fun e w' => e = .returned (.tuple #[]) ∧ Nd.InAt w' p sA 8 none ∧ (Nd.Grown w w' fun k => k = p) := by
  go_enter Tryz.func43, Tryz.ntmps43
  refine wp_seq_k fun K1 hK1 => ?_
  refine wp_region_list (WL.out ?_)
  refine WL.val (by kernel_rfl) (.pointer (some ⟨p, 0, none⟩)) (by go_simp) ?_
  simp only [Act.put, List.setIfInBounds_toArray, List.set_cons_zero, List.set_cons_succ]
  refine WL.callF (by kernel_rfl) 69 _ _ rfl Nd.Tryz.in69 #[.pointer (some ⟨p, 0, none⟩)] (by simp [Act.eval]) ?_
  refine (at_n p 0 0 rfl w HI.out).mono ?_
  rintro e wx ⟨rfl, hwx⟩
  refine ⟨_, rfl, ?_⟩
  subst hwx
  simp only [Act.put, List.setIfInBounds_toArray, List.set_cons_zero, List.set_cons_succ]
  refine WL.val (by kernel_rfl) (.int .i64 0) (by go_simp) ?_
  simp only [Act.put, List.setIfInBounds_toArray, List.set_cons_zero, List.set_cons_succ]
  refine WL.nil ?_
  refine hK1 _ _ ?_
  refine wp_seq_k fun K2 hK2 => ?_
  refine wp_region_list (WL.out ?_)
  refine WL.val (by kernel_rfl) (.pointer (some ⟨p, 0, none⟩)) (by go_simp) ?_
  simp only [Act.put, List.setIfInBounds_toArray, List.set_cons_zero, List.set_cons_succ]
  refine WL.callF (by kernel_rfl) 71 _ _ rfl Tryz.in71 #[.pointer (some ⟨p, 0, none⟩), .int .i64 8] (by simp [Act.eval]) ?_
  refine (raw8 p wx HI.out).mono ?_
  rintro e w1 ⟨g, c, rfl, k1, k2, k3, k4⟩
  refine ⟨_, rfl, ?_⟩
  have HI1 := Keep.mk k1
  have G1 := Keep.mk k2
  have HO1 := Keep.mk k4
  clear k1 k2 k3 k4
  simp only [Act.put, List.setIfInBounds_toArray, List.set_cons_zero, List.set_cons_succ]
  refine WL.val (by kernel_rfl) (.slice (some ⟨g, 0, none⟩) 8 c) (by go_simp) ?_
  simp only [Act.put, List.setIfInBounds_toArray, List.set_cons_zero, List.set_cons_succ]
  refine WL.val (by kernel_rfl) (.nilIface) (by go_simp) ?_
  simp only [Act.put, List.setIfInBounds_toArray, List.set_cons_zero, List.set_cons_succ]
  refine WL.callF (by kernel_rfl) 70 _ _ rfl Tryz.in70 #[.slice (some ⟨g, 0, none⟩) 8 c, .nilIface] (by simp [Act.eval]) ?_
  refine (must70 (some ⟨g, 0, none⟩) 8 c w1).mono ?_
  rintro e w2 ⟨rfl, hw2⟩
  refine ⟨_, rfl, ?_⟩
  have hw2 := hw2.symm
  subst hw2
  simp only [Act.put, List.setIfInBounds_toArray, List.set_cons_zero, List.set_cons_succ]
  have hcv := Nd.conv_row _ [80, 76, 69, 65, 67, 72, 65, 49] w1 HO1.out.row
  refine WL.val (by kernel_rfl) (.string (strOfNums [80, 76, 69, 65, 67, 72, 65, 49])) (by go_simp) ?_
  clear hcv
  simp only [Act.put, List.setIfInBounds_toArray, List.set_cons_zero, List.set_cons_succ]
  refine WL.val (by kernel_rfl) (.bool false) (by kernel_rfl) ?_
  simp only [Act.put, List.setIfInBounds_toArray, List.set_cons_zero, List.set_cons_succ]
  refine WL.nil ?_
  refine hK2 _ _ ?_
  refine wp_cond_false rfl ?_
  refine wp_skip ?_
  go_end0
  exact ⟨rfl, HI1.out, G1.out⟩
set_option maxRecDepth 8000 in
theorem end_is (p : Nat) (w : World) (HI : Keep (Nd.InAt w p sA 47 none)) : Calls Tryz.prog 48 #[.pointer (some ⟨p, 0, none⟩)] w fun e w' => e = .returned .nilIface ∧ Below w.heap.size w w' := by
  go_enter Tryz.func48, Tryz.ntmps48
  refine wp_seq_k fun K1 hK1 => ?_
  refine wp_region_list (WL.out ?_)
  refine WL.val (by kernel_rfl) (.nilIface) (by go_simp) ?_
  simp only [Act.put, List.setIfInBounds_toArray, List.set_cons_zero, List.set_cons_succ]
  refine WL.nil ?_
  refine hK1 _ _ ?_
  refine wp_seq_k fun K2 hK2 => ?_
  refine wp_seq_k fun K3 hK3 => ?_
  refine wp_region_list (WL.out ?_)
  refine WL.val (by kernel_rfl) (.pointer (some ⟨p, 0, none⟩)) (by go_simp) ?_
  simp only [Act.put, List.setIfInBounds_toArray, List.set_cons_zero, List.set_cons_succ]
  refine WL.val (by kernel_rfl) (.pointer (some ⟨p, 0, none⟩)) (by go_simp) ?_
  simp only [Act.put, List.setIfInBounds_toArray, List.set_cons_zero, List.set_cons_succ]
  refine WL.val (by kernel_rfl) (.pointer (some ⟨p, 2, none⟩)) (by go_simp) ?_
  simp only [Act.put, List.setIfInBounds_toArray, List.set_cons_zero, List.set_cons_succ]
  have cS : w.cell? ⟨p, 2, none⟩ = some (.pointer none) := by rw [HI.out.blk.cell]; rfl
  refine WL.val (by kernel_rfl) (.pointer none) (by go_simp) ?_
  clear cS
  simp only [Act.put, List.setIfInBounds_toArray, List.set_cons_zero, List.set_cons_succ]
  refine WL.val (by kernel_rfl) (.bool false) (by go_simp) ?_
  simp only [Act.put, List.setIfInBounds_toArray, List.set_cons_zero, List.set_cons_succ]
  refine WL.nil ?_
  refine hK3 _ _ ?_
  refine wp_cond_false rfl ?_
  refine wp_skip ?_
  refine hK2 _ _ ?_
  refine wp_seq_k fun K4 hK4 => ?_
  refine wp_seq_k fun K5 hK5 => ?_
  refine wp_region_list (WL.out ?_)
  refine WL.val (by kernel_rfl) (.pointer (some ⟨p, 0, none⟩)) (by go_simp) ?_
  simp only [Act.put, List.setIfInBounds_toArray, List.set_cons_zero, List.set_cons_succ]
  refine WL.callF (by kernel_rfl) 78 _ _ rfl Nd.Tryz.in78 #[.pointer (some ⟨p, 0, none⟩)] (by simp [Act.eval]) ?_
  refine (Nd.ileft_any p sA 47 none w HI.out sA_small).mono ?_
  rintro e wx ⟨rfl, q, hwx⟩
  refine ⟨_, rfl, ?_⟩
  rw [sA_size]
  simp only [Act.put, List.setIfInBounds_toArray, List.set_cons_zero, List.set_cons_succ]
  refine WL.val (by kernel_rfl) (.bool false) (by go_simp) ?_
  simp only [Act.put, List.setIfInBounds_toArray, List.set_cons_zero, List.set_cons_succ]
  refine WL.nil ?_
  refine hK5 _ _ ?_
  refine wp_cond_false rfl ?_
  refine wp_skip ?_
  refine hK4 _ _ ?_
  refine wp_seq_k fun K6 hK6 => ?_
  refine wp_region_list (WL.out ?_)
  refine WL.val (by kernel_rfl) (.nilIface) (by go_simp) ?_
  simp only [Act.put, List.setIfInBounds_toArray, List.set_cons_zero, List.set_cons_succ]
  refine WL.nil ?_
  refine hK6 _ _ ?_
  refine wp_ret ?_
  go_ret
  exact ⟨rfl, by rw [hwx]; exact ⟨rfl, rfl, rfl, Nat.le_refl _, fun _ _ => rfl⟩⟩

end Go.Proofs.YtdkhjeofjhcceaaGreatDoor
