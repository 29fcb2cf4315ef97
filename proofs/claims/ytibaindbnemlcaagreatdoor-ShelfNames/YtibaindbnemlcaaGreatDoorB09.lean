import Derived.Test.YtibaindbnemlcaaGreatDoorB08
import Derived.Test.YtibaindbnemlcaaGreatDoorB02
import Derived.Below
import Derived.WalkKit
import Derived.LaidEql
import Derived.Stop.Asserts
import Derived.RowKitTokens
namespace Go.Proofs.YtibaindbnemlcaaGreatDoor
open Go.RowKit
set_option linter.unusedSimpArgs false
set_option linter.unusedVariables false
theorem Tryz.in14 (w : World) (vs : Array Value) : (callFunc 14 vs).run Tryz.prog w = .ok (.enter 14 vs) w := by kernel_rfl
theorem Tryz.new27 (w : World) : (Instr.alloc 27 true (.tuple #[])).run Tryz.prog w = .ok (.pointer (some ⟨w.heap.size, 0, none⟩)) (w.alloc (.cells #[.int .i64 0, .slice none 0 0, .slice none 0 0] 27)) := by kernel_rfl
theorem bsH25 (c : Nat → Int) (w : World) : (Instr.buildSlice 25 1 #[(0, .agg (bytesA 32 c))]).run Tryz.prog w = .ok (.slice (some ⟨w.heap.size, 0, none⟩) 1 1) (w.alloc (.cells (bytesA 32 c) 51)) := by kernel_rfl
theorem app0 (g : Nat) (w : World) : (Builtin.append_ #[25, 25] 25 #[.slice (some ⟨g, 0, none⟩) 1 1, .slice none 0 0]).run Tryz.prog w = .ok (.slice (some ⟨g, 0, none⟩) 1 1) w := by kernel_rfl
theorem fit_vv (d : Nat) (x : Hs) (bp : Nat) (vv : Array Value) (hvv : vv = vtx x.f 1 (.slice (some ⟨bp, 0, none⟩) 0 0)) (g : DG) (Av : Nat → Prop) (w : World) (hD : DagAt w Av d g) (a b : Int) (hf : fitV g.held g.wait ⟨x, 1, []⟩ = (a, b)) (hh : g.held = [] ∨ g.held = [⟨x, 1, []⟩]) :
    Calls Tryz.prog 21 #[ptr d, .agg vv] w fun e w' => e = .returned (.tuple #[.int .i64 a, .int .i64 b]) ∧ Below w.heap.size w w' := by
  subst hvv
  refine (fit_any d (⟨x, 1, []⟩ : VX) (.slice (some ⟨bp, 0, none⟩) 0 0) Av g w hD (hrow0 w bp) (fun v hv => ?_) (by simp)).mono ?_
  · rcases hh with h | h <;> rw [h] at hv <;> simp at hv
    subst hv
    show (0 : Int) ≤ 1 ∧ (1 : Int) ≤ 4096
    decide
  · rintro e w' ⟨h1, h2⟩
    rw [hf] at h1
    exact ⟨h1, h2⟩
set_option maxRecDepth 8000 in
set_option maxHeartbeats 1000000 in
theorem place_known (s d mb : Nat) (g : DG) (Av : Nat → Prop) (w : World) (HS : Keep (ShAt w s d mb g Av)) (x : Hs) (bp : Nat) (vv : Array Value) (hvv : Keep (vv = vtx x.f 1 (.slice (some ⟨bp, 0, none⟩) 0 0))) (ad : Addr) (n c : Nat) (Hf : Keep (fitV g.held g.wait ⟨x, 1, []⟩ = (1, 0))) (Hh : Keep (g.held = [] ∨ g.held = [⟨x, 1, []⟩])) : Calls Tryz.prog 14 #[.pointer (some ⟨s, 0, none⟩), .agg vv, .slice (some ad) n c] w fun e w' => e = .returned (.agg #[.int .i64 1, .slice none 0 0, .slice none 0 0]) ∧ Below w.heap.size w w' := by
  go_enter Tryz.func14, Tryz.ntmps14
  refine wp_seq_k fun K1 hK1 => ?_
  refine wp_region_list (WL.out ?_)
  refine WL.box (by kernel_rfl) 62 (.tmp 1) rfl vv rfl ?_
  have H4 := Keep.mk (Blk.new w 62 vv)
  have b_b4 := Keep.mk (below_new w (.cells vv 62))
  change WL _ _ _ _ _ (w.alloc (.cells vv 62))
  generalize w.alloc (.cells vv 62) = w1 at *
  obtain ⟨b4, hb4⟩ : ∃ z, Keep (z = w.heap.size) := ⟨_, ⟨rfl⟩⟩
  rw [← hb4.out] at H4 ⊢
  simp only [Act.put, List.setIfInBounds_toArray, List.set_cons_zero, List.set_cons_succ]
  refine WL.new (by kernel_rfl) 27 rfl _ Tryz.new27 ?_
  have H6 := Keep.mk (Blk.new w1 27 #[.int .i64 0, .slice none 0 0, .slice none 0 0])
  have b_b6 := Keep.mk (below_new w1 (.cells #[.int .i64 0, .slice none 0 0, .slice none 0 0] 27))
  generalize w1.alloc (.cells #[.int .i64 0, .slice none 0 0, .slice none 0 0] 27) = w2 at *
  obtain ⟨b6, hb6⟩ : ∃ z, Keep (z = w1.heap.size) := ⟨_, ⟨rfl⟩⟩
  rw [← hb6.out] at H6 ⊢
  have H42 := Keep.mk (H4.out.below b_b6.out H4.out.lt)
  have B2 : Keep (Below w.heap.size w w2) := ⟨b_b4.out.trans (b_b6.out.mono b_b4.out.size)⟩
  have HS2 := Keep.mk (HS.out.below B2.out)
  have LT : Keep (w.heap.size ≤ b4 ∧ b4 < b6 ∧ s < w.heap.size ∧ mb < w.heap.size ∧ ∀ k, DgS d g k → k < w.heap.size) := ⟨by
    obtain ⟨es, ck, hm⟩ := HS.out.mp
    have h1 := hb4.out
    have h2 := hb6.out
    have h3 := H4.out.lt
    exact ⟨by omega, by omega, HS.out.bl.lt, (Array.getElem?_eq_some_iff.1 hm).1, fun k e => HS.out.dg.lt k (HS.out.dg.av k e)⟩⟩
  clear H4 b_b4 b_b6
  simp only [Act.put, List.setIfInBounds_toArray, List.set_cons_zero, List.set_cons_succ]
  refine WL.nil ?_
  refine hK1 _ _ ?_
  refine wp_seq_k fun K2 hK2 => ?_
  refine wp_region_held_drew (S := fun wx => wx.cell? ⟨s, 1, none⟩ = some (.pointer (some ⟨d, 0, none⟩)) ∧ Blk wx b4 62 vv) (by kernel_rfl) (⟨HS2.out.bl.drew.c 1 rfl, H42.out.drew⟩) (fun hHeld => ?_)
  have bd := (Below.refl w2.heap.size w2).drew
  have HS3 := Keep.mk (HS2.out.below bd)
  have H43 := Keep.mk H42.out.drew
  have H63 := Keep.mk H6.out.drew
  have B3 : Keep (Below w.heap.size w w2.drew) := ⟨B2.out.drew⟩
  clear HS2 H42 H6 bd B2
  generalize w2.drew = w3 at *
  refine wpAnyH_take (i := 0) (oi := ⟨some 12, Op.move (Operand.tmp 0), 23, _, _, none⟩) (v := .pointer (some ⟨s, 0, none⟩)) rfl (by kernel_rfl) (by kernel_rfl) (by kernel_rfl) (fun _ _ _ h => h) (Or.inl ⟨by rfl, fun w hS => by have cS := hS.1; go_simp⟩) hHeld ?_
  simp only [Act.put, List.setIfInBounds_toArray, List.set_cons_zero, List.set_cons_succ]
  refine wpAnyH_take (i := 1) (oi := ⟨some 13, Op.nilCheck (Operand.tmp 12), 0, _, _, none⟩) (v := .pointer (some ⟨s, 0, none⟩)) rfl (by kernel_rfl) (by kernel_rfl) (by kernel_rfl) (fun _ _ _ h => h) (Or.inl ⟨by rfl, fun w hS => by have cS := hS.1; go_simp⟩) hHeld ?_
  simp only [Act.put, List.setIfInBounds_toArray, List.set_cons_zero, List.set_cons_succ]
  refine wpAnyH_take (i := 2) (oi := ⟨some 14, Op.fieldAddr 48 (Operand.tmp 13) 1, 0, _, _, none⟩) (v := .pointer (some ⟨s, 1, none⟩)) rfl (by kernel_rfl) (by kernel_rfl) (by kernel_rfl) (fun _ _ _ h => h) (Or.inl ⟨by rfl, fun w hS => by have cS := hS.1; go_simp⟩) hHeld ?_
  simp only [Act.put, List.setIfInBounds_toArray, List.set_cons_zero, List.set_cons_succ]
  refine wpAnyH_take (i := 3) (oi := ⟨some 15, Op.load 42 (Operand.tmp 14), 42, _, _, none⟩) (v := .pointer (some ⟨d, 0, none⟩)) rfl (by kernel_rfl) (by kernel_rfl) (by kernel_rfl) (fun _ _ _ h => h) (Or.inl ⟨by rfl, fun w hS => by have cS := hS.1; go_simp⟩) hHeld ?_
  simp only [Act.put, List.setIfInBounds_toArray, List.set_cons_zero, List.set_cons_succ]
  refine wpAnyH_take (i := 4) (oi := ⟨some 16, Op.load 62 (Operand.tmp 4), 62, _, _, none⟩) (v := .agg vv) rfl (by kernel_rfl) (by kernel_rfl) (by kernel_rfl) (fun _ _ _ h => h) (yieldsIf_ld (by rfl) (Operand.tmp 4) 62 rfl b4 0 rfl vv _ Tryz.underlying62 rfl (by rw [hvv.out]; exact sizeV62 _ _ _) fun w hS => blk_range hS.2) hHeld ?_
  simp only [Act.put, List.setIfInBounds_toArray, List.set_cons_zero, List.set_cons_succ]
  refine wpAnyH_ready (rs := [5]) (by kernel_rfl) (by simp) ?_
  refine AllReadyH.cons (o := ⟨some 17, Op.call { callee := Callee.value (Operand.func 21), args := #[Operand.tmp 15, Operand.tmp 16], argTypes := #[42, 62] }, 79, _, _, none⟩) rfl (fun K hK => ?_) AllReadyH.nil
  rw [if_pos (by rfl)]
  refine wp_callF 21 _ _ rfl Tryz.in21 #[ptr d, .agg vv] (by simp [Act.eval]) (fun vz wz => vz = .tuple #[.int .i64 1, .int .i64 0] ∧ Below w3.heap.size w3 wz) ?_ ?_
  · refine (fit_vv d x bp vv hvv.out g Av w3 HS3.out.dg _ _ Hf.out Hh.out).mono ?_
    rintro e wz ⟨rfl, k1⟩
    exact ⟨_, rfl, rfl, k1⟩
  rintro vz w4 ⟨rfl, k1⟩
  have B4 : Keep (Below w.heap.size w w4) := ⟨B3.out.trans (k1.mono B3.out.size)⟩
  have HS4 := Keep.mk (HS3.out.below k1)
  have H44 := Keep.mk (H43.out.below k1 H43.out.lt)
  have H64 := Keep.mk (H63.out.below k1 H63.out.lt)
  clear k1
  refine hK _ _ (⟨HS4.out.bl.c 1 rfl, H44.out⟩) fun hHa => ?_
  clear hK
  simp only [Act.put, List.setIfInBounds_toArray, List.set_cons_zero, List.set_cons_succ]
  refine wpAnyH_take (i := 6) (oi := ⟨some 11, Op.move (Operand.tmp 17), 79, _, _, none⟩) (v := .tuple #[.int .i64 1, .int .i64 0]) rfl (by kernel_rfl) (by kernel_rfl) (by kernel_rfl) (fun _ _ _ h => h) (Or.inl ⟨by rfl, fun w hS => by have cS := hS.1; go_simp⟩) hHa ?_
  simp only [Act.put, List.setIfInBounds_toArray, List.set_cons_zero, List.set_cons_succ]
  refine wpAnyH_take (i := 7) (oi := ⟨some 18, Op.extract (Operand.tmp 11) 0, 3, _, _, none⟩) (v := .int .i64 1) rfl (by kernel_rfl) (by kernel_rfl) (by kernel_rfl) (fun _ _ _ h => h) (Or.inl ⟨by rfl, fun w hS => by have cS := hS.1; go_simp⟩) hHa ?_
  simp only [Act.put, List.setIfInBounds_toArray, List.set_cons_zero, List.set_cons_succ]
  refine wpAnyH_take (i := 8) (oi := ⟨some 19, Op.extract (Operand.tmp 11) 1, 43, _, _, none⟩) (v := .int .i64 0) rfl (by kernel_rfl) (by kernel_rfl) (by kernel_rfl) (fun _ _ _ h => h) (Or.inl ⟨by rfl, fun w hS => by have cS := hS.1; go_simp⟩) hHa ?_
  simp only [Act.put, List.setIfInBounds_toArray, List.set_cons_zero, List.set_cons_succ]
  refine wpAnyH_take (i := 9) (oi := ⟨some 7, Op.assign (Operand.tmp 18), 3, _, _, none⟩) (v := .int .i64 1) rfl (by kernel_rfl) (by kernel_rfl) (by kernel_rfl) (fun _ _ _ h => h) (Or.inl ⟨by rfl, fun w hS => by have cS := hS.1; go_simp⟩) hHa ?_
  simp only [Act.put, List.setIfInBounds_toArray, List.set_cons_zero, List.set_cons_succ]
  refine wpAnyH_take (i := 10) (oi := ⟨some 8, Op.assign (Operand.tmp 19), 43, _, _, none⟩) (v := .int .i64 0) rfl (by kernel_rfl) (by kernel_rfl) (by kernel_rfl) (fun _ _ _ h => h) (Or.inl ⟨by rfl, fun w hS => by have cS := hS.1; go_simp⟩) hHa ?_
  simp only [Act.put, List.setIfInBounds_toArray, List.set_cons_zero, List.set_cons_succ]
  refine wpAnyH_done (by kernel_rfl) ?_ _
  refine hK2 _ _ ?_
  refine wp_seq_k fun K3 hK3 => ?_
  refine wp_seq_k fun K4 hK4 => ?_
  refine wp_region_list (WL.out ?_)
  refine WL.val (by kernel_rfl) (.int .i64 1) (by go_simp) ?_
  simp only [Act.put, List.setIfInBounds_toArray, List.set_cons_zero, List.set_cons_succ]
  refine WL.val (by kernel_rfl) (.bool false) (by go_simp) ?_
  simp only [Act.put, List.setIfInBounds_toArray, List.set_cons_zero, List.set_cons_succ]
  refine WL.nil ?_
  refine hK4 _ _ ?_
  refine wp_cond_false rfl ?_
  refine wp_skip ?_
  refine hK3 _ _ ?_
  refine wp_seq_k fun K5 hK5 => ?_
  refine wp_seq_k fun K6 hK6 => ?_
  refine wp_region_list (WL.out ?_)
  refine WL.val (by kernel_rfl) (.int .i64 0) (by go_simp) ?_
  simp only [Act.put, List.setIfInBounds_toArray, List.set_cons_zero, List.set_cons_succ]
  refine WL.val (by kernel_rfl) (.bool false) (by go_simp) ?_
  simp only [Act.put, List.setIfInBounds_toArray, List.set_cons_zero, List.set_cons_succ]
  refine WL.nil ?_
  refine hK6 _ _ ?_
  refine wp_cond_false rfl ?_
  refine wp_skip ?_
  refine hK5 _ _ ?_
  refine wp_seq_k fun K7 hK7 => ?_
  refine wp_seq_k fun K8 hK8 => ?_
  refine wp_region_list (WL.out ?_)
  refine WL.val (by kernel_rfl) (.int .i64 1) (by go_simp) ?_
  simp only [Act.put, List.setIfInBounds_toArray, List.set_cons_zero, List.set_cons_succ]
  refine WL.nil ?_
  refine hK8 _ _ ?_
  refine wp_block ?_
  refine wp_seq_k fun K9 hK9 => ?_
  refine wp_region_list (WL.out ?_)
  refine WL.val (by kernel_rfl) (.bool false) (by go_simp) ?_
  simp only [Act.put, List.setIfInBounds_toArray, List.set_cons_zero, List.set_cons_succ]
  refine WL.val (by kernel_rfl) (.bool false) (by go_simp) ?_
  simp only [Act.put, List.setIfInBounds_toArray, List.set_cons_zero, List.set_cons_succ]
  refine WL.nil ?_
  refine hK9 _ _ ?_
  refine wp_cond_false rfl ?_
  refine wp_seq_k fun K10 hK10 => ?_
  refine wp_region_list (WL.out ?_)
  refine WL.val (by kernel_rfl) (.bool false) (by go_simp) ?_
  simp only [Act.put, List.setIfInBounds_toArray, List.set_cons_zero, List.set_cons_succ]
  refine WL.val (by kernel_rfl) (.bool false) (by go_simp) ?_
  simp only [Act.put, List.setIfInBounds_toArray, List.set_cons_zero, List.set_cons_succ]
  refine WL.nil ?_
  refine hK10 _ _ ?_
  refine wp_cond_false rfl ?_
  refine wp_skip ?_
  refine hK7 _ _ ?_
  refine wp_seq_k fun K11 hK11 => ?_
  refine wp_region_list (WL.out ?_)
  refine WL.val (by kernel_rfl) (.int .i64 1) (by go_simp) ?_
  simp only [Act.put, List.setIfInBounds_toArray, List.set_cons_zero, List.set_cons_succ]
  refine WL.bld (by kernel_rfl) 27 _ rfl [(0, .int .i64 1)] (by simp [Act.eval]) #[.int .i64 1, .slice none 0 0, .slice none 0 0] (by kernel_rfl) ?_
  simp only [Act.put, List.setIfInBounds_toArray, List.set_cons_zero, List.set_cons_succ]
  refine WL.storeR (by kernel_rfl) 27 (.tmp 6) (.tmp 59) rfl b6 #[.int .i64 1, .slice none 0 0, .slice none 0 0] rfl rfl 27 #[.int .i64 0, .slice none 0 0, .slice none 0 0] H64.out (by kernel_rfl) rfl (by simp [Value.oneCell']) ?_
  have H65 := Keep.mk (H64.out.setRow #[.int .i64 1, .slice none 0 0, .slice none 0 0])
  have g_w5 : Keep (Grown w4 (w4.setRow b6 #[.int .i64 1, .slice none 0 0, .slice none 0 0]) fun k => k = b6) := ⟨Grown.setRow w4 b6 _ fun _ => rfl⟩
  clear H64
  generalize w4.setRow b6 #[.int .i64 1, .slice none 0 0, .slice none 0 0] = w5 at *
  simp only [Act.put]
  refine WL.nil ?_
  refine hK11 _ _ ?_
  refine wp_ret ?_
  try simp only [Exit.inBlock, Exit.then]
  have k1 := LT.out
  exact bodyPost_ret (v := .agg #[.int .i64 1, .slice none 0 0, .slice none 0 0]) (results_cell_row Tryz.results14 _ _ b6 27 _ (0, 0) _ rfl H65.out Tryz.underlying27 rfl (by kernel_rfl)) rfl ⟨rfl, B4.out.trans (g_w5.out.to_below (fun k hk e => by omega) B4.out.size)⟩
theorem hrow_any {w : World} {p : Value} (w' : World) (h : HRow w p []) : HRow w' p [] := by
  rcases h with ⟨a, c, h1, h2, h3⟩ | ⟨b, off, cap, h1, h2, _⟩
  · exact .inl ⟨a, c, h1, h2, h3⟩
  · exact .inr ⟨b, off, cap, h1, h2, fun j v hv => by simp [flatH] at hv⟩
theorem mp_one {w w' : World} {Av S : Nat → Prop} {b : Nat} {x : Hs} (h : MpAt w Av b [⟨x, 1, []⟩]) (hg : Grown w w' S) (hb : ¬ S b) : MpAt w' Av b [⟨x, 1, []⟩] := by
  obtain ⟨es, ck, h1, h2⟩ := h
  refine ⟨es, ck, by rw [hg.block b (Array.getElem?_eq_some_iff.1 h1).1 hb]; exact h1, ?_⟩
  generalize es.toList = l at *
  match l, h2 with
  | [e], ⟨⟨e1, p, e2, e3, e4⟩, _⟩ => exact ⟨⟨e1, p, e2, hrow_any w' e3, fun k hk => ⟨Nat.lt_of_lt_of_le (e4 k hk).1 hg.size, (e4 k hk).2⟩⟩, trivial⟩
theorem mp_none {w w' : World} {Av S : Nat → Prop} {b : Nat} (h : MpAt w Av b []) (hg : Grown w w' S) (hb : ¬ S b) : MpAt w' Av b [] := by
  obtain ⟨es, ck, h1, h2⟩ := h
  refine ⟨es, ck, by rw [hg.block b (Array.getElem?_eq_some_iff.1 h1).1 hb]; exact h1, ?_⟩
  generalize es.toList = l at *
  match l, h2 with
  | [], _ => trivial
theorem ShAt.keep1 {w w' : World} {s d mb : Nat} {g : DG} {Av S : Nat → Prop} {x : Hs} (h : ShAt w s d mb g Av) (e1 : g.held = [⟨x, 1, []⟩]) (e2 : g.wait = []) (hg : Grown w w' S) (hs : ∀ k, S k → k ≠ s ∧ k ≠ mb ∧ ¬ DgS d g k) : ShAt w' s d mb g Av := by
  obtain ⟨es, ck, hm⟩ := h.mp
  have hn : ∀ k, S k → ¬ DgS d g k := fun k e => (hs k e).2.2
  have D := h.dg
  refine ⟨hg.blk h.bl fun e => (hs _ e).1 rfl, ⟨es, ck, by rw [hg.block mb (Array.getElem?_eq_some_iff.1 hm).1 fun e => (hs _ e).2.1 rfl]; exact hm⟩, ⟨hg.blk D.blk fun e => hn _ e (.inl rfl), ?_, ?_, D.oh.grown hg (fun k hk e => hn _ e (.inr (.inr (.inr (.inl hk))))), D.oo.grown hg (fun k hk e => hn _ e (.inr (.inr (.inr (.inr (.inl hk)))))), D.oq.grown hg (fun k hk e => hn _ e (.inr (.inr (.inr (.inr (.inr hk)))))), D.mm, D.ho, D.hq, D.oq', D.av, fun k e => Nat.lt_of_lt_of_le (D.lt k e) hg.size⟩, h.ns, h.av⟩
  · have h0 := D.held
    rw [e1] at h0 ⊢
    exact mp_one h0 hg fun e => hn _ e (.inr (.inl rfl))
  · have h0 := D.wait
    rw [e2] at h0 ⊢
    exact mp_none h0 hg fun e => hn _ e (.inr (.inr (.inl rfl)))
set_option maxRecDepth 8000 in
set_option maxHeartbeats 2000000 in
theorem place_took (s d mb : Nat) (g : DG) (Av : Nat → Prop) (w : World) (HS : Keep (ShAt w s d mb g Av)) (x : Hs) (bp : Nat) (vv : Array Value) (hvv : Keep (vv = vtx x.f 1 (.slice (some ⟨bp, 0, none⟩) 0 0))) (ad : Addr) (n c : Nat) (l : List Int) (HR : Keep (RowAt w (.slice (some ad) n c) l)) (HL : Keep (l.length ≤ 140737488355328)) (HM : Keep (w.heap[mb]? = some (.map #[] 0))) (Hg : Keep (g.held = [] ∧ g.wait = [] ∧ g.heads = [] ∧ g.order = [] ∧ g.queue = [])) (Hf : Keep (fitV g.held g.wait ⟨x, 1, []⟩ = (2, 0))) (Hh : Keep (g.held = [] ∨ g.held = [⟨x, 1, []⟩])) : Calls Tryz.prog 14 #[.pointer (some ⟨s, 0, none⟩), .agg vv, .slice (some ad) n c] w fun e w' => ∃ gx, e = .returned (.agg #[.int .i64 2, .slice (some ⟨gx, 0, none⟩) 1 1, .slice none 0 0]) ∧ ∃ g' Av', ShAt w' s d mb g' Av' ∧ g'.held = [⟨x, 1, []⟩] ∧ g'.wait = [] ∧ g'.queue = [] ∧ (∀ k, DgS d g' k → DgS d g k ∨ w.heap.size ≤ k) ∧ Grown w w' fun k => k = mb ∨ DgS d g k := by
  go_enter Tryz.func14, Tryz.ntmps14
  refine wp_seq_k fun K1 hK1 => ?_
  refine wp_region_list (WL.out ?_)
  refine WL.box (by kernel_rfl) 62 (.tmp 1) rfl vv rfl ?_
  have H4 := Keep.mk (Blk.new w 62 vv)
  have b_b4 := Keep.mk (below_new w (.cells vv 62))
  change WL _ _ _ _ _ (w.alloc (.cells vv 62))
  generalize w.alloc (.cells vv 62) = w1 at *
  obtain ⟨b4, hb4⟩ : ∃ z, Keep (z = w.heap.size) := ⟨_, ⟨rfl⟩⟩
  rw [← hb4.out] at H4 ⊢
  simp only [Act.put, List.setIfInBounds_toArray, List.set_cons_zero, List.set_cons_succ]
  refine WL.new (by kernel_rfl) 27 rfl _ Tryz.new27 ?_
  have H6 := Keep.mk (Blk.new w1 27 #[.int .i64 0, .slice none 0 0, .slice none 0 0])
  have b_b6 := Keep.mk (below_new w1 (.cells #[.int .i64 0, .slice none 0 0, .slice none 0 0] 27))
  generalize w1.alloc (.cells #[.int .i64 0, .slice none 0 0, .slice none 0 0] 27) = w2 at *
  obtain ⟨b6, hb6⟩ : ∃ z, Keep (z = w1.heap.size) := ⟨_, ⟨rfl⟩⟩
  rw [← hb6.out] at H6 ⊢
  have H42 := Keep.mk (H4.out.below b_b6.out H4.out.lt)
  have B2 : Keep (Below w.heap.size w w2) := ⟨b_b4.out.trans (b_b6.out.mono b_b4.out.size)⟩
  have HS2 := Keep.mk (HS.out.below B2.out)
  have LT : Keep (w.heap.size ≤ b4 ∧ b4 < b6 ∧ s < w.heap.size ∧ mb < w.heap.size ∧ ∀ k, DgS d g k → k < w.heap.size) := ⟨by
    obtain ⟨es, ck, hm⟩ := HS.out.mp
    have h1 := hb4.out
    have h2 := hb6.out
    have h3 := H4.out.lt
    exact ⟨by omega, by omega, HS.out.bl.lt, (Array.getElem?_eq_some_iff.1 hm).1, fun k e => HS.out.dg.lt k (HS.out.dg.av k e)⟩⟩
  clear H4 b_b4 b_b6
  simp only [Act.put, List.setIfInBounds_toArray, List.set_cons_zero, List.set_cons_succ]
  refine WL.nil ?_
  refine hK1 _ _ ?_
  refine wp_seq_k fun K2 hK2 => ?_
  refine wp_region_held_drew (S := fun wx => wx.cell? ⟨s, 1, none⟩ = some (.pointer (some ⟨d, 0, none⟩)) ∧ Blk wx b4 62 vv) (by kernel_rfl) (⟨HS2.out.bl.drew.c 1 rfl, H42.out.drew⟩) (fun hHeld => ?_)
  have bd := (Below.refl w2.heap.size w2).drew
  have HS3 := Keep.mk (HS2.out.below bd)
  have H43 := Keep.mk H42.out.drew
  have H63 := Keep.mk H6.out.drew
  have B3 : Keep (Below w.heap.size w w2.drew) := ⟨B2.out.drew⟩
  clear HS2 H42 H6 bd B2
  generalize w2.drew = w3 at *
  refine wpAnyH_take (i := 0) (oi := ⟨some 12, Op.move (Operand.tmp 0), 23, _, _, none⟩) (v := .pointer (some ⟨s, 0, none⟩)) rfl (by kernel_rfl) (by kernel_rfl) (by kernel_rfl) (fun _ _ _ h => h) (Or.inl ⟨by rfl, fun w hS => by have cS := hS.1; go_simp⟩) hHeld ?_
  simp only [Act.put, List.setIfInBounds_toArray, List.set_cons_zero, List.set_cons_succ]
  refine wpAnyH_take (i := 1) (oi := ⟨some 13, Op.nilCheck (Operand.tmp 12), 0, _, _, none⟩) (v := .pointer (some ⟨s, 0, none⟩)) rfl (by kernel_rfl) (by kernel_rfl) (by kernel_rfl) (fun _ _ _ h => h) (Or.inl ⟨by rfl, fun w hS => by have cS := hS.1; go_simp⟩) hHeld ?_
  simp only [Act.put, List.setIfInBounds_toArray, List.set_cons_zero, List.set_cons_succ]
  refine wpAnyH_take (i := 2) (oi := ⟨some 14, Op.fieldAddr 48 (Operand.tmp 13) 1, 0, _, _, none⟩) (v := .pointer (some ⟨s, 1, none⟩)) rfl (by kernel_rfl) (by kernel_rfl) (by kernel_rfl) (fun _ _ _ h => h) (Or.inl ⟨by rfl, fun w hS => by have cS := hS.1; go_simp⟩) hHeld ?_
  simp only [Act.put, List.setIfInBounds_toArray, List.set_cons_zero, List.set_cons_succ]
  refine wpAnyH_take (i := 3) (oi := ⟨some 15, Op.load 42 (Operand.tmp 14), 42, _, _, none⟩) (v := .pointer (some ⟨d, 0, none⟩)) rfl (by kernel_rfl) (by kernel_rfl) (by kernel_rfl) (fun _ _ _ h => h) (Or.inl ⟨by rfl, fun w hS => by have cS := hS.1; go_simp⟩) hHeld ?_
  simp only [Act.put, List.setIfInBounds_toArray, List.set_cons_zero, List.set_cons_succ]
  refine wpAnyH_take (i := 4) (oi := ⟨some 16, Op.load 62 (Operand.tmp 4), 62, _, _, none⟩) (v := .agg vv) rfl (by kernel_rfl) (by kernel_rfl) (by kernel_rfl) (fun _ _ _ h => h) (yieldsIf_ld (by rfl) (Operand.tmp 4) 62 rfl b4 0 rfl vv _ Tryz.underlying62 rfl (by rw [hvv.out]; exact sizeV62 _ _ _) fun w hS => blk_range hS.2) hHeld ?_
  simp only [Act.put, List.setIfInBounds_toArray, List.set_cons_zero, List.set_cons_succ]
  refine wpAnyH_ready (rs := [5]) (by kernel_rfl) (by simp) ?_
  refine AllReadyH.cons (o := ⟨some 17, Op.call { callee := Callee.value (Operand.func 21), args := #[Operand.tmp 15, Operand.tmp 16], argTypes := #[42, 62] }, 79, _, _, none⟩) rfl (fun K hK => ?_) AllReadyH.nil
  rw [if_pos (by rfl)]
  refine wp_callF 21 _ _ rfl Tryz.in21 #[ptr d, .agg vv] (by simp [Act.eval]) (fun vz wz => vz = .tuple #[.int .i64 2, .int .i64 0] ∧ Below w3.heap.size w3 wz) ?_ ?_
  · refine (fit_vv d x bp vv hvv.out g Av w3 HS3.out.dg _ _ Hf.out Hh.out).mono ?_
    rintro e wz ⟨rfl, k1⟩
    exact ⟨_, rfl, rfl, k1⟩
  rintro vz w4 ⟨rfl, k1⟩
  have B4 : Keep (Below w.heap.size w w4) := ⟨B3.out.trans (k1.mono B3.out.size)⟩
  have HS4 := Keep.mk (HS3.out.below k1)
  have H44 := Keep.mk (H43.out.below k1 H43.out.lt)
  have H64 := Keep.mk (H63.out.below k1 H63.out.lt)
  clear k1
  refine hK _ _ (⟨HS4.out.bl.c 1 rfl, H44.out⟩) fun hHa => ?_
  clear hK
  simp only [Act.put, List.setIfInBounds_toArray, List.set_cons_zero, List.set_cons_succ]
  refine wpAnyH_take (i := 6) (oi := ⟨some 11, Op.move (Operand.tmp 17), 79, _, _, none⟩) (v := .tuple #[.int .i64 2, .int .i64 0]) rfl (by kernel_rfl) (by kernel_rfl) (by kernel_rfl) (fun _ _ _ h => h) (Or.inl ⟨by rfl, fun w hS => by have cS := hS.1; go_simp⟩) hHa ?_
  simp only [Act.put, List.setIfInBounds_toArray, List.set_cons_zero, List.set_cons_succ]
  refine wpAnyH_take (i := 7) (oi := ⟨some 18, Op.extract (Operand.tmp 11) 0, 3, _, _, none⟩) (v := .int .i64 2) rfl (by kernel_rfl) (by kernel_rfl) (by kernel_rfl) (fun _ _ _ h => h) (Or.inl ⟨by rfl, fun w hS => by have cS := hS.1; go_simp⟩) hHa ?_
  simp only [Act.put, List.setIfInBounds_toArray, List.set_cons_zero, List.set_cons_succ]
  refine wpAnyH_take (i := 8) (oi := ⟨some 19, Op.extract (Operand.tmp 11) 1, 43, _, _, none⟩) (v := .int .i64 0) rfl (by kernel_rfl) (by kernel_rfl) (by kernel_rfl) (fun _ _ _ h => h) (Or.inl ⟨by rfl, fun w hS => by have cS := hS.1; go_simp⟩) hHa ?_
  simp only [Act.put, List.setIfInBounds_toArray, List.set_cons_zero, List.set_cons_succ]
  refine wpAnyH_take (i := 9) (oi := ⟨some 7, Op.assign (Operand.tmp 18), 3, _, _, none⟩) (v := .int .i64 2) rfl (by kernel_rfl) (by kernel_rfl) (by kernel_rfl) (fun _ _ _ h => h) (Or.inl ⟨by rfl, fun w hS => by have cS := hS.1; go_simp⟩) hHa ?_
  simp only [Act.put, List.setIfInBounds_toArray, List.set_cons_zero, List.set_cons_succ]
  refine wpAnyH_take (i := 10) (oi := ⟨some 8, Op.assign (Operand.tmp 19), 43, _, _, none⟩) (v := .int .i64 0) rfl (by kernel_rfl) (by kernel_rfl) (by kernel_rfl) (fun _ _ _ h => h) (Or.inl ⟨by rfl, fun w hS => by have cS := hS.1; go_simp⟩) hHa ?_
  simp only [Act.put, List.setIfInBounds_toArray, List.set_cons_zero, List.set_cons_succ]
  refine wpAnyH_done (by kernel_rfl) ?_ _
  refine hK2 _ _ ?_
  refine wp_seq_k fun K3 hK3 => ?_
  refine wp_seq_k fun K4 hK4 => ?_
  refine wp_region_list (WL.out ?_)
  refine WL.val (by kernel_rfl) (.int .i64 2) (by go_simp) ?_
  simp only [Act.put, List.setIfInBounds_toArray, List.set_cons_zero, List.set_cons_succ]
  refine WL.val (by kernel_rfl) (.bool true) (by go_simp) ?_
  simp only [Act.put, List.setIfInBounds_toArray, List.set_cons_zero, List.set_cons_succ]
  refine WL.nil ?_
  refine hK4 _ _ ?_
  refine wp_cond_true rfl ?_
  refine wp_region_list (WL.out ?_)
  refine WL.val (by kernel_rfl) (.pointer (some ⟨s, 0, none⟩)) (by go_simp) ?_
  simp only [Act.put, List.setIfInBounds_toArray, List.set_cons_zero, List.set_cons_succ]
  refine WL.val (by kernel_rfl) (.slice (some ad) n c) (by go_simp) ?_
  simp only [Act.put, List.setIfInBounds_toArray, List.set_cons_zero, List.set_cons_succ]
  refine WL.callF (by kernel_rfl) 22 _ _ rfl Tryz.in22 #[.pointer (some ⟨s, 0, none⟩), .slice (some ad) n c] (by simp [Act.eval]) ?_
  refine (keep_ok s d mb g Av w4 HS4 ad n c l ⟨HR.out.below B4.out⟩ HL).mono ?_
  rintro e w5 ⟨rfl, k1⟩
  refine ⟨_, rfl, ?_⟩
  have B5 : Keep (Below w.heap.size w w5) := ⟨B4.out.trans (k1.mono B4.out.size)⟩
  have HS5 := Keep.mk (HS4.out.below k1)
  have H45 := Keep.mk (H44.out.below k1 H44.out.lt)
  have H65 := Keep.mk (H64.out.below k1 H64.out.lt)
  clear k1 HS4 H44 H64 B4
  simp only [Act.put, List.setIfInBounds_toArray, List.set_cons_zero, List.set_cons_succ]
  refine WL.val (by kernel_rfl) (.int .i64 0) (by go_simp) ?_
  simp only [Act.put, List.setIfInBounds_toArray, List.set_cons_zero, List.set_cons_succ]
  refine WL.nil ?_
  refine hK3 _ _ ?_
  refine wp_seq_k fun K5 hK5 => ?_
  refine wp_seq_k fun K6 hK6 => ?_
  refine wp_region_list (WL.out ?_)
  refine WL.val (by kernel_rfl) (.int .i64 0) (by go_simp) ?_
  simp only [Act.put, List.setIfInBounds_toArray, List.set_cons_zero, List.set_cons_succ]
  refine WL.val (by kernel_rfl) (.bool false) (by go_simp) ?_
  simp only [Act.put, List.setIfInBounds_toArray, List.set_cons_zero, List.set_cons_succ]
  refine WL.nil ?_
  refine hK6 _ _ ?_
  refine wp_cond_false rfl ?_
  refine wp_skip ?_
  refine hK5 _ _ ?_
  refine wp_seq_k fun K7 hK7 => ?_
  refine wp_seq_k fun K8 hK8 => ?_
  refine wp_region_list (WL.out ?_)
  refine WL.val (by kernel_rfl) (.int .i64 2) (by go_simp) ?_
  simp only [Act.put, List.setIfInBounds_toArray, List.set_cons_zero, List.set_cons_succ]
  refine WL.nil ?_
  refine hK8 _ _ ?_
  refine wp_block ?_
  refine wp_seq_k fun K9 hK9 => ?_
  refine wp_region_list (WL.out ?_)
  refine WL.val (by kernel_rfl) (.bool true) (by go_simp) ?_
  simp only [Act.put, List.setIfInBounds_toArray, List.set_cons_zero, List.set_cons_succ]
  refine WL.val (by kernel_rfl) (.bool true) (by go_simp) ?_
  simp only [Act.put, List.setIfInBounds_toArray, List.set_cons_zero, List.set_cons_succ]
  refine WL.nil ?_
  refine hK9 _ _ ?_
  refine wp_cond_true rfl ?_
  refine wp_seq_k fun K10 hK10 => ?_
  refine wp_region_list (WL.out ?_)
  refine WL.val (by kernel_rfl) (.pointer (some ⟨s, 0, none⟩)) (by go_simp) ?_
  simp only [Act.put, List.setIfInBounds_toArray, List.set_cons_zero, List.set_cons_succ]
  refine WL.row (by kernel_rfl) 62 (.tmp 4) rfl b4 rfl 62 vv _ H45.out Tryz.underlying62 rfl (by rw [hvv.out]; exact sizeV62 _ _ _) ?_
  simp only [Act.put, List.setIfInBounds_toArray, List.set_cons_zero, List.set_cons_succ]
  refine WL.val (by kernel_rfl) (.slice (some ad) n c) (by go_simp) ?_
  simp only [Act.put, List.setIfInBounds_toArray, List.set_cons_zero, List.set_cons_succ]
  refine WL.callF (by kernel_rfl) 23 _ _ rfl Tryz.in23 #[.pointer (some ⟨s, 0, none⟩), .agg vv, .slice (some ad) n c] (by simp [Act.eval]) ?_
  refine (add_one s d mb g Av w5 HS5 x bp vv hvv ad n c l ⟨HR.out.below B5.out⟩ HL ⟨by rw [B5.out.block mb LT.out.2.2.2.1]; exact HM.out⟩ Hg ⟨Nat.lt_of_lt_of_le LT.out.2.2.2.1 B5.out.size⟩ ⟨fun k e => Nat.lt_of_lt_of_le (LT.out.2.2.2.2 k e) B5.out.size⟩).mono ?_
  rintro e w6 ⟨rfl, g', Av', k1, k2, k3, k4, ksub, k5⟩
  refine ⟨_, rfl, ?_⟩
  have HS6 := Keep.mk k1
  have HG' := Keep.mk (And.intro k2 (And.intro k3 k4))
  have HN' : Keep (∀ k, w.heap.size ≤ k → k < w5.heap.size → ¬ DgS d g' k) := ⟨fun k ha hb e => by
    rcases ksub k e with e2 | e2
    · have := LT.out.2.2.2.2 k e2; omega
    · omega⟩
  have HSB : Keep (∀ k, DgS d g' k → DgS d g k ∨ w.heap.size ≤ k) := ⟨fun k e => (ksub k e).imp id (Nat.le_trans B5.out.size)⟩
  have L65 : Keep (b6 < w5.heap.size) := ⟨H65.out.lt⟩
  clear ksub
  have ns : ∀ j, w.heap.size ≤ j → ¬ (j = mb ∨ DgS d g j) := fun j hj e => by
    rcases e with e | e
    · have := LT.out.2.2.2.1; omega
    · have := LT.out.2.2.2.2 j e; omega
  have H46 := Keep.mk (k5.blk H45.out (ns b4 LT.out.1))
  have H66 := Keep.mk (k5.blk H65.out (ns b6 (by have := LT.out; omega)))
  have G6 : Keep (Grown w w6 fun k => k = mb ∨ DgS d g k) := ⟨(Grown.below B5.out).trans k5⟩
  clear k1 k2 k3 k4 k5 HS5 H45 H65 B5 ns
  simp only [Act.put, List.setIfInBounds_toArray, List.set_cons_zero, List.set_cons_succ]
  refine WL.nil ?_
  refine hK10 _ _ ?_
  refine wp_seq_k fun K11 hK11 => ?_
  refine wp_region_list (WL.out ?_)
  refine WL.val (by kernel_rfl) (.pointer (some ⟨s, 0, none⟩)) (by go_simp) ?_
  simp only [Act.put, List.setIfInBounds_toArray, List.set_cons_zero, List.set_cons_succ]
  refine WL.callF (by kernel_rfl) 24 _ _ rfl Tryz.in24 #[.pointer (some ⟨s, 0, none⟩)] (by simp [Act.eval]) ?_
  refine (follow_none s d mb g' Av' w6 HS6 ⟨HG'.out.2.2⟩).mono ?_
  rintro e w7 ⟨rfl, k1⟩
  refine ⟨_, rfl, ?_⟩
  have HS7 := Keep.mk (HS6.out.below k1)
  have H47 := Keep.mk (H46.out.below k1 H46.out.lt)
  have H67 := Keep.mk (H66.out.below k1 H66.out.lt)
  have G7 : Keep (Grown w w7 fun k => k = mb ∨ DgS d g k) := ⟨G6.out.trans ((Grown.below (S := fun _ => False) k1).mono fun k _ e => e.elim)⟩
  clear k1 HS6 H46 H66 G6
  simp only [Act.put, List.setIfInBounds_toArray, List.set_cons_zero, List.set_cons_succ]
  refine WL.val (by kernel_rfl) (.tuple #[.slice none 0 0, .slice none 0 0]) (by go_simp) ?_
  simp only [Act.put, List.setIfInBounds_toArray, List.set_cons_zero, List.set_cons_succ]
  refine WL.val (by kernel_rfl) (.slice none 0 0) (by go_simp) ?_
  simp only [Act.put, List.setIfInBounds_toArray, List.set_cons_zero, List.set_cons_succ]
  refine WL.val (by kernel_rfl) (.slice none 0 0) (by go_simp) ?_
  simp only [Act.put, List.setIfInBounds_toArray, List.set_cons_zero, List.set_cons_succ]
  refine WL.val (by kernel_rfl) (.slice none 0 0) (by go_simp) ?_
  simp only [Act.put, List.setIfInBounds_toArray, List.set_cons_zero, List.set_cons_succ]
  refine WL.val (by kernel_rfl) (.slice none 0 0) (by go_simp) ?_
  simp only [Act.put, List.setIfInBounds_toArray, List.set_cons_zero, List.set_cons_succ]
  refine WL.nil ?_
  refine hK11 _ _ ?_
  refine wp_seq_k fun K12 hK12 => ?_
  refine wp_region_list (WL.out ?_)
  refine WL.val (by kernel_rfl) (.int .i64 2) (by go_simp) ?_
  simp only [Act.put, List.setIfInBounds_toArray, List.set_cons_zero, List.set_cons_succ]
  refine WL.val (by kernel_rfl) (.pointer (some ⟨b4, 0, none⟩)) (by go_simp) ?_
  simp only [Act.put, List.setIfInBounds_toArray, List.set_cons_zero, List.set_cons_succ]
  refine WL.midA (by kernel_rfl) 51 (.tmp 43) rfl b4 0 rfl (bytesA 32 x.f) _ (by have h := blk_range H47.out; rw [hvv.out] at h; exact vtx_id h) Tryz.underlying51 rfl (size51E _) ?_
  simp only [Act.put, List.setIfInBounds_toArray, List.set_cons_zero, List.set_cons_succ]
  refine WL.bs (by kernel_rfl) 25 1 _ rfl #[(0, .agg (bytesA 32 x.f))] (by simp [Act.eval]) _ _ (bsH25 x.f w7) ?_
  have b8 := below_new w7 (.cells (bytesA 32 x.f) 51)
  have HS8 := Keep.mk (HS7.out.below b8)
  have H68 := Keep.mk (H67.out.below b8 H67.out.lt)
  have G8 : Keep (Grown w (w7.alloc (.cells (bytesA 32 x.f) 51)) fun k => k = mb ∨ DgS d g k) := ⟨G7.out.trans ((Grown.below (S := fun _ => False) b8).mono fun k _ e => e.elim)⟩
  clear b8 HS7 H67 G7
  generalize w7.alloc (.cells (bytesA 32 x.f) 51) = w8 at *
  generalize w7.heap.size = gx at *
  simp only [Act.put, List.setIfInBounds_toArray, List.set_cons_zero, List.set_cons_succ]
  refine WL.val (by kernel_rfl) (.slice none 0 0) (by go_simp) ?_
  simp only [Act.put, List.setIfInBounds_toArray, List.set_cons_zero, List.set_cons_succ]
  have ha := app0 gx w8
  refine WL.valW (by kernel_rfl) (.slice (some ⟨gx, 0, none⟩) 1 1) w8 (by go_simp) ?_
  clear ha
  simp only [Act.put, List.setIfInBounds_toArray, List.set_cons_zero, List.set_cons_succ]
  refine WL.val (by kernel_rfl) (.slice none 0 0) (by go_simp) ?_
  simp only [Act.put, List.setIfInBounds_toArray, List.set_cons_zero, List.set_cons_succ]
  refine WL.bld (by kernel_rfl) 27 _ rfl [(0, .int .i64 2), (1, .slice (some ⟨gx, 0, none⟩) 1 1), (2, .slice none 0 0)] (by simp [Act.eval]) #[.int .i64 2, .slice (some ⟨gx, 0, none⟩) 1 1, .slice none 0 0] (by kernel_rfl) ?_
  simp only [Act.put, List.setIfInBounds_toArray, List.set_cons_zero, List.set_cons_succ]
  refine WL.storeR (by kernel_rfl) 27 (.tmp 6) (.tmp 49) rfl b6 #[.int .i64 2, .slice (some ⟨gx, 0, none⟩) 1 1, .slice none 0 0] rfl rfl 27 #[.int .i64 0, .slice none 0 0, .slice none 0 0] H68.out (by kernel_rfl) rfl (by simp [Value.oneCell']) ?_
  have H69 := Keep.mk (H68.out.setRow #[.int .i64 2, .slice (some ⟨gx, 0, none⟩) 1 1, .slice none 0 0])
  have g_w9 : Keep (Grown w8 (w8.setRow b6 #[.int .i64 2, .slice (some ⟨gx, 0, none⟩) 1 1, .slice none 0 0]) fun k => k = b6) := ⟨Grown.setRow w8 b6 _ fun _ => rfl⟩
  clear H68
  generalize w8.setRow b6 #[.int .i64 2, .slice (some ⟨gx, 0, none⟩) 1 1, .slice none 0 0] = w9 at *
  simp only [Act.put]
  refine WL.nil ?_
  refine hK12 _ _ ?_
  refine wp_ret ?_
  try simp only [Exit.inBlock, Exit.then]
  have k1 := LT.out
  have HS9 : ShAt w9 s d mb g' Av' := HS8.out.keep1 HG'.out.1 HG'.out.2.1 g_w9.out (fun j e => by subst e; exact ⟨by omega, by omega, HN'.out _ (by omega) L65.out⟩)
  refine bodyPost_ret (v := .agg #[.int .i64 2, .slice (some ⟨gx, 0, none⟩) 1 1, .slice none 0 0]) (results_cell_row Tryz.results14 _ _ b6 27 _ (0, 0) _ rfl H69.out Tryz.underlying27 rfl (by kernel_rfl)) rfl ⟨gx, rfl, g', Av', HS9, HG'.out.1, HG'.out.2.1, HG'.out.2.2, HSB.out, ?_⟩
  exact G8.out.next g_w9.out fun j hj e => by subst e; exfalso; omega

theorem Tryz.in6 (w : World) (vs : Array Value) : (callFunc 6 vs).run Tryz.prog w = .ok (.enter 6 vs) w := by kernel_rfl
theorem Tryz.in13 (w : World) (vs : Array Value) : (callFunc 13 vs).run Tryz.prog w = .ok (.enter 13 vs) w := by kernel_rfl
theorem Blk.setRow_ne {w : World} {b b' : Nat} {T : TypeId} {cs : Array Value} (h : Blk w b T cs) (hne : b ≠ b') (cs' : Array Value) : Blk (w.setRow b' cs') b T cs := Nd.Blk.setRow_ne h hne cs'
def l0 : List Int := [1, 1, 1, 0, 0]
def x0 : Hs := shaH [1, 1, 1, 0, 0]
theorem tk_built0 : Tryz.prog.built 27 [] = some (#[.int .i64 0, .slice none 0 0, .slice none 0 0]) := by kernel_rfl
theorem sizeTk : (Tryz.prog.info? 27).map (·.size) = some (#[.int .i64 0, .slice none 0 0, .slice none 0 0] : Array Value).size := by kernel_rfl
theorem sizeTk0 : (Tryz.prog.info? 27).map (·.size) = some 3 := by kernel_rfl
theorem tk_one : (#[.int .i64 0, .slice none 0 0, .slice none 0 0] : Array Value).all (·.oneCell') = true := by simp [Value.oneCell']
theorem blk_ne {w : World} {g g' : Nat} {T T' : TypeId} {cs cs' : Array Value} (h : w.heap[g]? = some (.cells cs T (0, 0))) (h' : w.heap[g']? = some (.cells cs' T' (0, 0))) (hT : T ≠ T') : g ≠ g' := fun e => by
  subst e
  rw [h] at h'
  injection h' with h'
  injection h' with _ h2
  exact hT h2
theorem dec0 : Nd.decR [1, 1, 1, 0, 0] = (0, 5, ⟨1, 1, [], []⟩) := by rfl
theorem enE_sha (l : List Int) (au ck : Int) (p q : Value) : Nd.enA (Nd.Sh.shaP l) (Nd.ndA au ck p q) = enE (shaH l).f au ck p q :=
  congrArg (fun b : Array Value => (b.toList ++ (Nd.ndA au ck p q).toList).toArray) (shaH_b l)
theorem entry_one (w : World) (ad : Addr) (c : Nat) (hr : RowAt w (.slice (some ad) 5 c) [1, 1, 1, 0, 0]) : Calls Tryz.prog 13 #[.slice (some ad) 5 c] w fun e w' => ∃ pa pc qa qc, e = .returned (.tuple #[.agg (enE x0.f 1 1 (.slice pa 0 pc) (.slice qa 0 qc)), .nilIface]) ∧ Below w.heap.size w w' := by
  refine (Nd.entry_any _ [1, 1, 1, 0, 0] w hr (by intro c hc; simp at hc; omega)).mono ?_
  rintro e w' (⟨_, _, vp, vo, rfl, h3, h4, _, _, hb⟩ | ⟨h | ⟨_, h⟩, _⟩)
  · rw [dec0] at h3 h4 ⊢
    obtain ⟨pa, pc, rfl⟩ := h3.sl
    obtain ⟨qa, qc, rfl⟩ := h4.sl
    exact ⟨pa, pc, qa, qc, by rw [enE_sha]; rfl, hb⟩
  · simp at h
  · rw [dec0] at h; exact absurd rfl h
theorem entry_nil (w : World) : Calls Tryz.prog 13 #[.slice none 0 0] w fun e w' => ∃ q, e = .returned (.tuple #[.agg Nd.zEn, .iface 64 (ptr q)]) ∧ Nd.BadAt w' q 20 0 ∧ Below w.heap.size w w' := by
  refine (Nd.entry_any _ [] w (.inl ⟨rfl, rfl⟩) (by intro c hc; simp at hc)).mono ?_
  rintro e w' (⟨_, h, _⟩ | ⟨_, q, _, rfl, h2, hb⟩)
  · exact absurd h (by decide)
  · exact ⟨q, rfl, h2, hb⟩
set_option maxRecDepth 8000 in
theorem tcatch_panicking (g2 g3 q : Nat) (old : Array Value) (w : World) (h2 : Blk w g2 27 old) (ho : old.size = 3) (h3 : Blk w g3 29 #[.nilIface]) :
    CallsD Tryz.prog 10 #[ptr g2, ptr g3] (.panicking [Nd.wr q]) w fun e u' w' => e = .returned (.tuple #[]) ∧ u' = .panicking [{ v := .iface 73 (.agg #[Nd.err q]), recovered := true }] ∧ Blk w' g2 27 (#[.int .i64 0, .slice none 0 0, .slice none 0 0]) ∧ Blk w' g3 29 #[Nd.err q] ∧ Grown w w' fun k => k = g2 ∨ k = g3 := by
  have H2 := Keep.mk h2
  have H3 := Keep.mk h3
  have Ho := Keep.mk ho
  have Hne : Keep (g2 ≠ g3) := ⟨blk_ne h2 h3 (by decide)⟩
  clear h2 h3 ho
  refine callsD_of_wpS Tryz.func10 rfl fun c₀ cs hu => ?_
  apply wpS_seq
  apply wpS_region
  unfold Nd.wr at hu
  simp [wpOpsS, go_sem, recoverD, hu, Tryz.ntmps10, Exit.thenS]
  apply wpS_seq
  apply wpS_region
  simp [wpOpsS, go_sem, Exit.thenS]
  refine wpS_cond (t := true) (by simp [Act.eval, Array.replicate]) ?_
  simp only [if_true]
  refine wpS_of_wp ?_
  refine wp_region_list (WL.out ?_)
  simp only [Array.replicate_succ, Array.replicate_zero, List.push_toArray, List.append_toArray, List.nil_append, List.cons_append, List.setIfInBounds_toArray, List.set_cons_zero, List.set_cons_succ]
  refine WL.bld (by kernel_rfl) 27 _ rfl [] (by simp) _ tk_built0 ?_
  simp only [Act.put, List.setIfInBounds_toArray, List.set_cons_zero, List.set_cons_succ]
  refine WL.val (by kernel_rfl) (.iface 73 (.agg #[Nd.err q])) (by go_simp) ?_
  simp only [Act.put, List.setIfInBounds_toArray, List.set_cons_zero, List.set_cons_succ]
  refine WL.callF (by kernel_rfl) 11 _ _ rfl Nd.Tryz.in11 #[.iface 73 (.agg #[Nd.err q])] (by simp [Act.eval]) ?_
  refine (Nd.caught_any q w).mono ?_
  rintro e w1 ⟨rfl, hb1⟩
  refine ⟨_, rfl, ?_⟩
  have B1 := Keep.mk hb1
  have H21 := Keep.mk (H2.out.below hb1 H2.out.lt)
  have H31 := Keep.mk (H3.out.below hb1 H3.out.lt)
  clear hb1
  simp only [Act.put, List.setIfInBounds_toArray, List.set_cons_zero, List.set_cons_succ]
  refine WL.storeR (by kernel_rfl) 27 (.tmp 0) (.tmp 6) rfl g2 (#[.int .i64 0, .slice none 0 0, .slice none 0 0]) rfl rfl 27 old H21.out sizeTk (by rw [Ho.out]; rfl) tk_one ?_
  have H22 := Keep.mk (H21.out.setRow (#[.int .i64 0, .slice none 0 0, .slice none 0 0]))
  have H32 := Keep.mk (H31.out.setRow_ne (b' := g2) (fun e => Hne.out e.symm) (#[.int .i64 0, .slice none 0 0, .slice none 0 0]))
  have G2 : Keep (Grown w (w1.setRow g2 (#[.int .i64 0, .slice none 0 0, .slice none 0 0])) fun k => k = g2 ∨ k = g3) := ⟨(Grown.below B1.out).trans (Grown.setRow w1 g2 _ fun _ => .inl rfl)⟩
  generalize w1.setRow g2 (#[.int .i64 0, .slice none 0 0, .slice none 0 0]) = w2 at *
  simp only [Act.put]
  have c0 := H32.out.c 0 rfl
  have f0 := H32.out.frozen 0
  refine WL.cell (by kernel_rfl) (w2.setCell ⟨g3, 0, none⟩ (Nd.err q)) (by unfold Nd.err; go_simp) ?_
  have H33 := Keep.mk (H32.out.set 0 (Nd.err q))
  have H23 := Keep.mk (H22.out.set_ne (b' := g3) (j := 0) Hne.out (Nd.err q))
  have G3 : Keep (Grown w (w2.setCell ⟨g3, 0, none⟩ (Nd.err q)) fun k => k = g2 ∨ k = g3) := ⟨G2.out.trans (Grown.setCell w2 g3 0 _ fun _ => .inr rfl)⟩
  generalize w2.setCell ⟨g3, 0, none⟩ (Nd.err q) = w3 at *
  simp only [Act.put]
  refine WL.nil ?_
  exact ⟨rfl, _, rfl, _, results_none rfl _ _ _, rfl, rfl, H23.out, H33.out, G3.out⟩
set_option maxRecDepth 8000 in
theorem tcatch_idle (g2 g3 : Nat) (w : World) :
    CallsD Tryz.prog 10 #[ptr g2, ptr g3] .returning w fun e u' w' => e = .returned (.tuple #[]) ∧ u' = .returning ∧ w' = w := by
  refine callsD_of_wpS Tryz.func10 rfl fun c₀ cs hu => ?_
  apply wpS_seq
  apply wpS_region
  simp [wpOpsS, go_sem, recoverD, hu, Tryz.ntmps10, Exit.thenS]
  apply wpS_seq
  apply wpS_region
  simp [wpOpsS, go_sem, Exit.thenS]
  refine wpS_cond (t := false) (by simp [Act.eval, Array.replicate]) ?_
  simp only [Bool.false_eq_true, if_false]
  refine wpS_of_wp (wp_skip ?_)
  cases c₀
  simp_all [bodyPostS, results, Tryz.results10]
theorem tload_err (w : World) (g : Nat) (x : Value) (h : Blk w g 29 #[x]) : (loadVar 29 ⟨g, 0, none⟩).run Tryz.prog w = .ok x w := by
  have c0 := h.c 0 rfl
  go_simp
theorem tresults_cells (tmps : Array Value) (w : World) (g g' : Nat) (cs : Array Value) (x : Value)
    (hp : tmps.getD 4 undef = .pointer (some ⟨g, 0, none⟩)) (hq : tmps.getD 5 undef = .pointer (some ⟨g', 0, none⟩)) (hg : Blk w g 27 cs) (hg' : Blk w g' 29 #[x]) (hi : cs.size = 3) :
    (results Tryz.f6 tmps).run Tryz.prog w = .ok (.tuple #[.agg cs, x]) w := by
  have hr := run_loadVar_row (P := Tryz.prog) w g 27 27 cs (0, 0) _ hg Tryz.underlying27 rfl (by rw [hi]; exact sizeTk0)
  have hx := tload_err w g' x hg'
  simp only [results, Tryz.results6]
  simp only [Array.getD_eq_getD_getElem?] at hp hq
  simp [Result.andThen, asAddr, hp, hq, hr, hx]
set_option maxRecDepth 8000 in
set_option maxHeartbeats 2000000 in
theorem take_nil_ (s d mb : Nat) (g : DG) (Av : Nat → Prop) (w : World) (HS : Keep (ShAt w s d mb g Av)) : Calls Tryz.prog 6 #[.pointer (some ⟨s, 0, none⟩), .slice none 0 0] w fun e w' => ∃ q, e = .returned (.tuple #[.agg #[.int .i64 0, .slice none 0 0, .slice none 0 0], .iface 64 (ptr q)]) ∧ Nd.BadAt w' q 20 0 ∧ Below w.heap.size w w' := by
  have hmf : ∀ (fn : Fn) (first cap : Array Value) (w : World), (Instr.makeFunc fn first cap).run Tryz.prog w = .ok (.func fn first cap) w := fun _ _ _ _ => rfl
  go_enter_defers Tryz.func6, Tryz.ntmps6
  refine wp_seq_k fun K1 hK1 => ?_
  refine wp_region_list (WL.out ?_)
  refine WL.new (by kernel_rfl) 27 rfl _ Tryz.new27 ?_
  have H4 := Keep.mk (Blk.new w 27 #[.int .i64 0, .slice none 0 0, .slice none 0 0])
  have b_g4 := Keep.mk (below_new w (.cells #[.int .i64 0, .slice none 0 0, .slice none 0 0] 27))
  generalize w.alloc (.cells #[.int .i64 0, .slice none 0 0, .slice none 0 0] 27) = w1 at *
  obtain ⟨g4, hg4⟩ : ∃ z, Keep (z = w.heap.size) := ⟨_, ⟨rfl⟩⟩
  rw [← hg4.out] at H4 ⊢
  simp only [Act.put, List.setIfInBounds_toArray, List.set_cons_zero, List.set_cons_succ]
  refine WL.new (by kernel_rfl) 29 rfl _ Nd.Tryz.new29 ?_
  have H5 := Keep.mk (Blk.new w1 29 #[.nilIface])
  have b_g5 := Keep.mk (below_new w1 (.cells #[.nilIface] 29))
  generalize w1.alloc (.cells #[.nilIface] 29) = w2 at *
  obtain ⟨g5, hg5⟩ : ∃ z, Keep (z = w1.heap.size) := ⟨_, ⟨rfl⟩⟩
  rw [← hg5.out] at H5 ⊢
  have H42 := Keep.mk (H4.out.below b_g5.out H4.out.lt)
  have B2 : Keep (Below w.heap.size w w2) := ⟨b_g4.out.trans (b_g5.out.mono b_g4.out.size)⟩
  have LT : Keep (w.heap.size ≤ g4 ∧ g4 < g5) := ⟨by
    have h1 := hg4.out
    have h2 := hg5.out
    have h3 := H4.out.lt
    exact ⟨by omega, by omega⟩⟩
  clear H4 b_g4 b_g5
  simp only [Act.put, List.setIfInBounds_toArray, List.set_cons_zero, List.set_cons_succ]
  refine WL.nil ?_
  refine hK1 _ _ ?_
  refine wp_seq_k fun K2 hK2 => ?_
  refine wp_region_list (WL.out ?_)
  refine WL.val (by kernel_rfl) (.func (.func 10) #[] #[.pointer (some ⟨g4, 0, none⟩), .pointer (some ⟨g5, 0, none⟩)]) (by go_simp) ?_
  simp only [Act.put, List.setIfInBounds_toArray, List.set_cons_zero, List.set_cons_succ]
  refine WL.defer (by kernel_rfl) { target := .fn (.func 10) #[.pointer (some ⟨g4, 0, none⟩), .pointer (some ⟨g5, 0, none⟩)], args := #[] } (by go_simp) ?_
  clear hmf
  simp only [Act.put]
  refine WL.nil ?_
  refine hK2 _ _ ?_
  refine wp_seq_k fun K3 hK3 => ?_
  refine wp_seq_k fun K4 hK4 => ?_
  refine wp_region_list (WL.out ?_)
  refine WL.val (by kernel_rfl) (.pointer (some ⟨s, 0, none⟩)) (by go_simp) ?_
  simp only [Act.put, List.setIfInBounds_toArray, List.set_cons_zero, List.set_cons_succ]
  refine WL.val (by kernel_rfl) (.pointer (some ⟨s, 0, none⟩)) (by go_simp) ?_
  simp only [Act.put, List.setIfInBounds_toArray, List.set_cons_zero, List.set_cons_succ]
  refine WL.val (by kernel_rfl) (.pointer (some ⟨s, 3, none⟩)) (by go_simp) ?_
  simp only [Act.put, List.setIfInBounds_toArray, List.set_cons_zero, List.set_cons_succ]
  have cS : w2.cell? ⟨s, 3, none⟩ = some (.bool false) := (HS.out.below B2.out).bl.c 3 rfl
  refine WL.val (by kernel_rfl) (.bool false) (by go_simp) ?_
  clear cS
  simp only [Act.put, List.setIfInBounds_toArray, List.set_cons_zero, List.set_cons_succ]
  refine WL.nil ?_
  refine hK4 _ _ ?_
  refine wp_cond_false rfl ?_
  refine wp_skip ?_
  refine hK3 _ _ ?_
  refine wp_seq_k fun K5 hK5 => ?_
  refine wp_region_list (WL.out ?_)
  refine WL.val (by kernel_rfl) (.slice none 0 0) (by go_simp) ?_
  simp only [Act.put, List.setIfInBounds_toArray, List.set_cons_zero, List.set_cons_succ]
  refine WL.callF (by kernel_rfl) 13 _ _ rfl Tryz.in13 #[.slice none 0 0] (by simp [Act.eval]) ?_
  refine (entry_nil w2).mono ?_
  rintro e w3 ⟨q, rfl, hq, hb⟩
  refine ⟨_, rfl, ?_⟩
  have HB3 := Keep.mk hq
  have HNq : Keep (q ≠ g4 ∧ q ≠ g5) := ⟨⟨fun e => (blk_ne hq (H42.out.below hb H42.out.lt) (by decide)) e, fun e => (blk_ne hq (H5.out.below hb H5.out.lt) (by decide)) e⟩⟩
  have B3 : Keep (Below w.heap.size w w3) := ⟨B2.out.trans (hb.mono B2.out.size)⟩
  have H43 := Keep.mk (H42.out.below hb H42.out.lt)
  have H53 := Keep.mk (H5.out.below hb H5.out.lt)
  clear hb hq
  simp only [Act.put, List.setIfInBounds_toArray, List.set_cons_zero, List.set_cons_succ]
  refine WL.val (by kernel_rfl) (.agg Nd.zEn) (by go_simp) ?_
  simp only [Act.put, List.setIfInBounds_toArray, List.set_cons_zero, List.set_cons_succ]
  refine WL.val (by kernel_rfl) (.iface 64 (ptr q)) (by go_simp) ?_
  simp only [Act.put, List.setIfInBounds_toArray, List.set_cons_zero, List.set_cons_succ]
  refine WL.callP (by kernel_rfl) 12 _ _ rfl Tryz.in12 #[.agg Nd.zEn, .iface 64 (ptr q)] (by simp [Act.eval]) ?_
  refine (must12_bad Nd.zEn q w3 (by rw [Nd.zEn_size]; kernel_rfl) (Nd.enA_one _ 0 0 none 0 0 none 0 0) Nd.zEn_size).mono ?_
  rintro e w4 ⟨rfl, hb⟩
  refine .inr ⟨_, rfl, ?_⟩
  try simp only [Exit.inBlock, Exit.then]
  have B4 : Keep (Below w.heap.size w w4) := ⟨B3.out.trans (hb.mono B3.out.size)⟩
  refine leaves_cons (f := 10) (args := #[ptr g4, ptr g5]) (by simp) (by simp [go_sem, ptr]) ?_
  refine (tcatch_panicking g4 g5 q (#[.int .i64 0, .slice none 0 0, .slice none 0 0]) w4 (H43.out.below hb H43.out.lt) rfl (H53.out.below hb H53.out.lt)).mono ?_
  rintro e u' w5 ⟨rfl, rfl, i2, i3, i4⟩
  simp only [settle, List.dropWhile]
  refine ⟨.tuple #[.agg #[.int .i64 0, .slice none 0 0, .slice none 0 0], Nd.err q], tresults_cells _ _ g4 g5 _ _ rfl rfl i2 i3 rfl, ?_⟩
  have hq4 : Nd.BadAt w4 q 20 0 := HB3.out.below hb HB3.out.lt
  have k1 := LT.out
  exact ⟨q, rfl, i4.blk hq4 (fun e => by
    rcases e with e | e
    · exact HNq.out.1 e
    · exact HNq.out.2 e), B4.out.trans (i4.to_below (fun k hk e => by omega) B4.out.size)⟩
set_option maxRecDepth 8000 in
set_option maxHeartbeats 2000000 in
theorem take_known (s d mb : Nat) (g : DG) (Av : Nat → Prop) (w : World) (HS : Keep (ShAt w s d mb g Av)) (ad : Addr) (c : Nat) (HR : Keep (RowAt w (.slice (some ad) 5 c) [1, 1, 1, 0, 0])) (Hf : Keep (fitV g.held g.wait ⟨x0, 1, []⟩ = (1, 0))) (Hh : Keep (g.held = [⟨x0, 1, []⟩])) : Calls Tryz.prog 6 #[.pointer (some ⟨s, 0, none⟩), .slice (some ad) 5 c] w fun e w' => e = .returned (.tuple #[.agg #[.int .i64 1, .slice none 0 0, .slice none 0 0], .nilIface]) ∧ Below w.heap.size w w' := by
  have hmf : ∀ (fn : Fn) (first cap : Array Value) (w : World), (Instr.makeFunc fn first cap).run Tryz.prog w = .ok (.func fn first cap) w := fun _ _ _ _ => rfl
  go_enter_defers Tryz.func6, Tryz.ntmps6
  refine wp_seq_k fun K1 hK1 => ?_
  refine wp_region_list (WL.out ?_)
  refine WL.new (by kernel_rfl) 27 rfl _ Tryz.new27 ?_
  have H4 := Keep.mk (Blk.new w 27 #[.int .i64 0, .slice none 0 0, .slice none 0 0])
  have b_g4 := Keep.mk (below_new w (.cells #[.int .i64 0, .slice none 0 0, .slice none 0 0] 27))
  generalize w.alloc (.cells #[.int .i64 0, .slice none 0 0, .slice none 0 0] 27) = w1 at *
  obtain ⟨g4, hg4⟩ : ∃ z, Keep (z = w.heap.size) := ⟨_, ⟨rfl⟩⟩
  rw [← hg4.out] at H4 ⊢
  simp only [Act.put, List.setIfInBounds_toArray, List.set_cons_zero, List.set_cons_succ]
  refine WL.new (by kernel_rfl) 29 rfl _ Nd.Tryz.new29 ?_
  have H5 := Keep.mk (Blk.new w1 29 #[.nilIface])
  have b_g5 := Keep.mk (below_new w1 (.cells #[.nilIface] 29))
  generalize w1.alloc (.cells #[.nilIface] 29) = w2 at *
  obtain ⟨g5, hg5⟩ : ∃ z, Keep (z = w1.heap.size) := ⟨_, ⟨rfl⟩⟩
  rw [← hg5.out] at H5 ⊢
  have H42 := Keep.mk (H4.out.below b_g5.out H4.out.lt)
  have B2 : Keep (Below w.heap.size w w2) := ⟨b_g4.out.trans (b_g5.out.mono b_g4.out.size)⟩
  have LT : Keep (w.heap.size ≤ g4 ∧ g4 < g5) := ⟨by
    have h1 := hg4.out
    have h2 := hg5.out
    have h3 := H4.out.lt
    exact ⟨by omega, by omega⟩⟩
  clear H4 b_g4 b_g5
  simp only [Act.put, List.setIfInBounds_toArray, List.set_cons_zero, List.set_cons_succ]
  refine WL.nil ?_
  refine hK1 _ _ ?_
  refine wp_seq_k fun K2 hK2 => ?_
  refine wp_region_list (WL.out ?_)
  refine WL.val (by kernel_rfl) (.func (.func 10) #[] #[.pointer (some ⟨g4, 0, none⟩), .pointer (some ⟨g5, 0, none⟩)]) (by go_simp) ?_
  simp only [Act.put, List.setIfInBounds_toArray, List.set_cons_zero, List.set_cons_succ]
  refine WL.defer (by kernel_rfl) { target := .fn (.func 10) #[.pointer (some ⟨g4, 0, none⟩), .pointer (some ⟨g5, 0, none⟩)], args := #[] } (by go_simp) ?_
  clear hmf
  simp only [Act.put]
  refine WL.nil ?_
  refine hK2 _ _ ?_
  refine wp_seq_k fun K3 hK3 => ?_
  refine wp_seq_k fun K4 hK4 => ?_
  refine wp_region_list (WL.out ?_)
  refine WL.val (by kernel_rfl) (.pointer (some ⟨s, 0, none⟩)) (by go_simp) ?_
  simp only [Act.put, List.setIfInBounds_toArray, List.set_cons_zero, List.set_cons_succ]
  refine WL.val (by kernel_rfl) (.pointer (some ⟨s, 0, none⟩)) (by go_simp) ?_
  simp only [Act.put, List.setIfInBounds_toArray, List.set_cons_zero, List.set_cons_succ]
  refine WL.val (by kernel_rfl) (.pointer (some ⟨s, 3, none⟩)) (by go_simp) ?_
  simp only [Act.put, List.setIfInBounds_toArray, List.set_cons_zero, List.set_cons_succ]
  have cS : w2.cell? ⟨s, 3, none⟩ = some (.bool false) := (HS.out.below B2.out).bl.c 3 rfl
  refine WL.val (by kernel_rfl) (.bool false) (by go_simp) ?_
  clear cS
  simp only [Act.put, List.setIfInBounds_toArray, List.set_cons_zero, List.set_cons_succ]
  refine WL.nil ?_
  refine hK4 _ _ ?_
  refine wp_cond_false rfl ?_
  refine wp_skip ?_
  refine hK3 _ _ ?_
  refine wp_seq_k fun K5 hK5 => ?_
  refine wp_region_list (WL.out ?_)
  refine WL.val (by kernel_rfl) (.slice (some ad) 5 c) (by go_simp) ?_
  simp only [Act.put, List.setIfInBounds_toArray, List.set_cons_zero, List.set_cons_succ]
  refine WL.callF (by kernel_rfl) 13 _ _ rfl Tryz.in13 #[.slice (some ad) 5 c] (by simp [Act.eval]) ?_
  refine (entry_one w2 ad c (HR.out.below B2.out)).mono ?_
  rintro e w3 ⟨pa, pc, qa, qc, rfl, hb⟩
  refine ⟨_, rfl, ?_⟩
  have B3 : Keep (Below w.heap.size w w3) := ⟨B2.out.trans (hb.mono B2.out.size)⟩
  have H43 := Keep.mk (H42.out.below hb H42.out.lt)
  have H53 := Keep.mk (H5.out.below hb H5.out.lt)
  clear hb H42 H5 B2
  obtain ⟨ee, hee⟩ : ∃ a : Array Value, Keep (a = enE x0.f 1 1 (.slice pa 0 pc) (.slice qa 0 qc)) := ⟨_, ⟨rfl⟩⟩
  rw [← hee.out]
  have e1 : (Tryz.prog.info? 56).map (·.size) = some ee.size := by rw [hee.out]; exact Nd.Tryz.size56B _ _ _ _ _
  have e2 : ee.all (·.oneCell') = true := by rw [hee.out]; exact Nd.enA_one _ 1 1 pa 0 pc qa 0 qc
  have e3 : ee.size = 36 := by rw [hee.out]; exact Nd.enA_size _ _ _ _ _
  have E1 := Keep.mk e1
  have E2 := Keep.mk e2
  have E3 := Keep.mk e3
  clear e1 e2 e3
  simp only [Act.put, List.setIfInBounds_toArray, List.set_cons_zero, List.set_cons_succ]
  refine WL.val (by kernel_rfl) (.agg ee) (by go_simp) ?_
  simp only [Act.put, List.setIfInBounds_toArray, List.set_cons_zero, List.set_cons_succ]
  refine WL.val (by kernel_rfl) (.nilIface) (by go_simp) ?_
  simp only [Act.put, List.setIfInBounds_toArray, List.set_cons_zero, List.set_cons_succ]
  refine WL.callF (by kernel_rfl) 12 _ _ rfl Tryz.in12 #[.agg ee, .nilIface] (by simp [Act.eval]) ?_
  refine (must12_ok ee w3 E1.out E2.out E3.out).mono ?_
  rintro e w4 ⟨rfl, hb⟩
  refine ⟨_, rfl, ?_⟩
  have B4 : Keep (Below w.heap.size w w4) := ⟨B3.out.trans (hb.mono B3.out.size)⟩
  have H44 := Keep.mk (H43.out.below hb H43.out.lt)
  have H54 := Keep.mk (H53.out.below hb H53.out.lt)
  clear hb H43 H53 B3
  simp only [Act.put, List.setIfInBounds_toArray, List.set_cons_zero, List.set_cons_succ]
  refine WL.new (by kernel_rfl) 56 rfl _ Nd.Tryz.new56 ?_
  have H6 := Keep.mk (Blk.new w4 56 Nd.zEn)
  have b_b6 := Keep.mk (below_new w4 (.cells Nd.zEn 56))
  generalize w4.alloc (.cells Nd.zEn 56) = w5 at *
  obtain ⟨b6, hb6⟩ : ∃ z, Keep (z = w4.heap.size) := ⟨_, ⟨rfl⟩⟩
  rw [← hb6.out] at H6 ⊢
  have H45 := Keep.mk (H44.out.below b_b6.out H44.out.lt)
  have H55 := Keep.mk (H54.out.below b_b6.out H54.out.lt)
  have B5 : Keep (Below w.heap.size w w5) := ⟨B4.out.trans (b_b6.out.mono B4.out.size)⟩
  have L6 : Keep (g5 < b6) := ⟨by have h1 := hb6.out; have h2 := H54.out.lt; omega⟩
  clear H44 H54 b_b6 B4
  simp only [Act.put, List.setIfInBounds_toArray, List.set_cons_zero, List.set_cons_succ]
  refine WL.storeR (by kernel_rfl) 56 (.tmp 6) (.tmp 18) rfl b6 ee rfl rfl 56 Nd.zEn H6.out E1.out (by rw [E3.out, Nd.zEn_size]) E2.out ?_
  have H66 := Keep.mk (H6.out.setRow ee)
  have g_w6 : Keep (Grown w5 (w5.setRow b6 ee) fun k => k = b6) := ⟨Grown.setRow w5 b6 _ fun _ => rfl⟩
  clear H6
  generalize w5.setRow b6 ee = w6 at *
  have H46 := Keep.mk (g_w6.out.blk H45.out (by have h1 := LT.out; have h2 := L6.out; omega))
  have H56 := Keep.mk (g_w6.out.blk H55.out (by have h2 := L6.out; omega))
  have B6 : Keep (Below w.heap.size w w6) := ⟨B5.out.trans (g_w6.out.to_below (fun k hk e => by have h1 := LT.out; have h2 := L6.out; omega) B5.out.size)⟩
  clear H45 H55 B5
  simp only [Act.put]
  refine WL.nil ?_
  refine hK5 _ _ ?_
  refine wp_seq_k fun K6 hK6 => ?_
  refine wp_region_list (WL.out ?_)
  refine WL.val (by kernel_rfl) (.pointer (some ⟨s, 0, none⟩)) (by go_simp) ?_
  simp only [Act.put, List.setIfInBounds_toArray, List.set_cons_zero, List.set_cons_succ]
  refine WL.row (by kernel_rfl) 56 (.tmp 6) rfl b6 rfl 56 ee _ H66.out Tryz.underlying56 rfl E1.out ?_
  simp only [Act.put, List.setIfInBounds_toArray, List.set_cons_zero, List.set_cons_succ]
  refine WL.callF (by kernel_rfl) 15 _ _ rfl Tryz.in15 #[.agg ee] (by simp [Act.eval]) ?_
  refine (vertex0 x0.f 1 1 pa pc (.slice qa 0 qc) ee hee w6).mono ?_
  rintro e w7 ⟨bp, rfl, _, hb⟩
  refine ⟨_, rfl, ?_⟩
  have B7 : Keep (Below w.heap.size w w7) := ⟨B6.out.trans (hb.mono B6.out.size)⟩
  have H47 := Keep.mk (H46.out.below hb H46.out.lt)
  have H57 := Keep.mk (H56.out.below hb H56.out.lt)
  have HS7 := Keep.mk (HS.out.below B7.out)
  clear hb H46 H56 B6 H66
  obtain ⟨vv, hvv⟩ : ∃ a : Array Value, Keep (a = vtx x0.f 1 (.slice (some ⟨bp, 0, none⟩) 0 0)) := ⟨_, ⟨rfl⟩⟩
  rw [← hvv.out]
  simp only [Act.put, List.setIfInBounds_toArray, List.set_cons_zero, List.set_cons_succ]
  refine WL.val (by kernel_rfl) (.slice (some ad) 5 c) (by go_simp) ?_
  simp only [Act.put, List.setIfInBounds_toArray, List.set_cons_zero, List.set_cons_succ]
  refine WL.callF (by kernel_rfl) 14 _ _ rfl Tryz.in14 #[.pointer (some ⟨s, 0, none⟩), .agg vv, .slice (some ad) 5 c] (by simp [Act.eval]) ?_
  refine (place_known s d mb g Av w7 HS7 x0 bp vv hvv ad 5 c Hf ⟨.inr Hh.out⟩).mono ?_
  rintro e w8 ⟨rfl, hb⟩
  refine ⟨_, rfl, ?_⟩
  have G8 : Keep (Grown w w8 fun k => k = mb ∨ DgS d g k) := ⟨Grown.below (B7.out.trans (hb.mono B7.out.size))⟩
  have B8 : Keep (Below w.heap.size w w8) := ⟨B7.out.trans (hb.mono B7.out.size)⟩
  have H48 := Keep.mk (H47.out.below hb H47.out.lt)
  have H58 := Keep.mk (H57.out.below hb H57.out.lt)
  clear hb H47 H57 B7 HS7
  simp only [Act.put, List.setIfInBounds_toArray, List.set_cons_zero, List.set_cons_succ]
  refine WL.storeR (by kernel_rfl) 27 (.tmp 4) (.tmp 23) rfl g4 #[.int .i64 1, .slice none 0 0, .slice none 0 0] rfl rfl 27 #[.int .i64 0, .slice none 0 0, .slice none 0 0] H48.out (by kernel_rfl) rfl (by simp [Value.oneCell']) ?_
  have H49 := Keep.mk (H48.out.setRow #[.int .i64 1, .slice none 0 0, .slice none 0 0])
  have g_w9 : Keep (Grown w8 (w8.setRow g4 #[.int .i64 1, .slice none 0 0, .slice none 0 0]) fun k => k = g4) := ⟨Grown.setRow w8 g4 _ fun _ => rfl⟩
  clear H48
  generalize w8.setRow g4 #[.int .i64 1, .slice none 0 0, .slice none 0 0] = w9 at *
  have H59 := Keep.mk (g_w9.out.blk H58.out (by have h1 := LT.out; omega))
  have c0 := H59.out.c 0 rfl
  have f0 := H59.out.frozen 0
  clear H58
  simp only [Act.put]
  refine WL.cell (by kernel_rfl) (w9.setCell ⟨g5, 0, none⟩ .nilIface) (by go_simp) ?_
  have H5a := Keep.mk (H59.out.set 0 .nilIface)
  have g_wa : Keep (Grown w9 (w9.setCell ⟨g5, 0, none⟩ .nilIface) fun k => k = g5) := ⟨Grown.setCell w9 g5 0 _ fun _ => rfl⟩
  have H4a := Keep.mk (g_wa.out.blk H49.out (by have h1 := LT.out; omega))
  clear c0 f0 H59 H49
  generalize w9.setCell ⟨g5, 0, none⟩ .nilIface = wa at *
  simp only [Act.put]
  refine WL.nil ?_
  refine hK6 _ _ ?_
  refine wp_ret ?_
  try simp only [Exit.inBlock, Exit.then]
  refine leaves_cons (f := 10) (args := #[ptr g4, ptr g5]) (by simp) (by simp [go_sem, ptr]) ?_
  refine (tcatch_idle g4 g5 wa).mono ?_
  rintro e u' wb ⟨rfl, rfl, rfl⟩
  simp only [settle]
  refine ⟨.tuple #[.agg #[.int .i64 1, .slice none 0 0, .slice none 0 0], .nilIface], tresults_cells _ _ g4 g5 _ _ rfl rfl H4a.out H5a.out rfl, ?_⟩
  have g89 : Grown w8 wb (fun k => k = g4 ∨ k = g5) := (g_w9.out.mono fun k _ e => .inl e).trans (g_wa.out.mono fun k _ e => .inr e)
  exact ⟨rfl, B8.out.trans (g89.to_below (fun k hk e => by have := LT.out; omega) B8.out.size)⟩
set_option maxRecDepth 8000 in
set_option maxHeartbeats 2000000 in
theorem take_took (s d mb : Nat) (g : DG) (Av : Nat → Prop) (w : World) (HS : Keep (ShAt w s d mb g Av)) (ad : Addr) (c : Nat) (HR : Keep (RowAt w (.slice (some ad) 5 c) [1, 1, 1, 0, 0])) (HM : Keep (w.heap[mb]? = some (.map #[] 0))) (Hg : Keep (g.held = [] ∧ g.wait = [] ∧ g.heads = [] ∧ g.order = [] ∧ g.queue = [])) : Calls Tryz.prog 6 #[.pointer (some ⟨s, 0, none⟩), .slice (some ad) 5 c] w fun e w' => ∃ gx, e = .returned (.tuple #[.agg #[.int .i64 2, .slice (some ⟨gx, 0, none⟩) 1 1, .slice none 0 0], .nilIface]) ∧ ∃ g' Av', ShAt w' s d mb g' Av' ∧ g'.held = [⟨x0, 1, []⟩] ∧ g'.wait = [] ∧ g'.queue = [] ∧ Grown w w' fun k => k = mb ∨ DgS d g k := by
  have hmf : ∀ (fn : Fn) (first cap : Array Value) (w : World), (Instr.makeFunc fn first cap).run Tryz.prog w = .ok (.func fn first cap) w := fun _ _ _ _ => rfl
  go_enter_defers Tryz.func6, Tryz.ntmps6
  refine wp_seq_k fun K1 hK1 => ?_
  refine wp_region_list (WL.out ?_)
  refine WL.new (by kernel_rfl) 27 rfl _ Tryz.new27 ?_
  have H4 := Keep.mk (Blk.new w 27 #[.int .i64 0, .slice none 0 0, .slice none 0 0])
  have b_g4 := Keep.mk (below_new w (.cells #[.int .i64 0, .slice none 0 0, .slice none 0 0] 27))
  generalize w.alloc (.cells #[.int .i64 0, .slice none 0 0, .slice none 0 0] 27) = w1 at *
  obtain ⟨g4, hg4⟩ : ∃ z, Keep (z = w.heap.size) := ⟨_, ⟨rfl⟩⟩
  rw [← hg4.out] at H4 ⊢
  simp only [Act.put, List.setIfInBounds_toArray, List.set_cons_zero, List.set_cons_succ]
  refine WL.new (by kernel_rfl) 29 rfl _ Nd.Tryz.new29 ?_
  have H5 := Keep.mk (Blk.new w1 29 #[.nilIface])
  have b_g5 := Keep.mk (below_new w1 (.cells #[.nilIface] 29))
  generalize w1.alloc (.cells #[.nilIface] 29) = w2 at *
  obtain ⟨g5, hg5⟩ : ∃ z, Keep (z = w1.heap.size) := ⟨_, ⟨rfl⟩⟩
  rw [← hg5.out] at H5 ⊢
  have H42 := Keep.mk (H4.out.below b_g5.out H4.out.lt)
  have B2 : Keep (Below w.heap.size w w2) := ⟨b_g4.out.trans (b_g5.out.mono b_g4.out.size)⟩
  have LT : Keep (w.heap.size ≤ g4 ∧ g4 < g5) := ⟨by
    have h1 := hg4.out
    have h2 := hg5.out
    have h3 := H4.out.lt
    exact ⟨by omega, by omega⟩⟩
  clear H4 b_g4 b_g5
  simp only [Act.put, List.setIfInBounds_toArray, List.set_cons_zero, List.set_cons_succ]
  refine WL.nil ?_
  refine hK1 _ _ ?_
  refine wp_seq_k fun K2 hK2 => ?_
  refine wp_region_list (WL.out ?_)
  refine WL.val (by kernel_rfl) (.func (.func 10) #[] #[.pointer (some ⟨g4, 0, none⟩), .pointer (some ⟨g5, 0, none⟩)]) (by go_simp) ?_
  simp only [Act.put, List.setIfInBounds_toArray, List.set_cons_zero, List.set_cons_succ]
  refine WL.defer (by kernel_rfl) { target := .fn (.func 10) #[.pointer (some ⟨g4, 0, none⟩), .pointer (some ⟨g5, 0, none⟩)], args := #[] } (by go_simp) ?_
  clear hmf
  simp only [Act.put]
  refine WL.nil ?_
  refine hK2 _ _ ?_
  refine wp_seq_k fun K3 hK3 => ?_
  refine wp_seq_k fun K4 hK4 => ?_
  refine wp_region_list (WL.out ?_)
  refine WL.val (by kernel_rfl) (.pointer (some ⟨s, 0, none⟩)) (by go_simp) ?_
  simp only [Act.put, List.setIfInBounds_toArray, List.set_cons_zero, List.set_cons_succ]
  refine WL.val (by kernel_rfl) (.pointer (some ⟨s, 0, none⟩)) (by go_simp) ?_
  simp only [Act.put, List.setIfInBounds_toArray, List.set_cons_zero, List.set_cons_succ]
  refine WL.val (by kernel_rfl) (.pointer (some ⟨s, 3, none⟩)) (by go_simp) ?_
  simp only [Act.put, List.setIfInBounds_toArray, List.set_cons_zero, List.set_cons_succ]
  have cS : w2.cell? ⟨s, 3, none⟩ = some (.bool false) := (HS.out.below B2.out).bl.c 3 rfl
  refine WL.val (by kernel_rfl) (.bool false) (by go_simp) ?_
  clear cS
  simp only [Act.put, List.setIfInBounds_toArray, List.set_cons_zero, List.set_cons_succ]
  refine WL.nil ?_
  refine hK4 _ _ ?_
  refine wp_cond_false rfl ?_
  refine wp_skip ?_
  refine hK3 _ _ ?_
  refine wp_seq_k fun K5 hK5 => ?_
  refine wp_region_list (WL.out ?_)
  refine WL.val (by kernel_rfl) (.slice (some ad) 5 c) (by go_simp) ?_
  simp only [Act.put, List.setIfInBounds_toArray, List.set_cons_zero, List.set_cons_succ]
  refine WL.callF (by kernel_rfl) 13 _ _ rfl Tryz.in13 #[.slice (some ad) 5 c] (by simp [Act.eval]) ?_
  refine (entry_one w2 ad c (HR.out.below B2.out)).mono ?_
  rintro e w3 ⟨pa, pc, qa, qc, rfl, hb⟩
  refine ⟨_, rfl, ?_⟩
  have B3 : Keep (Below w.heap.size w w3) := ⟨B2.out.trans (hb.mono B2.out.size)⟩
  have H43 := Keep.mk (H42.out.below hb H42.out.lt)
  have H53 := Keep.mk (H5.out.below hb H5.out.lt)
  clear hb H42 H5 B2
  obtain ⟨ee, hee⟩ : ∃ a : Array Value, Keep (a = enE x0.f 1 1 (.slice pa 0 pc) (.slice qa 0 qc)) := ⟨_, ⟨rfl⟩⟩
  rw [← hee.out]
  have e1 : (Tryz.prog.info? 56).map (·.size) = some ee.size := by rw [hee.out]; exact Nd.Tryz.size56B _ _ _ _ _
  have e2 : ee.all (·.oneCell') = true := by rw [hee.out]; exact Nd.enA_one _ 1 1 pa 0 pc qa 0 qc
  have e3 : ee.size = 36 := by rw [hee.out]; exact Nd.enA_size _ _ _ _ _
  have E1 := Keep.mk e1
  have E2 := Keep.mk e2
  have E3 := Keep.mk e3
  clear e1 e2 e3
  simp only [Act.put, List.setIfInBounds_toArray, List.set_cons_zero, List.set_cons_succ]
  refine WL.val (by kernel_rfl) (.agg ee) (by go_simp) ?_
  simp only [Act.put, List.setIfInBounds_toArray, List.set_cons_zero, List.set_cons_succ]
  refine WL.val (by kernel_rfl) (.nilIface) (by go_simp) ?_
  simp only [Act.put, List.setIfInBounds_toArray, List.set_cons_zero, List.set_cons_succ]
  refine WL.callF (by kernel_rfl) 12 _ _ rfl Tryz.in12 #[.agg ee, .nilIface] (by simp [Act.eval]) ?_
  refine (must12_ok ee w3 E1.out E2.out E3.out).mono ?_
  rintro e w4 ⟨rfl, hb⟩
  refine ⟨_, rfl, ?_⟩
  have B4 : Keep (Below w.heap.size w w4) := ⟨B3.out.trans (hb.mono B3.out.size)⟩
  have H44 := Keep.mk (H43.out.below hb H43.out.lt)
  have H54 := Keep.mk (H53.out.below hb H53.out.lt)
  clear hb H43 H53 B3
  simp only [Act.put, List.setIfInBounds_toArray, List.set_cons_zero, List.set_cons_succ]
  refine WL.new (by kernel_rfl) 56 rfl _ Nd.Tryz.new56 ?_
  have H6 := Keep.mk (Blk.new w4 56 Nd.zEn)
  have b_b6 := Keep.mk (below_new w4 (.cells Nd.zEn 56))
  generalize w4.alloc (.cells Nd.zEn 56) = w5 at *
  obtain ⟨b6, hb6⟩ : ∃ z, Keep (z = w4.heap.size) := ⟨_, ⟨rfl⟩⟩
  rw [← hb6.out] at H6 ⊢
  have H45 := Keep.mk (H44.out.below b_b6.out H44.out.lt)
  have H55 := Keep.mk (H54.out.below b_b6.out H54.out.lt)
  have B5 : Keep (Below w.heap.size w w5) := ⟨B4.out.trans (b_b6.out.mono B4.out.size)⟩
  have L6 : Keep (g5 < b6) := ⟨by have h1 := hb6.out; have h2 := H54.out.lt; omega⟩
  clear H44 H54 b_b6 B4
  simp only [Act.put, List.setIfInBounds_toArray, List.set_cons_zero, List.set_cons_succ]
  refine WL.storeR (by kernel_rfl) 56 (.tmp 6) (.tmp 18) rfl b6 ee rfl rfl 56 Nd.zEn H6.out E1.out (by rw [E3.out, Nd.zEn_size]) E2.out ?_
  have H66 := Keep.mk (H6.out.setRow ee)
  have g_w6 : Keep (Grown w5 (w5.setRow b6 ee) fun k => k = b6) := ⟨Grown.setRow w5 b6 _ fun _ => rfl⟩
  clear H6
  generalize w5.setRow b6 ee = w6 at *
  have H46 := Keep.mk (g_w6.out.blk H45.out (by have h1 := LT.out; have h2 := L6.out; omega))
  have H56 := Keep.mk (g_w6.out.blk H55.out (by have h2 := L6.out; omega))
  have B6 : Keep (Below w.heap.size w w6) := ⟨B5.out.trans (g_w6.out.to_below (fun k hk e => by have h1 := LT.out; have h2 := L6.out; omega) B5.out.size)⟩
  clear H45 H55 B5
  simp only [Act.put]
  refine WL.nil ?_
  refine hK5 _ _ ?_
  refine wp_seq_k fun K6 hK6 => ?_
  refine wp_region_list (WL.out ?_)
  refine WL.val (by kernel_rfl) (.pointer (some ⟨s, 0, none⟩)) (by go_simp) ?_
  simp only [Act.put, List.setIfInBounds_toArray, List.set_cons_zero, List.set_cons_succ]
  refine WL.row (by kernel_rfl) 56 (.tmp 6) rfl b6 rfl 56 ee _ H66.out Tryz.underlying56 rfl E1.out ?_
  simp only [Act.put, List.setIfInBounds_toArray, List.set_cons_zero, List.set_cons_succ]
  refine WL.callF (by kernel_rfl) 15 _ _ rfl Tryz.in15 #[.agg ee] (by simp [Act.eval]) ?_
  refine (vertex0 x0.f 1 1 pa pc (.slice qa 0 qc) ee hee w6).mono ?_
  rintro e w7 ⟨bp, rfl, _, hb⟩
  refine ⟨_, rfl, ?_⟩
  have B7 : Keep (Below w.heap.size w w7) := ⟨B6.out.trans (hb.mono B6.out.size)⟩
  have H47 := Keep.mk (H46.out.below hb H46.out.lt)
  have H57 := Keep.mk (H56.out.below hb H56.out.lt)
  have HS7 := Keep.mk (HS.out.below B7.out)
  clear hb H46 H56 B6 H66
  obtain ⟨vv, hvv⟩ : ∃ a : Array Value, Keep (a = vtx x0.f 1 (.slice (some ⟨bp, 0, none⟩) 0 0)) := ⟨_, ⟨rfl⟩⟩
  rw [← hvv.out]
  simp only [Act.put, List.setIfInBounds_toArray, List.set_cons_zero, List.set_cons_succ]
  refine WL.val (by kernel_rfl) (.slice (some ad) 5 c) (by go_simp) ?_
  simp only [Act.put, List.setIfInBounds_toArray, List.set_cons_zero, List.set_cons_succ]
  refine WL.callF (by kernel_rfl) 14 _ _ rfl Tryz.in14 #[.pointer (some ⟨s, 0, none⟩), .agg vv, .slice (some ad) 5 c] (by simp [Act.eval]) ?_
  refine (place_took s d mb g Av w7 HS7 x0 bp vv hvv ad 5 c [1, 1, 1, 0, 0] ⟨HR.out.below B7.out⟩ ⟨by decide⟩ ⟨by rw [B7.out.block mb (Array.getElem?_eq_some_iff.1 HM.out).1]; exact HM.out⟩ Hg ⟨by rw [Hg.out.1, Hg.out.2.1]; exact fit_first x0⟩ ⟨.inl Hg.out.1⟩).mono ?_
  rintro e w8 ⟨gx, rfl, g', Av', k1, k2, k3, k4, k5, k6⟩
  refine ⟨_, rfl, ?_⟩
  have HS8 := Keep.mk k1
  have HG' := Keep.mk (And.intro k2 (And.intro k3 k4))
  have nn : ∀ j, w.heap.size ≤ j → j < w7.heap.size → ¬ (j = mb ∨ DgS d g j) ∧ ¬ DgS d g' j := fun j h1 h2 => by
    have lm := (Array.getElem?_eq_some_iff.1 HM.out).1
    have a1 : ¬ DgS d g j := fun e => by have := HS.out.dg.lt j (HS.out.dg.av j e); omega
    exact ⟨fun e => e.elim (fun e => by omega) a1, fun e => (k5 j e).elim a1 (fun e => by omega)⟩
  have N4 := Keep.mk (nn g4 LT.out.1 H47.out.lt)
  have N5 := Keep.mk (nn g5 (by have := LT.out; omega) H57.out.lt)
  have H48 := Keep.mk (k6.blk H47.out N4.out.1)
  have H58 := Keep.mk (k6.blk H57.out N5.out.1)
  have G8 : Keep (Grown w w8 fun k => k = mb ∨ DgS d g k) := ⟨(Grown.below B7.out).trans k6⟩
  clear k1 k2 k3 k4 k5 k6 nn H47 H57 B7 HS7
  simp only [Act.put, List.setIfInBounds_toArray, List.set_cons_zero, List.set_cons_succ]
  refine WL.storeR (by kernel_rfl) 27 (.tmp 4) (.tmp 23) rfl g4 #[.int .i64 2, .slice (some ⟨gx, 0, none⟩) 1 1, .slice none 0 0] rfl rfl 27 #[.int .i64 0, .slice none 0 0, .slice none 0 0] H48.out (by kernel_rfl) rfl (by simp [Value.oneCell']) ?_
  have H49 := Keep.mk (H48.out.setRow #[.int .i64 2, .slice (some ⟨gx, 0, none⟩) 1 1, .slice none 0 0])
  have g_w9 : Keep (Grown w8 (w8.setRow g4 #[.int .i64 2, .slice (some ⟨gx, 0, none⟩) 1 1, .slice none 0 0]) fun k => k = g4) := ⟨Grown.setRow w8 g4 _ fun _ => rfl⟩
  clear H48
  generalize w8.setRow g4 #[.int .i64 2, .slice (some ⟨gx, 0, none⟩) 1 1, .slice none 0 0] = w9 at *
  have H59 := Keep.mk (g_w9.out.blk H58.out (by have h1 := LT.out; omega))
  have c0 := H59.out.c 0 rfl
  have f0 := H59.out.frozen 0
  clear H58
  simp only [Act.put]
  refine WL.cell (by kernel_rfl) (w9.setCell ⟨g5, 0, none⟩ .nilIface) (by go_simp) ?_
  have H5a := Keep.mk (H59.out.set 0 .nilIface)
  have g_wa : Keep (Grown w9 (w9.setCell ⟨g5, 0, none⟩ .nilIface) fun k => k = g5) := ⟨Grown.setCell w9 g5 0 _ fun _ => rfl⟩
  have H4a := Keep.mk (g_wa.out.blk H49.out (by have h1 := LT.out; omega))
  clear c0 f0 H59 H49
  generalize w9.setCell ⟨g5, 0, none⟩ .nilIface = wa at *
  simp only [Act.put]
  refine WL.nil ?_
  refine hK6 _ _ ?_
  refine wp_ret ?_
  try simp only [Exit.inBlock, Exit.then]
  refine leaves_cons (f := 10) (args := #[ptr g4, ptr g5]) (by simp) (by simp [go_sem, ptr]) ?_
  refine (tcatch_idle g4 g5 wa).mono ?_
  rintro e u' wb ⟨rfl, rfl, rfl⟩
  simp only [settle]
  refine ⟨.tuple #[.agg #[.int .i64 2, .slice (some ⟨gx, 0, none⟩) 1 1, .slice none 0 0], .nilIface], tresults_cells _ _ g4 g5 _ _ rfl rfl H4a.out H5a.out rfl, ?_⟩
  have g89 : Grown w8 wb (fun k => k = g4 ∨ k = g5) := (g_w9.out.mono fun k _ e => .inl e).trans (g_wa.out.mono fun k _ e => .inr e)
  exact ⟨gx, rfl, g', Av', HS8.out.keep1 HG'.out.1 HG'.out.2.1 g89 (fun k e => by
    rcases e with e | e <;> subst e
    · exact ⟨fun e => by have := HS.out.bl.lt; have := LT.out; omega, fun e => N4.out.1 (.inl e), N4.out.2⟩
    · exact ⟨fun e => by have := HS.out.bl.lt; have := LT.out; omega, fun e => N5.out.1 (.inl e), N5.out.2⟩), HG'.out.1, HG'.out.2.1, HG'.out.2.2, G8.out.next g89 fun k hk e => by have := LT.out; exfalso; omega⟩

end Go.Proofs.YtibaindbnemlcaaGreatDoor
namespace Go.Proofs.YtibaindbnemlcaaGreatDoor
open Go.RowKit Go.Extern.Stop Go.Stop Go.Extern

theorem as_nil (t : Value) (w : World) :
    Calls Tryz.prog 16 #[.nilIface, t] w fun e w' => e = .returned (.bool false) ∧ w' = w := by
  go_enter Tryz.func16, Tryz.ntmps16
  go_wp2
  go_ret
  exact ⟨rfl, rfl⟩

theorem Tryz.as_valueOf66 (t : Addr) (w : World) : (ReflectliteValue.unpack (.iface 66 (.pointer (some t)))).run Tryz.prog w
    = .ok (.agg #[.pointer (some ⟨1, 66, none⟩), .pointer (some ⟨w.heap.size, 0, none⟩), .int .u64 150]) (w.alloc (.cells #[.pointer (some t)] 66)) := by kernel_rfl
theorem Tryz.as_type66 (a : Addr) (w : World) : (ReflectliteValue.methodAny (ReflectliteValue.valueError "reflectlite.Value.Type" 0) (fun t _ _ _ => ReflectliteType.toType t) #[.agg #[.pointer (some ⟨1, 66, none⟩), .pointer (some a), .int .u64 150]]).run Tryz.prog w
    = .ok (.iface 110 (.agg #[.pointer (some ⟨1, 66, none⟩)])) w := by kernel_rfl
theorem Tryz.as_methodKind (h : Value) (w : World) : (Go.method 348 110 (.agg #[h]) "Kind").run Tryz.prog w = .ok (145, h) w := by kernel_rfl
theorem Tryz.as_kind66 (w : World) : ((ReflectliteType.abiMethod fun t => (fun a : Nat => Value.int IntKind.u8 (a : Int)) <$> Rtype.kind t) #[.pointer (some ⟨1, 66, none⟩)]).run Tryz.prog w = .ok (.int .u8 22) w := by kernel_rfl
theorem Tryz.as_kind64 (w : World) : ((ReflectliteType.abiMethod fun t => (fun a : Nat => Value.int IntKind.u8 (a : Int)) <$> Rtype.kind t) #[.pointer (some ⟨1, 64, none⟩)]).run Tryz.prog w = .ok (.int .u8 22) w := by kernel_rfl

theorem Tryz.as_parts66 (a : Addr) (w : World) : (ReflectliteValue.parts (.agg #[.pointer (some ⟨1, 66, none⟩), .pointer (some a), .int .u64 150])).run Tryz.prog w = .ok (some (66, a, 150)) w := by kernel_rfl
theorem Tryz.as_isNil66 (a p : Addr) (W : World) (ha : W.cell? a = some (.pointer (some p))) :
    (ReflectliteValue.method (ReflectliteValue.valueError "reflectlite.Value.IsNil" 0) ReflectliteValue.isNil #[.agg #[.pointer (some ⟨1, 66, none⟩), .pointer (some a), .int .u64 150]]).run Tryz.prog W = .ok (.bool false) W := by
  show Sem.run Tryz.prog (ReflectliteValue.parts (.agg #[.pointer (some ⟨1, 66, none⟩), .pointer (some a), .int .u64 150]) >>= fun _ => _) W = _
  simp only [Sem.run_bind, Tryz.as_parts66, Result.andThen]
  simp [ReflectliteValue.isNil, loadVar, isAgg, underlying, Tryz.underlying66, ha, Result.andThen]

theorem Tryz.as_methodElem (h : Value) (w : World) : (Go.method 348 110 (.agg #[h]) "Elem").run Tryz.prog w = .ok (158, .agg #[h]) w := by kernel_rfl
theorem Tryz.as_methodImplements (h : Value) (w : World) : (Go.method 348 110 (.agg #[h]) "Implements").run Tryz.prog w = .ok (159, .agg #[h]) w := by kernel_rfl
theorem Tryz.as_methodAssignableTo (h : Value) (w : World) : (Go.method 348 110 (.agg #[h]) "AssignableTo").run Tryz.prog w = .ok (156, .agg #[h]) w := by kernel_rfl
theorem Tryz.as_elem66 (w : World) : (ReflectliteType.method ReflectliteType.elem #[.agg #[.pointer (some ⟨1, 66, none⟩)]]).run Tryz.prog w = .ok (.iface 110 (.agg #[.pointer (some ⟨1, 64, none⟩)])) w := by kernel_rfl
theorem Tryz.as_implements64 (w : World) : (ReflectliteType.relation "Implements" ReflectliteType.implements_ #[.agg #[.pointer (some ⟨1, 64, none⟩)], .iface 110 (.agg #[.pointer (some ⟨1, 29, none⟩)])]).run Tryz.prog w = .ok (.bool true) w := by kernel_rfl
theorem Tryz.as_typeOf64 (v : Value) (w : World) : (ReflectliteType.typeOf #[.iface 64 v]).run Tryz.prog w = .ok (.iface 110 (.agg #[.pointer (some ⟨1, 64, none⟩)])) w := by kernel_rfl
theorem Tryz.as_assignable64 (w : World) : (ReflectliteType.relation "AssignableTo" ReflectliteType.assignableTo #[.agg #[.pointer (some ⟨1, 64, none⟩)], .iface 110 (.agg #[.pointer (some ⟨1, 64, none⟩)])]).run Tryz.prog w = .ok (.bool true) w := by kernel_rfl
theorem Tryz.as_valueOf64 (e : Addr) (w : World) : (ReflectliteValue.unpack (.iface 64 (.pointer (some e)))).run Tryz.prog w
    = .ok (.agg #[.pointer (some ⟨1, 64, none⟩), .pointer (some ⟨w.heap.size, 0, none⟩), .int .u64 150]) (w.alloc (.cells #[.pointer (some e)] 64)) := by kernel_rfl

theorem Tryz.as_elemOf66 (w : World) : (Rtype.elem? 66).run Tryz.prog w = .ok (some 64) w := by kernel_rfl
theorem Tryz.as_mk64 (p : Addr) (w : World) : (ReflectliteValue.mk 64 p ReflectliteValue.flagAddr).run Tryz.prog w = .ok (.agg #[.pointer (some ⟨1, 64, none⟩), .pointer (some p), .int .u64 406]) w := by kernel_rfl
theorem Tryz.as_elemV66 (a p : Addr) (W : World) (ha : W.cell? a = some (.pointer (some p))) :
    (ReflectliteValue.method (ReflectliteValue.valueError "reflectlite.Value.Elem" 0) ReflectliteValue.elem #[.agg #[.pointer (some ⟨1, 66, none⟩), .pointer (some a), .int .u64 150]]).run Tryz.prog W
      = .ok (.agg #[.pointer (some ⟨1, 64, none⟩), .pointer (some p), .int .u64 406]) W := by
  show Sem.run Tryz.prog (ReflectliteValue.parts (.agg #[.pointer (some ⟨1, 66, none⟩), .pointer (some a), .int .u64 150]) >>= fun _ => _) W = _
  simp only [Sem.run_bind, Tryz.as_parts66, Result.andThen]
  simp [ReflectliteValue.elem, loadVar, isAgg, underlying, Tryz.underlying66, ha, Result.andThen, Tryz.as_elemOf66, Tryz.as_mk64]
theorem Tryz.as_parts43a (a : Addr) (w : World) : (ReflectliteValue.parts (.agg #[.pointer (some ⟨1, 64, none⟩), .pointer (some a), .int .u64 406])).run Tryz.prog w = .ok (some (64, a, 406)) w := by kernel_rfl
theorem Tryz.as_parts64 (a : Addr) (w : World) : (ReflectliteValue.parts (.agg #[.pointer (some ⟨1, 64, none⟩), .pointer (some a), .int .u64 150])).run Tryz.prog w = .ok (some (64, a, 150)) w := by kernel_rfl
theorem Tryz.as_direct64 (w : World) : (Rtype.directlyAssignable 64 64).run Tryz.prog w = .ok true w := by kernel_rfl
theorem Tryz.as_size64 (w : World) : (sizeOf 64).run Tryz.prog w = .ok 1 w := by kernel_rfl
theorem Tryz.as_set64 (ta b e : Addr) (old : Value) (W : World) (hb : W.cell? b = some (.pointer (some e))) (ht : W.cell? ta = some old) (hf : W.frozen? ta = false) :
    (ReflectliteValue.set #[.agg #[.pointer (some ⟨1, 64, none⟩), .pointer (some ta), .int .u64 406], .agg #[.pointer (some ⟨1, 64, none⟩), .pointer (some b), .int .u64 150]]).run Tryz.prog W
      = .ok (.tuple #[]) (W.setCell ta (.pointer (some e))) := by
  show Sem.run Tryz.prog (ReflectliteValue.parts (.agg #[.pointer (some ⟨1, 64, none⟩), .pointer (some ta), .int .u64 406]) >>= fun _ => ReflectliteValue.parts (.agg #[.pointer (some ⟨1, 64, none⟩), .pointer (some b), .int .u64 150]) >>= fun _ => _) W = _
  simp only [Sem.run_bind, Tryz.as_parts43a, Tryz.as_parts64, Result.andThen]
  simp [ReflectliteValue.flagAddr, loadVar, isAgg, underlying, Tryz.underlying64, hb, Result.andThen, Tryz.as_direct64, storeVar, Value.cells, storeCells, Addr.add]
  rw [run_store Tryz.prog W ta _ _ (by rfl)]
  simp [ht, hf]

set_option maxHeartbeats 4000000 in
theorem as_hit (e t : Addr) (old : Value) (w : World) (hg : w.cell? ⟨0, 0, none⟩ = some (.iface 110 (.agg #[.pointer (some ⟨1, 29, none⟩)]))) (ht0 : w.cell? t = some old) (hf0 : w.frozen? t = false) :
    Calls Tryz.prog 16 #[.iface 64 (.pointer (some e)), .iface 66 (.pointer (some t))] w fun ev w' => ev = .returned (.bool true) ∧ w' = ((((w.alloc (.cells #[.pointer (some t)] 66)).alloc (.cells #[.pointer (some ⟨1, 66, none⟩), .pointer (some ⟨w.heap.size, 0, none⟩), .int .u64 150] 88)).alloc (.cells #[.pointer (some ⟨1, 66, none⟩), .pointer (some ⟨w.heap.size, 0, none⟩), .int .u64 150] 88)).alloc (.cells #[.pointer (some e)] 64)).setCell t (.pointer (some e)) := by
  have h6 := @run_callFunc_extern Tryz.prog 25 _ (fun args => ReflectliteValue.unpack (args.getD 0 (.tuple #[]))) Tryz.func25 (by kernel_rfl) (by kernel_rfl) (by kernel_rfl) (by kernel_rfl)
  have h7 := @run_callFunc_extern Tryz.prog 26 _ (ReflectliteValue.methodAny (ReflectliteValue.valueError "reflectlite.Value.Type" 0) (fun t _ _ _ => ReflectliteType.toType t)) Tryz.func26 (by kernel_rfl) (by kernel_rfl) (by kernel_rfl) (by kernel_rfl)
  have h8 := @run_callFunc_extern Tryz.prog 27 _ (ReflectliteValue.method (ReflectliteValue.valueError "reflectlite.Value.IsNil" 0) ReflectliteValue.isNil) Tryz.func27 (by kernel_rfl) (by kernel_rfl) (by kernel_rfl) (by kernel_rfl)
  have h27 := @run_callFunc_extern Tryz.prog 145 _ (ReflectliteType.abiMethod fun t => do pure (.int .u8 (← Rtype.kind t))) Tryz.func145 (by kernel_rfl) (by kernel_rfl) (by kernel_rfl) (by kernel_rfl)
  have h37 := @run_callFunc_extern Tryz.prog 158 _ (ReflectliteType.method ReflectliteType.elem) Tryz.func158 (by kernel_rfl) (by kernel_rfl) (by kernel_rfl) (by kernel_rfl)
  have h38 := @run_callFunc_extern Tryz.prog 159 _ (ReflectliteType.relation "Implements" ReflectliteType.implements_) Tryz.func159 (by kernel_rfl) (by kernel_rfl) (by kernel_rfl) (by kernel_rfl)
  have h10 := @run_callFunc_extern Tryz.prog 42 _ ReflectliteType.typeOf Tryz.func42 (by kernel_rfl) (by kernel_rfl) (by kernel_rfl) (by kernel_rfl)
  have h35 := @run_callFunc_extern Tryz.prog 156 _ (ReflectliteType.relation "AssignableTo" ReflectliteType.assignableTo) Tryz.func156 (by kernel_rfl) (by kernel_rfl) (by kernel_rfl) (by kernel_rfl)
  have h11 := @run_callFunc_extern Tryz.prog 43 _ (ReflectliteValue.method (ReflectliteValue.valueError "reflectlite.Value.Elem" 0) ReflectliteValue.elem) Tryz.func43 (by kernel_rfl) (by kernel_rfl) (by kernel_rfl) (by kernel_rfl)
  have h12 := @run_callFunc_extern Tryz.prog 44 _ ReflectliteValue.set Tryz.func44 (by kernel_rfl) (by kernel_rfl) (by kernel_rfl) (by kernel_rfl)
  have tO := Tryz.as_typeOf64
  have mA := Tryz.as_methodAssignableTo
  have a25 := Tryz.as_assignable64
  have v25 := Tryz.as_valueOf64
  have f6 := Tryz.as_valueOf66
  have f7 := Tryz.as_type66
  have mK := Tryz.as_methodKind
  have mE := Tryz.as_methodElem
  have mI := Tryz.as_methodImplements
  have k27 := Tryz.as_kind66
  have k25 := Tryz.as_kind64
  have e27 := Tryz.as_elem66
  have i25 := Tryz.as_implements64
  have n8 := Tryz.as_isNil66 ⟨w.heap.size, 0, none⟩ t ((w.alloc (.cells #[.pointer (some t)] 66)).alloc (.cells #[.pointer (some ⟨1, 66, none⟩), .pointer (some ⟨w.heap.size, 0, none⟩), .int .u64 150] 88)) (by simp)
  have hlt : 0 < w.heap.size := by
    rcases Nat.eq_zero_or_pos w.heap.size with h0 | h
    · simp [World.cell?, h0] at hg
    · exact h
  have hg2 : ((w.alloc (.cells #[.pointer (some t)] 66)).alloc (.cells #[.pointer (some ⟨1, 66, none⟩), .pointer (some ⟨w.heap.size, 0, none⟩), .int .u64 150] 88)).cell? ⟨0, 0, none⟩ = some (.iface 110 (.agg #[.pointer (some ⟨1, 29, none⟩)])) := by
    rw [World.cell?_alloc_lt _ _ ⟨0, 0, none⟩ (by simp), World.cell?_alloc_lt _ _ ⟨0, 0, none⟩ hlt]; exact hg
  have htl : t.block < w.heap.size := by
    rcases Nat.lt_or_ge t.block w.heap.size with h | h
    · exact h
    · simp [World.cell?, Array.getElem?_eq_none h] at ht0
  have el := Tryz.as_elemV66 ⟨w.heap.size, 0, none⟩ t (((w.alloc (.cells #[.pointer (some t)] 66)).alloc (.cells #[.pointer (some ⟨1, 66, none⟩), .pointer (some ⟨w.heap.size, 0, none⟩), .int .u64 150] 88)).alloc (.cells #[.pointer (some ⟨1, 66, none⟩), .pointer (some ⟨w.heap.size, 0, none⟩), .int .u64 150] 88)) (by rw [World.cell?_alloc_lt _ _ ⟨w.heap.size, 0, none⟩ (by simp; omega)]; simp)
  have st := Tryz.as_set64 t ⟨w.heap.size + 1 + 1 + 1, 0, none⟩ e old ((((w.alloc (.cells #[.pointer (some t)] 66)).alloc (.cells #[.pointer (some ⟨1, 66, none⟩), .pointer (some ⟨w.heap.size, 0, none⟩), .int .u64 150] 88)).alloc (.cells #[.pointer (some ⟨1, 66, none⟩), .pointer (some ⟨w.heap.size, 0, none⟩), .int .u64 150] 88)).alloc (.cells #[.pointer (some e)] 64))
    (by rw [World.cell?_alloc_at _ _ _ _ (by simp)]; rfl)
    (by rw [World.cell?_alloc_lt _ _ t (by simp; omega), World.cell?_alloc_lt _ _ t (by simp; omega), World.cell?_alloc_lt _ _ t (by simp; omega), World.cell?_alloc_lt _ _ t htl]; exact ht0)
    (by rw [World.frozen?_alloc_old _ _ t (by simp; omega), World.frozen?_alloc_old _ _ t (by simp; omega), World.frozen?_alloc_old _ _ t (by simp; omega), World.frozen?_alloc_old _ _ t (Nat.ne_of_lt htl)]; exact hf0)
  go_enter Tryz.func16, Tryz.ntmps16
  go_wp2
  refine wp_loop_rounds 1 ?_
  rw [rounds_succ]
  go_wp2
  go_ret
  exact ⟨rfl, rfl⟩
end Go.Proofs.YtibaindbnemlcaaGreatDoor
namespace Go.Proofs.YtibaindbnemlcaaGreatDoor
open Go.RowKit
set_option linter.unusedSimpArgs false
set_option linter.unusedVariables false
theorem Tryz.in7 (w : World) (vs : Array Value) : (callFunc 7 vs).run Tryz.prog w = .ok (.enter 7 vs) w := by kernel_rfl
theorem Tryz.in16 (w : World) (vs : Array Value) : (callFunc 16 vs).run Tryz.prog w = .ok (.enter 16 vs) w := by kernel_rfl
theorem Tryz.in4 (w : World) (vs : Array Value) : (callFunc 4 vs).run Tryz.prog w = .ok (.enter 4 vs) w := by kernel_rfl
theorem Tryz.in3 (w : World) (vs : Array Value) : (callFunc 3 vs).run Tryz.prog w = .ok (.enter 3 vs) w := by kernel_rfl
theorem Tryz.in8 (w : World) (vs : Array Value) : (callFunc 8 vs).run Tryz.prog w = .ok (.enter 8 vs) w := by kernel_rfl
def ErrT (w : World) : Prop := w.cell? ⟨0, 0, none⟩ = some (.iface 110 (.agg #[.pointer (some ⟨1, 29, none⟩)]))
theorem ErrT.lt {w : World} (h : ErrT w) : 0 < w.heap.size := cell_lt h
theorem ErrT.below {w w' : World} {B : Nat} (h : ErrT w) (hb : Below B w w') (h0 : 0 < B) : ErrT w' := by
  unfold ErrT
  rw [hb.cell (p := ⟨0, 0, none⟩) h0]
  exact h
theorem ErrT.grown {w w' : World} {S : Nat → Prop} (h : ErrT w) (hg : Grown w w' S) (hs : ¬ S 0) : ErrT w' := hg.cell h hs
theorem as_hit2 (g t : Nat) (w : World) (hg : ErrT w) (ht : Blk w t 64 #[.pointer none]) :
    Calls Tryz.prog 16 #[.iface 64 (ptr g), .iface 66 (ptr t)] w fun ev w' => ev = .returned (.bool true) ∧ Blk w' t 64 #[ptr g] ∧ Grown w w' fun k => k = t := by
  refine (as_hit ⟨g, 0, none⟩ ⟨t, 0, none⟩ (.pointer none) w hg (by rw [ht.cell]; rfl) (ht.frozen 0)).mono ?_
  rintro e w' ⟨rfl, rfl⟩
  refine ⟨rfl, ?_, ?_⟩
  · have h := ((((ht.alloc (.cells #[.pointer (some ⟨t, 0, none⟩)] 66)).alloc (.cells #[.pointer (some ⟨1, 66, none⟩), .pointer (some ⟨w.heap.size, 0, none⟩), .int .u64 150] 88)).alloc (.cells #[.pointer (some ⟨1, 66, none⟩), .pointer (some ⟨w.heap.size, 0, none⟩), .int .u64 150] 88)).alloc (.cells #[.pointer (some ⟨g, 0, none⟩)] 64)).set 0 (ptr g)
    exact h
  · refine Grown.next ?_ (Grown.setCell _ t 0 _ (S := fun k => k = t) fun _ => rfl) fun _ _ h => h
    exact (((Grown.alloc w _ _).next (Grown.alloc _ _ fun _ => False) fun _ _ h => h.elim).next (Grown.alloc _ _ fun _ => False) fun _ _ h => h.elim).next (Grown.alloc _ _ fun _ => False) fun _ _ h => h.elim
theorem Tryz.new34 (w : World) : (Instr.alloc 34 true (.tuple #[])).run Tryz.prog w = .ok (.pointer (some ⟨w.heap.size, 0, none⟩)) (w.alloc (.cells #[.int .i64 0, .int .i64 0] 34)) := by kernel_rfl
theorem Tryz.new64 (w : World) : (Instr.alloc 64 true (.tuple #[])).run Tryz.prog w = .ok (.pointer (some ⟨w.heap.size, 0, none⟩)) (w.alloc (.cells #[.pointer none] 64)) := by kernel_rfl
theorem yieldsIf_bld34 {ops : Array Oper} {S : World → Prop} {op : Oper} {a : Act} (hw : Region.wanted op (yielded ops a.tmps) = true) (v : Value) (hr : ∀ w : World, (execOp a.eval op).run Tryz.prog w = .ok (.value v) w) : YieldsIf Tryz.prog ops S op v a := .inl ⟨hw, fun w _ => hr w⟩
theorem bsB5 (w : World) : (Instr.buildSlice 32 5 #[(0, .int .u8 1), (1, .int .u8 1), (2, .int .u8 1), (3, .int .u8 0), (4, .int .u8 0)]).run Tryz.prog w = .ok (.slice (some ⟨w.heap.size, 0, none⟩) 5 5) (w.alloc (.cells #[.int .u8 1, .int .u8 1, .int .u8 1, .int .u8 0, .int .u8 0] 5)) := by kernel_rfl
theorem row_l0 (w : World) : RowAt (w.alloc (.cells #[.int .u8 1, .int .u8 1, .int .u8 1, .int .u8 0, .int .u8 0] 5)) (.slice (some ⟨w.heap.size, 0, none⟩) 5 5) [1, 1, 1, 0, 0] := by
  have h := Blk.new w 5 #[.int .u8 1, .int .u8 1, .int .u8 1, .int .u8 0, .int .u8 0]
  refine .inr (.inr ⟨w.heap.size, 0, 5, rfl, Nat.le_refl _, fun i hi => ?_⟩)
  rw [Nat.zero_add]
  match i, hi with
  | 0, _ => exact h.c 0 rfl
  | 1, _ => exact h.c 1 rfl
  | 2, _ => exact h.c 2 rfl
  | 3, _ => exact h.c 3 rfl
  | 4, _ => exact h.c 4 rfl
theorem hb_new {w : World} {s d mb : Nat} {g : DG} {Av : Nat → Prop} (h : ShAt w s d mb g Av) {b : Nat} (hb : b = w.heap.size) : b ≠ s ∧ b ≠ mb ∧ ¬ DgS d g b := by
  obtain ⟨es, ck, hm⟩ := h.mp
  have h1 := h.bl.lt
  have h2 := (Array.getElem?_eq_some_iff.1 hm).1
  exact ⟨by omega, by omega, fun e => by have := h.dg.lt b (h.dg.av b e); omega⟩
set_option maxRecDepth 8000 in
theorem told_20 (q : Nat) (w : World) (HB : Keep (Blk w q 68 #[.int .i64 20, .int .i64 0])) (HE : Keep (ErrT w)) : Calls Tryz.prog 7 #[.iface 64 (ptr q)] w fun e w' => e = .returned (.tuple #[.agg #[.int .i64 20, .int .i64 0], .bool true]) ∧ Below w.heap.size w w' := by
  go_enter Tryz.func7, Tryz.ntmps7
  refine wp_seq_k fun K1 hK1 => ?_
  refine wp_region_list (WL.out ?_)
  refine WL.new (by kernel_rfl) 34 rfl _ Tryz.new34 ?_
  have H2 := Keep.mk (Blk.new w 34 #[.int .i64 0, .int .i64 0])
  have b_b2 := Keep.mk (below_new w (.cells #[.int .i64 0, .int .i64 0] 34))
  generalize w.alloc (.cells #[.int .i64 0, .int .i64 0] 34) = w1 at *
  obtain ⟨b2, hb2⟩ : ∃ z, Keep (z = w.heap.size) := ⟨_, ⟨rfl⟩⟩
  rw [← hb2.out] at H2 ⊢
  simp only [Act.put, List.setIfInBounds_toArray, List.set_cons_zero, List.set_cons_succ]
  refine WL.val (by kernel_rfl) (.bool false) (by go_simp) ?_
  simp only [Act.put, List.setIfInBounds_toArray, List.set_cons_zero, List.set_cons_succ]
  refine WL.nil ?_
  refine hK1 _ _ ?_
  refine wp_seq_k fun K2 hK2 => ?_
  refine wp_seq_k fun K3 hK3 => ?_
  refine wp_region_list (WL.out ?_)
  refine WL.val (by kernel_rfl) (.iface 64 (ptr q)) (by go_simp) ?_
  simp only [Act.put, List.setIfInBounds_toArray, List.set_cons_zero, List.set_cons_succ]
  refine WL.val (by kernel_rfl) (.bool false) (by go_simp) ?_
  simp only [Act.put, List.setIfInBounds_toArray, List.set_cons_zero, List.set_cons_succ]
  refine WL.nil ?_
  refine hK3 _ _ ?_
  refine wp_cond_false rfl ?_
  refine wp_skip ?_
  refine hK2 _ _ ?_
  refine wp_seq_k fun K4 hK4 => ?_
  refine wp_region_list (WL.out ?_)
  refine WL.new (by kernel_rfl) 64 rfl _ Tryz.new64 ?_
  have H4 := Keep.mk (Blk.new w1 64 #[.pointer none])
  have b_b4 := Keep.mk (below_new w1 (.cells #[.pointer none] 64))
  generalize w1.alloc (.cells #[.pointer none] 64) = w2 at *
  obtain ⟨b4, hb4⟩ : ∃ z, Keep (z = w1.heap.size) := ⟨_, ⟨rfl⟩⟩
  rw [← hb4.out] at H4 ⊢
  have H22 := Keep.mk (H2.out.below b_b4.out H2.out.lt)
  have B2 : Keep (Below w.heap.size w w2) := ⟨b_b2.out.trans (b_b4.out.mono b_b2.out.size)⟩
  have HE2 : Keep (ErrT w2) := ⟨HE.out.below B2.out HE.out.lt⟩
  have HB2 : Keep (Blk w2 q 68 #[.int .i64 20, .int .i64 0]) := ⟨HB.out.below B2.out HB.out.lt⟩
  have LT : Keep (w.heap.size ≤ b2 ∧ b2 < b4 ∧ q < w.heap.size) := ⟨by have h1 := hb2.out; have h2 := hb4.out; have h3 := H2.out.lt; have h4 := HB.out.lt; exact ⟨by omega, by omega, h4⟩⟩
  clear H2 b_b2 b_b4
  simp only [Act.put, List.setIfInBounds_toArray, List.set_cons_zero, List.set_cons_succ]
  refine WL.nil ?_
  refine hK4 _ _ ?_
  refine wp_seq_k fun K5 hK5 => ?_
  refine wp_region_list (WL.out ?_)
  refine WL.val (by kernel_rfl) (.iface 64 (ptr q)) (by go_simp) ?_
  simp only [Act.put, List.setIfInBounds_toArray, List.set_cons_zero, List.set_cons_succ]
  refine WL.val (by kernel_rfl) (.iface 66 (.pointer (some ⟨b4, 0, none⟩))) (by go_simp) ?_
  simp only [Act.put, List.setIfInBounds_toArray, List.set_cons_zero, List.set_cons_succ]
  refine WL.callF (by kernel_rfl) 16 _ _ rfl Tryz.in16 #[.iface 64 (ptr q), .iface 66 (.pointer (some ⟨b4, 0, none⟩))] (by simp [Act.eval]) ?_
  refine (as_hit2 q b4 w2 HE2.out H4.out).mono ?_
  rintro e w3 ⟨rfl, k1, k2⟩
  refine ⟨_, rfl, ?_⟩
  have H43 := Keep.mk k1
  have H23 := Keep.mk (k2.blk H22.out (by have := LT.out; omega))
  have HB3 := Keep.mk (k2.blk HB2.out (by have := LT.out; omega))
  have B3 : Keep (Below w.heap.size w w3) := ⟨B2.out.trans (k2.to_below (fun k hk e => by have := LT.out; omega) B2.out.size)⟩
  have c4 := H43.out.c 0 (rfl : _ = some (ptr q))
  have cq0 := HB3.out.c 0 (rfl : _ = some (Value.int .i64 20))
  have cq1 := HB3.out.c 1 (rfl : _ = some (Value.int .i64 0))
  clear k1 k2
  simp only [Act.put, List.setIfInBounds_toArray, List.set_cons_zero, List.set_cons_succ]
  refine WL.val (by kernel_rfl) (.bool true) (by go_simp) ?_
  simp only [Act.put, List.setIfInBounds_toArray, List.set_cons_zero, List.set_cons_succ]
  refine WL.nil ?_
  refine hK5 _ _ ?_
  refine wp_seq_k fun K6 hK6 => ?_
  refine wp_seq_k fun K7 hK7 => ?_
  refine wp_region_list (WL.out ?_)
  refine WL.val (by kernel_rfl) (.bool true) (by go_simp) ?_
  simp only [Act.put, List.setIfInBounds_toArray, List.set_cons_zero, List.set_cons_succ]
  refine WL.val (by kernel_rfl) (.bool false) (by go_simp) ?_
  simp only [Act.put, List.setIfInBounds_toArray, List.set_cons_zero, List.set_cons_succ]
  refine WL.val (by kernel_rfl) (.bool false) (by go_simp) ?_
  simp only [Act.put, List.setIfInBounds_toArray, List.set_cons_zero, List.set_cons_succ]
  refine WL.val (by kernel_rfl) (.pointer (some ⟨q, 0, none⟩)) (by go_simp) ?_
  simp only [Act.put, List.setIfInBounds_toArray, List.set_cons_zero, List.set_cons_succ]
  refine WL.val (by kernel_rfl) (.bool false) (by go_simp) ?_
  simp only [Act.put, List.setIfInBounds_toArray, List.set_cons_zero, List.set_cons_succ]
  refine WL.val (by kernel_rfl) (.bool false) (by go_simp) ?_
  simp only [Act.put, List.setIfInBounds_toArray, List.set_cons_zero, List.set_cons_succ]
  refine WL.val (by kernel_rfl) (.bool false) (by go_simp) ?_
  simp only [Act.put, List.setIfInBounds_toArray, List.set_cons_zero, List.set_cons_succ]
  refine WL.val (by kernel_rfl) (.pointer (some ⟨q, 0, none⟩)) (by go_simp) ?_
  simp only [Act.put, List.setIfInBounds_toArray, List.set_cons_zero, List.set_cons_succ]
  refine WL.val (by kernel_rfl) (.pointer (some ⟨q, 0, none⟩)) (by go_simp) ?_
  simp only [Act.put, List.setIfInBounds_toArray, List.set_cons_zero, List.set_cons_succ]
  refine WL.val (by kernel_rfl) (.pointer (some ⟨q, 0, none⟩)) (by go_simp) ?_
  simp only [Act.put, List.setIfInBounds_toArray, List.set_cons_zero, List.set_cons_succ]
  refine WL.val (by kernel_rfl) (.int .i64 20) (by go_simp) ?_
  simp only [Act.put, List.setIfInBounds_toArray, List.set_cons_zero, List.set_cons_succ]
  refine WL.val (by kernel_rfl) (.bool false) (by go_simp) ?_
  simp only [Act.put, List.setIfInBounds_toArray, List.set_cons_zero, List.set_cons_succ]
  refine WL.val (by kernel_rfl) (.bool false) (by go_simp) ?_
  simp only [Act.put, List.setIfInBounds_toArray, List.set_cons_zero, List.set_cons_succ]
  refine WL.nil ?_
  refine hK7 _ _ ?_
  refine wp_cond_false rfl ?_
  refine wp_skip ?_
  refine hK6 _ _ ?_
  refine wp_seq_k fun K8 hK8 => ?_
  clear c4 cq0 cq1
  refine wp_region_held_drew (S := fun wx => wx.cell? ⟨b4, 0, none⟩ = some (.pointer (some ⟨q, 0, none⟩)) ∧ wx.cell? ⟨q, 0, none⟩ = some (.int .i64 20) ∧ wx.cell? ⟨q, 1, none⟩ = some (.int .i64 0)) (by kernel_rfl) (⟨H43.out.drew.c 0 rfl, HB3.out.drew.c 0 rfl, HB3.out.drew.c 1 rfl⟩) (fun hHeld => ?_)
  have H24 := Keep.mk H23.out.drew
  have H44 := Keep.mk H43.out.drew
  have HB4 := Keep.mk HB3.out.drew
  have B4 : Keep (Below w.heap.size w w3.drew) := ⟨B3.out.drew⟩
  clear H23 H43 HB3 B3
  generalize w3.drew = w4 at *
  refine wpAnyH_take (i := 0) (oi := ⟨some 26, Op.load 64 (Operand.tmp 4), 64, _, _, none⟩) (v := .pointer (some ⟨q, 0, none⟩)) rfl (by kernel_rfl) (by kernel_rfl) (by kernel_rfl) (fun _ _ _ h => h) (Or.inl ⟨by rfl, fun w hS => by have c4 := hS.1; have cq0 := hS.2.1; have cq1 := hS.2.2; go_simp⟩) hHeld ?_
  simp only [Act.put, List.setIfInBounds_toArray, List.set_cons_zero, List.set_cons_succ]
  refine wpAnyH_take (i := 1) (oi := ⟨some 27, Op.nilCheck (Operand.tmp 26), 0, _, _, none⟩) (v := .pointer (some ⟨q, 0, none⟩)) rfl (by kernel_rfl) (by kernel_rfl) (by kernel_rfl) (fun _ _ _ h => h) (Or.inl ⟨by rfl, fun w hS => by have c4 := hS.1; have cq0 := hS.2.1; have cq1 := hS.2.2; go_simp⟩) hHeld ?_
  simp only [Act.put, List.setIfInBounds_toArray, List.set_cons_zero, List.set_cons_succ]
  refine wpAnyH_take (i := 2) (oi := ⟨some 28, Op.fieldAddr 68 (Operand.tmp 27) 0, 0, _, _, none⟩) (v := .pointer (some ⟨q, 0, none⟩)) rfl (by kernel_rfl) (by kernel_rfl) (by kernel_rfl) (fun _ _ _ h => h) (Or.inl ⟨by rfl, fun w hS => by have c4 := hS.1; have cq0 := hS.2.1; have cq1 := hS.2.2; go_simp⟩) hHeld ?_
  simp only [Act.put, List.setIfInBounds_toArray, List.set_cons_zero, List.set_cons_succ]
  refine wpAnyH_take (i := 3) (oi := ⟨some 29, Op.load 43 (Operand.tmp 28), 43, _, _, none⟩) (v := .int .i64 20) rfl (by kernel_rfl) (by kernel_rfl) (by kernel_rfl) (fun _ _ _ h => h) (Or.inl ⟨by rfl, fun w hS => by have c4 := hS.1; have cq0 := hS.2.1; have cq1 := hS.2.2; go_simp⟩) hHeld ?_
  simp only [Act.put, List.setIfInBounds_toArray, List.set_cons_zero, List.set_cons_succ]
  refine wpAnyH_take (i := 4) (oi := ⟨some 30, Op.load 64 (Operand.tmp 4), 64, _, _, none⟩) (v := .pointer (some ⟨q, 0, none⟩)) rfl (by kernel_rfl) (by kernel_rfl) (by kernel_rfl) (fun _ _ _ h => h) (Or.inl ⟨by rfl, fun w hS => by have c4 := hS.1; have cq0 := hS.2.1; have cq1 := hS.2.2; go_simp⟩) hHeld ?_
  simp only [Act.put, List.setIfInBounds_toArray, List.set_cons_zero, List.set_cons_succ]
  refine wpAnyH_take (i := 5) (oi := ⟨some 31, Op.nilCheck (Operand.tmp 30), 0, _, _, none⟩) (v := .pointer (some ⟨q, 0, none⟩)) rfl (by kernel_rfl) (by kernel_rfl) (by kernel_rfl) (fun _ _ _ h => h) (Or.inl ⟨by rfl, fun w hS => by have c4 := hS.1; have cq0 := hS.2.1; have cq1 := hS.2.2; go_simp⟩) hHeld ?_
  simp only [Act.put, List.setIfInBounds_toArray, List.set_cons_zero, List.set_cons_succ]
  refine wpAnyH_take (i := 6) (oi := ⟨some 32, Op.fieldAddr 68 (Operand.tmp 31) 1, 0, _, _, none⟩) (v := .pointer (some ⟨q, 1, none⟩)) rfl (by kernel_rfl) (by kernel_rfl) (by kernel_rfl) (fun _ _ _ h => h) (Or.inl ⟨by rfl, fun w hS => by have c4 := hS.1; have cq0 := hS.2.1; have cq1 := hS.2.2; go_simp⟩) hHeld ?_
  simp only [Act.put, List.setIfInBounds_toArray, List.set_cons_zero, List.set_cons_succ]
  refine wpAnyH_take (i := 7) (oi := ⟨some 33, Op.load 3 (Operand.tmp 32), 3, _, _, none⟩) (v := .int .i64 0) rfl (by kernel_rfl) (by kernel_rfl) (by kernel_rfl) (fun _ _ _ h => h) (Or.inl ⟨by rfl, fun w hS => by have c4 := hS.1; have cq0 := hS.2.1; have cq1 := hS.2.2; go_simp⟩) hHeld ?_
  simp only [Act.put, List.setIfInBounds_toArray, List.set_cons_zero, List.set_cons_succ]
  refine wpAnyH_take (i := 8) (oi := ⟨some 34, Op.build 34 #[(0, Operand.tmp 29), (1, Operand.tmp 33)], 34, _, _, none⟩) (v := .agg #[.int .i64 20, .int .i64 0]) rfl (by kernel_rfl) (by kernel_rfl) (by kernel_rfl) (fun _ _ _ h => h) (yieldsIf_bld34 (by rfl) _ fun w => by kernel_rfl) hHeld ?_
  simp only [Act.put, List.setIfInBounds_toArray, List.set_cons_zero, List.set_cons_succ]
  refine wpAnyH_ready (rs := [9]) (by kernel_rfl) (by simp) ?_
  refine AllReadyH.cons (o := ⟨none, Op.store 34 (Operand.tmp 2) (Operand.tmp 34), 0, _, _, none⟩) rfl (fun K hK => ?_) AllReadyH.nil
  rw [if_pos (by rfl)]
  refine wp_store_row 34 (.tmp 2) (.tmp 34) rfl b2 #[.int .i64 20, .int .i64 0] rfl rfl 34 #[.int .i64 0, .int .i64 0] H24.out (by kernel_rfl) rfl (by simp [Value.oneCell']) ?_
  have H25 := Keep.mk (H24.out.setRow #[.int .i64 20, .int .i64 0])
  have g5 : Keep (Grown w4 (w4.setRow b2 #[.int .i64 20, .int .i64 0]) fun k => k = b2) := ⟨Grown.setRow w4 b2 _ fun _ => rfl⟩
  have H45 := Keep.mk (g5.out.blk H44.out (by have := LT.out; omega))
  have HB5 := Keep.mk (g5.out.blk HB4.out (by have := LT.out; omega))
  generalize w4.setRow b2 #[.int .i64 20, .int .i64 0] = w5 at *
  refine hK _ _ ⟨H45.out.c 0 rfl, HB5.out.c 0 rfl, HB5.out.c 1 rfl⟩ fun hHa => ?_
  clear hK
  simp only [Act.put, List.setIfInBounds_toArray, List.set_cons_zero, List.set_cons_succ]
  refine wpAnyH_take (i := 10) (oi := ⟨some 3, Op.assign (Operand.const (Value.bool true)), 4, _, _, none⟩) (v := .bool true) rfl (by kernel_rfl) (by kernel_rfl) (by kernel_rfl) (fun _ _ _ h => h) (Or.inl ⟨by rfl, fun w hS => by have c4 := hS.1; have cq0 := hS.2.1; have cq1 := hS.2.2; go_simp⟩) hHa ?_
  simp only [Act.put, List.setIfInBounds_toArray, List.set_cons_zero, List.set_cons_succ]
  refine wpAnyH_done (by kernel_rfl) ?_ _
  refine hK8 _ _ ?_
  refine wp_ret ?_
  try simp only [Exit.inBlock, Exit.then]
  exact bodyPost_ret (Nd.results_cell_row2 Tryz.results7 _ _ b2 34 _ (0, 0) _ _ rfl rfl H25.out Tryz.underlying34 rfl (by kernel_rfl)) rfl ⟨rfl, B4.out.trans (g5.out.to_below (fun k hk e => by have := LT.out; omega) B4.out.size)⟩
set_option maxRecDepth 8000 in
theorem len_any_ (s d mb : Nat) (g : DG) (Av : Nat → Prop) (w : World) (HS : Keep (ShAt w s d mb g Av)) : Calls Tryz.prog 8 #[.pointer (some ⟨s, 0, none⟩)] w fun e w' => e = .returned (.int .i64 (g.held.length : Int)) ∧ w' = w := by
  go_enter Tryz.func8, Tryz.ntmps8
  refine wp_seq_k fun K1 hK1 => ?_
  refine wp_region_list (WL.out ?_)
  refine WL.val (by kernel_rfl) (.int .i64 0) (by go_simp) ?_
  simp only [Act.put, List.setIfInBounds_toArray, List.set_cons_zero, List.set_cons_succ]
  refine WL.nil ?_
  refine hK1 _ _ ?_
  refine wp_seq_k fun K2 hK2 => ?_
  refine wp_region_list (WL.out ?_)
  refine WL.val (by kernel_rfl) (.pointer (some ⟨s, 0, none⟩)) (by go_simp) ?_
  simp only [Act.put, List.setIfInBounds_toArray, List.set_cons_zero, List.set_cons_succ]
  refine WL.val (by kernel_rfl) (.pointer (some ⟨s, 0, none⟩)) (by go_simp) ?_
  simp only [Act.put, List.setIfInBounds_toArray, List.set_cons_zero, List.set_cons_succ]
  refine WL.val (by kernel_rfl) (.pointer (some ⟨s, 1, none⟩)) (by go_simp) ?_
  simp only [Act.put, List.setIfInBounds_toArray, List.set_cons_zero, List.set_cons_succ]
  have cs := HS.out.bl.c 1 rfl
  refine WL.val (by kernel_rfl) (.pointer (some ⟨d, 0, none⟩)) (by go_simp) ?_
  clear cs
  simp only [Act.put, List.setIfInBounds_toArray, List.set_cons_zero, List.set_cons_succ]
  refine WL.callF (by kernel_rfl) 17 _ _ rfl Tryz.in17 #[.pointer (some ⟨d, 0, none⟩)] (by simp [Act.eval]) ?_
  refine (dlen_any d Av g w HS.out.dg).mono ?_
  rintro e w1 ⟨rfl, hw_⟩
  refine ⟨_, rfl, ?_⟩
  have hw_ := hw_.symm
  subst hw_
  simp only [Act.put, List.setIfInBounds_toArray, List.set_cons_zero, List.set_cons_succ]
  refine WL.val (by kernel_rfl) (.int .i64 (g.held.length : Int)) (by go_simp) ?_
  simp only [Act.put, List.setIfInBounds_toArray, List.set_cons_zero, List.set_cons_succ]
  refine WL.nil ?_
  refine hK2 _ _ ?_
  refine wp_ret ?_
  go_ret
  exact ⟨rfl, rfl⟩
theorem len_1 (s d mb : Nat) (g : DG) (Av : Nat → Prop) (w : World) (HS : Keep (ShAt w s d mb g Av)) (h : g.held = [⟨x0, 1, []⟩]) : Calls Tryz.prog 8 #[.pointer (some ⟨s, 0, none⟩)] w fun e w' => e = .returned (.int .i64 1) ∧ w' = w := by
  have h2 := len_any_ s d mb g Av w HS
  rw [h] at h2
  exact h2
set_option maxRecDepth 8000 in
set_option maxHeartbeats 2000000 in
theorem fixed_any (w : World) (HE : Keep (ErrT w)) : Calls Tryz.prog 4 #[] w fun e w' => e = .returned (.bool true) ∧ Below w.heap.size w w' := by
  go_enter Tryz.func4, Tryz.ntmps4
  refine wp_seq_k fun K1 hK1 => ?_
  refine wp_region_list (WL.out ?_)
  refine WL.val (by kernel_rfl) (.bool false) (by go_simp) ?_
  simp only [Act.put, List.setIfInBounds_toArray, List.set_cons_zero, List.set_cons_succ]
  refine WL.nil ?_
  refine hK1 _ _ ?_
  refine wp_seq_k fun K2 hK2 => ?_
  refine wp_region_list (WL.out ?_)
  refine WL.callF (by kernel_rfl) 5 _ _ rfl Tryz.in5 #[.nilIface] (by simp [Act.eval]) ?_
  refine (new_shelf w).mono ?_
  rintro e w1 ⟨s, d, mb, g, Av, rfl, k1, k2, k3, k4, k5, k6, k7, k8, k9⟩
  refine ⟨_, rfl, ?_⟩
  have HS1 := Keep.mk k1
  have HM1 := Keep.mk k2
  have Hg := Keep.mk (And.intro k3 (And.intro k4 (And.intro k5 (And.intro k6 k7))))
  have HF := Keep.mk k8
  have B1 := Keep.mk k9
  clear k1 k2 k3 k4 k5 k6 k7 k8 k9
  simp only [Act.put, List.setIfInBounds_toArray, List.set_cons_zero, List.set_cons_succ]
  refine WL.val (by kernel_rfl) (.pointer (some ⟨s, 0, none⟩)) (by go_simp) ?_
  simp only [Act.put, List.setIfInBounds_toArray, List.set_cons_zero, List.set_cons_succ]
  refine WL.nil ?_
  refine hK2 _ _ ?_
  refine wp_seq_k fun K3 hK3 => ?_
  refine wp_seq_k fun K4 hK4 => ?_
  refine wp_region_list (WL.out ?_)
  refine WL.val (by kernel_rfl) (.pointer (some ⟨s, 0, none⟩)) (by go_simp) ?_
  simp only [Act.put, List.setIfInBounds_toArray, List.set_cons_zero, List.set_cons_succ]
  refine WL.val (by kernel_rfl) (.bool false) (by go_simp) ?_
  simp only [Act.put, List.setIfInBounds_toArray, List.set_cons_zero, List.set_cons_succ]
  refine WL.nil ?_
  refine hK4 _ _ ?_
  refine wp_cond_false rfl ?_
  refine wp_skip ?_
  refine hK3 _ _ ?_
  refine wp_seq_k fun K5 hK5 => ?_
  refine wp_region_list (WL.out ?_)
  refine WL.val (by kernel_rfl) (.pointer (some ⟨s, 0, none⟩)) (by go_simp) ?_
  simp only [Act.put, List.setIfInBounds_toArray, List.set_cons_zero, List.set_cons_succ]
  refine WL.bs (by kernel_rfl) 32 5 _ rfl #[(0, .int .u8 1), (1, .int .u8 1), (2, .int .u8 1), (3, .int .u8 0), (4, .int .u8 0)] (by simp [Act.eval]) _ _ (bsB5 w1) ?_
  have HR2 : Keep (RowAt (w1.alloc (.cells #[.int .u8 1, .int .u8 1, .int .u8 1, .int .u8 0, .int .u8 0] 5)) (.slice (some ⟨w1.heap.size, 0, none⟩) 5 5) [1, 1, 1, 0, 0]) := ⟨row_l0 w1⟩
  have b_ := below_new w1 (.cells #[.int .u8 1, .int .u8 1, .int .u8 1, .int .u8 0, .int .u8 0] 5)
  have HS2 := Keep.mk (HS1.out.below b_)
  have HM2 : Keep ((w1.alloc (.cells #[.int .u8 1, .int .u8 1, .int .u8 1, .int .u8 0, .int .u8 0] 5)).heap[mb]? = some (.map #[] 0)) := ⟨by rw [b_.block mb (Array.getElem?_eq_some_iff.1 HM1.out).1]; exact HM1.out⟩
  have B2 := Keep.mk (B1.out.trans (b_.mono B1.out.size))
  clear HS1 HM1 B1
  clear b_
  generalize w1.alloc (.cells #[.int .u8 1, .int .u8 1, .int .u8 1, .int .u8 0, .int .u8 0] 5) = w2 at *
  generalize w1.heap.size = ga at *
  simp only [Act.put, List.setIfInBounds_toArray, List.set_cons_zero, List.set_cons_succ]
  refine WL.callF (by kernel_rfl) 6 _ _ rfl Tryz.in6 #[.pointer (some ⟨s, 0, none⟩), .slice (some ⟨ga, 0, none⟩) 5 5] (by simp [Act.eval]) ?_
  refine (take_took s d mb g Av w2 HS2 ⟨ga, 0, none⟩ 5 HR2 HM2 Hg).mono ?_
  rintro e w3 ⟨gx, rfl, g', Av', k1, k2, k3, k4, k5⟩
  refine ⟨_, rfl, ?_⟩
  have HS3 := Keep.mk k1
  have HG3 := Keep.mk (And.intro k2 k3)
  have B3 : Keep (Below w.heap.size w w3) := ⟨B2.out.trans (k5.to_below (fun k hk e => by have := HF.out k (.inr e); omega) B2.out.size)⟩
  clear k1 k2 k3 k4 k5 HS2 HM2 Hg B2 HR2 HF
  simp only [Act.put, List.setIfInBounds_toArray, List.set_cons_zero, List.set_cons_succ]
  refine WL.val (by kernel_rfl) (.tuple #[.agg #[.int .i64 2, .slice (some ⟨gx, 0, none⟩) 1 1, .slice none 0 0], .nilIface]) (by go_simp) ?_
  simp only [Act.put, List.setIfInBounds_toArray, List.set_cons_zero, List.set_cons_succ]
  refine WL.val (by kernel_rfl) (.agg #[.int .i64 2, .slice (some ⟨gx, 0, none⟩) 1 1, .slice none 0 0]) (by go_simp) ?_
  simp only [Act.put, List.setIfInBounds_toArray, List.set_cons_zero, List.set_cons_succ]
  refine WL.val (by kernel_rfl) (.nilIface) (by go_simp) ?_
  simp only [Act.put, List.setIfInBounds_toArray, List.set_cons_zero, List.set_cons_succ]
  refine WL.new (by kernel_rfl) 27 rfl _ Tryz.new27 ?_
  have T5z := Keep.mk (Blk.new w3 27 #[.int .i64 0, .slice none 0 0, .slice none 0 0])
  have b_b2 := Keep.mk (below_new w3 (.cells #[.int .i64 0, .slice none 0 0, .slice none 0 0] 27))
  generalize w3.alloc (.cells #[.int .i64 0, .slice none 0 0, .slice none 0 0] 27) = w4 at *
  obtain ⟨b2, hb2⟩ : ∃ z, Keep (z = w3.heap.size) := ⟨_, ⟨rfl⟩⟩
  rw [← hb2.out] at T5z ⊢
  have HS4 := Keep.mk (HS3.out.below b_b2.out)
  simp only [Act.put, List.setIfInBounds_toArray, List.set_cons_zero, List.set_cons_succ]
  refine WL.storeR (by kernel_rfl) 27 (.tmp 2) (.tmp 17) rfl b2 #[.int .i64 2, .slice (some ⟨gx, 0, none⟩) 1 1, .slice none 0 0] rfl rfl 27 #[.int .i64 0, .slice none 0 0, .slice none 0 0] T5z.out (by kernel_rfl) rfl (by simp [Value.oneCell']) ?_
  have T5 := Keep.mk (T5z.out.setRow #[.int .i64 2, .slice (some ⟨gx, 0, none⟩) 1 1, .slice none 0 0])
  have g_w5 : Keep (Grown w4 (w4.setRow b2 #[.int .i64 2, .slice (some ⟨gx, 0, none⟩) 1 1, .slice none 0 0]) fun k => k = b2) := ⟨Grown.setRow w4 b2 _ fun _ => rfl⟩
  clear T5z
  generalize w4.setRow b2 #[.int .i64 2, .slice (some ⟨gx, 0, none⟩) 1 1, .slice none 0 0] = w5 at *
  have HS5 := Keep.mk (HS4.out.keep1 HG3.out.1 HG3.out.2 g_w5.out fun k e => by subst e; exact hb_new HS3.out hb2.out)
  have B5 : Keep (Below w.heap.size w w5) := ⟨B3.out.trans ((b_b2.out.mono B3.out.size).trans (g_w5.out.to_below (fun k hk e => by have h1 := hb2.out; have h2 := B3.out.size; omega) (Nat.le_trans B3.out.size b_b2.out.size)))⟩
  clear HS3 HS4 b_b2 g_w5 B3 hb2
  simp only [Act.put]
  refine WL.val (by kernel_rfl) (.nilIface) (by go_simp) ?_
  simp only [Act.put, List.setIfInBounds_toArray, List.set_cons_zero, List.set_cons_succ]
  refine WL.nil ?_
  refine hK5 _ _ ?_
  refine wp_seq_k fun K6 hK6 => ?_
  refine wp_region_list (WL.out ?_)
  refine WL.val (by kernel_rfl) (.pointer (some ⟨s, 0, none⟩)) (by go_simp) ?_
  simp only [Act.put, List.setIfInBounds_toArray, List.set_cons_zero, List.set_cons_succ]
  refine WL.callF (by kernel_rfl) 6 _ _ rfl Tryz.in6 #[.pointer (some ⟨s, 0, none⟩), .slice none 0 0] (by simp [Act.eval]) ?_
  refine (take_nil_ s d mb g' Av' w5 HS5).mono ?_
  rintro e w6 ⟨q, rfl, hq, hb⟩
  refine ⟨_, rfl, ?_⟩
  have HQ6 : Keep (Blk w6 q 68 #[.int .i64 20, .int .i64 0]) := ⟨hq⟩
  have HS6 := Keep.mk (HS5.out.below hb)
  have T6 := Keep.mk (T5.out.below hb T5.out.lt)
  have B6 : Keep (Below w.heap.size w w6) := ⟨B5.out.trans (hb.mono B5.out.size)⟩
  clear hq hb HS5 T5 B5
  simp only [Act.put, List.setIfInBounds_toArray, List.set_cons_zero, List.set_cons_succ]
  refine WL.val (by kernel_rfl) (.tuple #[.agg #[.int .i64 0, .slice none 0 0, .slice none 0 0], .iface 64 (ptr q)]) (by go_simp) ?_
  simp only [Act.put, List.setIfInBounds_toArray, List.set_cons_zero, List.set_cons_succ]
  refine WL.val (by kernel_rfl) (.agg #[.int .i64 0, .slice none 0 0, .slice none 0 0]) (by go_simp) ?_
  simp only [Act.put, List.setIfInBounds_toArray, List.set_cons_zero, List.set_cons_succ]
  refine WL.val (by kernel_rfl) (.iface 64 (ptr q)) (by go_simp) ?_
  simp only [Act.put, List.setIfInBounds_toArray, List.set_cons_zero, List.set_cons_succ]
  refine WL.new (by kernel_rfl) 27 rfl _ Tryz.new27 ?_
  have Z8z := Keep.mk (Blk.new w6 27 #[.int .i64 0, .slice none 0 0, .slice none 0 0])
  have b_b4 := Keep.mk (below_new w6 (.cells #[.int .i64 0, .slice none 0 0, .slice none 0 0] 27))
  generalize w6.alloc (.cells #[.int .i64 0, .slice none 0 0, .slice none 0 0] 27) = w7 at *
  obtain ⟨b4, hb4⟩ : ∃ z, Keep (z = w6.heap.size) := ⟨_, ⟨rfl⟩⟩
  rw [← hb4.out] at Z8z ⊢
  have HS7 := Keep.mk (HS6.out.below b_b4.out)
  simp only [Act.put, List.setIfInBounds_toArray, List.set_cons_zero, List.set_cons_succ]
  refine WL.storeR (by kernel_rfl) 27 (.tmp 4) (.tmp 22) rfl b4 #[.int .i64 0, .slice none 0 0, .slice none 0 0] rfl rfl 27 #[.int .i64 0, .slice none 0 0, .slice none 0 0] Z8z.out (by kernel_rfl) rfl (by simp [Value.oneCell']) ?_
  have Z8 := Keep.mk (Z8z.out.setRow #[.int .i64 0, .slice none 0 0, .slice none 0 0])
  have g_w8 : Keep (Grown w7 (w7.setRow b4 #[.int .i64 0, .slice none 0 0, .slice none 0 0]) fun k => k = b4) := ⟨Grown.setRow w7 b4 _ fun _ => rfl⟩
  clear Z8z
  generalize w7.setRow b4 #[.int .i64 0, .slice none 0 0, .slice none 0 0] = w8 at *
  have HS8 := Keep.mk (HS7.out.keep1 HG3.out.1 HG3.out.2 g_w8.out fun k e => by subst e; exact hb_new HS6.out hb4.out)
  have B8 : Keep (Below w6.heap.size w6 w8) := ⟨b_b4.out.trans (g_w8.out.to_below (fun k hk e => by have h1 := hb4.out; omega) b_b4.out.size)⟩
  have T8 := Keep.mk (T6.out.below B8.out T6.out.lt)
  have HQ8 := Keep.mk (HQ6.out.below B8.out HQ6.out.lt)
  have B8 : Keep (Below w.heap.size w w8) := ⟨B6.out.trans (B8.out.mono B6.out.size)⟩
  clear HS6 HS7 b_b4 g_w8 B6 hb4 T6 HQ6 Z8
  simp only [Act.put]
  refine WL.val (by kernel_rfl) (.iface 64 (ptr q)) (by go_simp) ?_
  simp only [Act.put, List.setIfInBounds_toArray, List.set_cons_zero, List.set_cons_succ]
  refine WL.nil ?_
  refine hK6 _ _ ?_
  refine wp_seq_k fun K7 hK7 => ?_
  refine wp_region_list (WL.out ?_)
  refine WL.val (by kernel_rfl) (.pointer (some ⟨s, 0, none⟩)) (by go_simp) ?_
  simp only [Act.put, List.setIfInBounds_toArray, List.set_cons_zero, List.set_cons_succ]
  refine WL.bs (by kernel_rfl) 32 5 _ rfl #[(0, .int .u8 1), (1, .int .u8 1), (2, .int .u8 1), (3, .int .u8 0), (4, .int .u8 0)] (by simp [Act.eval]) _ _ (bsB5 w8) ?_
  have HR9 : Keep (RowAt (w8.alloc (.cells #[.int .u8 1, .int .u8 1, .int .u8 1, .int .u8 0, .int .u8 0] 5)) (.slice (some ⟨w8.heap.size, 0, none⟩) 5 5) [1, 1, 1, 0, 0]) := ⟨row_l0 w8⟩
  have b_ := below_new w8 (.cells #[.int .u8 1, .int .u8 1, .int .u8 1, .int .u8 0, .int .u8 0] 5)
  have HS9 := Keep.mk (HS8.out.below b_)
  have T9 := Keep.mk (T8.out.below b_ T8.out.lt)
  have HQ9 := Keep.mk (HQ8.out.below b_ HQ8.out.lt)
  have B9 := Keep.mk (B8.out.trans (b_.mono B8.out.size))
  clear HS8 T8 HQ8 B8
  clear b_
  generalize w8.alloc (.cells #[.int .u8 1, .int .u8 1, .int .u8 1, .int .u8 0, .int .u8 0] 5) = w9 at *
  generalize w8.heap.size = gb at *
  simp only [Act.put, List.setIfInBounds_toArray, List.set_cons_zero, List.set_cons_succ]
  refine WL.callF (by kernel_rfl) 6 _ _ rfl Tryz.in6 #[.pointer (some ⟨s, 0, none⟩), .slice (some ⟨gb, 0, none⟩) 5 5] (by simp [Act.eval]) ?_
  refine (take_known s d mb g' Av' w9 HS9 ⟨gb, 0, none⟩ 5 HR9 ⟨by rw [HG3.out.1, HG3.out.2]; exact fit_again x0⟩ ⟨HG3.out.1⟩).mono ?_
  rintro e w10 ⟨rfl, hb⟩
  refine ⟨_, rfl, ?_⟩
  have HS10 := Keep.mk (HS9.out.below hb)
  have T10 := Keep.mk (T9.out.below hb T9.out.lt)
  have HQ10 := Keep.mk (HQ9.out.below hb HQ9.out.lt)
  have B10 : Keep (Below w.heap.size w w10) := ⟨B9.out.trans (hb.mono B9.out.size)⟩
  clear hb HS9 T9 HQ9 B9 HR9
  simp only [Act.put, List.setIfInBounds_toArray, List.set_cons_zero, List.set_cons_succ]
  refine WL.val (by kernel_rfl) (.tuple #[.agg #[.int .i64 1, .slice none 0 0, .slice none 0 0], .nilIface]) (by go_simp) ?_
  simp only [Act.put, List.setIfInBounds_toArray, List.set_cons_zero, List.set_cons_succ]
  refine WL.val (by kernel_rfl) (.agg #[.int .i64 1, .slice none 0 0, .slice none 0 0]) (by go_simp) ?_
  simp only [Act.put, List.setIfInBounds_toArray, List.set_cons_zero, List.set_cons_succ]
  refine WL.val (by kernel_rfl) (.nilIface) (by go_simp) ?_
  simp only [Act.put, List.setIfInBounds_toArray, List.set_cons_zero, List.set_cons_succ]
  refine WL.new (by kernel_rfl) 27 rfl _ Tryz.new27 ?_
  have U12z := Keep.mk (Blk.new w10 27 #[.int .i64 0, .slice none 0 0, .slice none 0 0])
  have b_b6 := Keep.mk (below_new w10 (.cells #[.int .i64 0, .slice none 0 0, .slice none 0 0] 27))
  generalize w10.alloc (.cells #[.int .i64 0, .slice none 0 0, .slice none 0 0] 27) = w11 at *
  obtain ⟨b6, hb6⟩ : ∃ z, Keep (z = w10.heap.size) := ⟨_, ⟨rfl⟩⟩
  rw [← hb6.out] at U12z ⊢
  have HS11 := Keep.mk (HS10.out.below b_b6.out)
  simp only [Act.put, List.setIfInBounds_toArray, List.set_cons_zero, List.set_cons_succ]
  refine WL.storeR (by kernel_rfl) 27 (.tmp 6) (.tmp 28) rfl b6 #[.int .i64 1, .slice none 0 0, .slice none 0 0] rfl rfl 27 #[.int .i64 0, .slice none 0 0, .slice none 0 0] U12z.out (by kernel_rfl) rfl (by simp [Value.oneCell']) ?_
  have U12 := Keep.mk (U12z.out.setRow #[.int .i64 1, .slice none 0 0, .slice none 0 0])
  have g_w12 : Keep (Grown w11 (w11.setRow b6 #[.int .i64 1, .slice none 0 0, .slice none 0 0]) fun k => k = b6) := ⟨Grown.setRow w11 b6 _ fun _ => rfl⟩
  clear U12z
  generalize w11.setRow b6 #[.int .i64 1, .slice none 0 0, .slice none 0 0] = w12 at *
  have HS12 := Keep.mk (HS11.out.keep1 HG3.out.1 HG3.out.2 g_w12.out fun k e => by subst e; exact hb_new HS10.out hb6.out)
  have B12 : Keep (Below w10.heap.size w10 w12) := ⟨b_b6.out.trans (g_w12.out.to_below (fun k hk e => by have h1 := hb6.out; omega) b_b6.out.size)⟩
  have T12 := Keep.mk (T10.out.below B12.out T10.out.lt)
  have HQ12 := Keep.mk (HQ10.out.below B12.out HQ10.out.lt)
  have B12 : Keep (Below w.heap.size w w12) := ⟨B10.out.trans (B12.out.mono B10.out.size)⟩
  clear HS10 HS11 b_b6 g_w12 B10 hb6 T10 HQ10
  simp only [Act.put]
  refine WL.val (by kernel_rfl) (.nilIface) (by go_simp) ?_
  simp only [Act.put, List.setIfInBounds_toArray, List.set_cons_zero, List.set_cons_succ]
  refine WL.nil ?_
  refine hK7 _ _ ?_
  refine wp_seq_k fun K8 hK8 => ?_
  refine wp_region_list (WL.out ?_)
  refine WL.val (by kernel_rfl) (.iface 64 (ptr q)) (by go_simp) ?_
  simp only [Act.put, List.setIfInBounds_toArray, List.set_cons_zero, List.set_cons_succ]
  refine WL.callF (by kernel_rfl) 7 _ _ rfl Tryz.in7 #[.iface 64 (ptr q)] (by simp [Act.eval]) ?_
  refine (told_20 q w12 HQ12 ⟨HE.out.below B12.out HE.out.lt⟩).mono ?_
  rintro e w13 ⟨rfl, hb⟩
  refine ⟨_, rfl, ?_⟩
  have HS13 := Keep.mk (HS12.out.below hb)
  have T13 := Keep.mk (T12.out.below hb T12.out.lt)
  have U13 := Keep.mk (U12.out.below hb U12.out.lt)
  have B13 : Keep (Below w.heap.size w w13) := ⟨B12.out.trans (hb.mono B12.out.size)⟩
  clear hb HS12 T12 U12 B12 HQ12
  simp only [Act.put, List.setIfInBounds_toArray, List.set_cons_zero, List.set_cons_succ]
  refine WL.val (by kernel_rfl) (.tuple #[.agg #[.int .i64 20, .int .i64 0], .bool true]) (by go_simp) ?_
  simp only [Act.put, List.setIfInBounds_toArray, List.set_cons_zero, List.set_cons_succ]
  refine WL.val (by kernel_rfl) (.agg #[.int .i64 20, .int .i64 0]) (by go_simp) ?_
  simp only [Act.put, List.setIfInBounds_toArray, List.set_cons_zero, List.set_cons_succ]
  refine WL.val (by kernel_rfl) (.bool true) (by go_simp) ?_
  simp only [Act.put, List.setIfInBounds_toArray, List.set_cons_zero, List.set_cons_succ]
  refine WL.new (by kernel_rfl) 34 rfl _ Tryz.new34 ?_
  have E14z := Keep.mk (Blk.new w13 34 #[.int .i64 0, .int .i64 0])
  have b_b8 := Keep.mk (below_new w13 (.cells #[.int .i64 0, .int .i64 0] 34))
  generalize w13.alloc (.cells #[.int .i64 0, .int .i64 0] 34) = w14 at *
  obtain ⟨b8, hb8⟩ : ∃ z, Keep (z = w13.heap.size) := ⟨_, ⟨rfl⟩⟩
  rw [← hb8.out] at E14z ⊢
  have HS14 := Keep.mk (HS13.out.below b_b8.out)
  simp only [Act.put, List.setIfInBounds_toArray, List.set_cons_zero, List.set_cons_succ]
  refine WL.storeR (by kernel_rfl) 34 (.tmp 8) (.tmp 33) rfl b8 #[.int .i64 20, .int .i64 0] rfl rfl 34 #[.int .i64 0, .int .i64 0] E14z.out (by kernel_rfl) rfl (by simp [Value.oneCell']) ?_
  have E15 := Keep.mk (E14z.out.setRow #[.int .i64 20, .int .i64 0])
  have g_w15 : Keep (Grown w14 (w14.setRow b8 #[.int .i64 20, .int .i64 0]) fun k => k = b8) := ⟨Grown.setRow w14 b8 _ fun _ => rfl⟩
  clear E14z
  generalize w14.setRow b8 #[.int .i64 20, .int .i64 0] = w15 at *
  have HS15 := Keep.mk (HS14.out.keep1 HG3.out.1 HG3.out.2 g_w15.out fun k e => by subst e; exact hb_new HS13.out hb8.out)
  have B15a : Keep (Below w13.heap.size w13 w15) := ⟨b_b8.out.trans (g_w15.out.to_below (fun k hk e => by have h1 := hb8.out; omega) b_b8.out.size)⟩
  have T15 := Keep.mk (T13.out.below B15a.out T13.out.lt)
  have U15 := Keep.mk (U13.out.below B15a.out U13.out.lt)
  have B15 : Keep (Below w.heap.size w w15) := ⟨B13.out.trans (B15a.out.mono B13.out.size)⟩
  have ct0 := T15.out.c 0 (rfl : _ = some (Value.int .i64 2))
  have ct1 := T15.out.c 1 (rfl : _ = some (Value.slice (some ⟨gx, 0, none⟩) 1 1))
  have cu0 := U15.out.c 0 (rfl : _ = some (Value.int .i64 1))
  have ce0 := E15.out.c 0 (rfl : _ = some (Value.int .i64 20))
  simp only [Act.put]
  refine WL.val (by kernel_rfl) (.bool true) (by go_simp) ?_
  simp only [Act.put, List.setIfInBounds_toArray, List.set_cons_zero, List.set_cons_succ]
  refine WL.nil ?_
  refine hK8 _ _ ?_
  refine wp_seq_k fun K9 hK9 => ?_
  refine wp_region_list (WL.out ?_)
  refine WL.val (by kernel_rfl) (.nilIface) (by go_simp) ?_
  simp only [Act.put, List.setIfInBounds_toArray, List.set_cons_zero, List.set_cons_succ]
  refine WL.val (by kernel_rfl) (.bool true) (by go_simp) ?_
  simp only [Act.put, List.setIfInBounds_toArray, List.set_cons_zero, List.set_cons_succ]
  refine WL.val (by kernel_rfl) (.bool true) (by go_simp) ?_
  simp only [Act.put, List.setIfInBounds_toArray, List.set_cons_zero, List.set_cons_succ]
  refine WL.val (by kernel_rfl) (.pointer (some ⟨b2, 0, none⟩)) (by go_simp) ?_
  simp only [Act.put, List.setIfInBounds_toArray, List.set_cons_zero, List.set_cons_succ]
  refine WL.val (by kernel_rfl) (.int .i64 2) (by go_simp) ?_
  simp only [Act.put, List.setIfInBounds_toArray, List.set_cons_zero, List.set_cons_succ]
  refine WL.val (by kernel_rfl) (.bool true) (by go_simp) ?_
  simp only [Act.put, List.setIfInBounds_toArray, List.set_cons_zero, List.set_cons_succ]
  refine WL.val (by kernel_rfl) (.bool true) (by go_simp) ?_
  simp only [Act.put, List.setIfInBounds_toArray, List.set_cons_zero, List.set_cons_succ]
  refine WL.val (by kernel_rfl) (.bool true) (by go_simp) ?_
  simp only [Act.put, List.setIfInBounds_toArray, List.set_cons_zero, List.set_cons_succ]
  refine WL.val (by kernel_rfl) (.pointer (some ⟨b2, 1, none⟩)) (by go_simp) ?_
  simp only [Act.put, List.setIfInBounds_toArray, List.set_cons_zero, List.set_cons_succ]
  refine WL.val (by kernel_rfl) (.slice (some ⟨gx, 0, none⟩) 1 1) (by go_simp) ?_
  simp only [Act.put, List.setIfInBounds_toArray, List.set_cons_zero, List.set_cons_succ]
  refine WL.val (by kernel_rfl) (.int .i64 1) (by go_simp) ?_
  simp only [Act.put, List.setIfInBounds_toArray, List.set_cons_zero, List.set_cons_succ]
  refine WL.val (by kernel_rfl) (.bool true) (by go_simp) ?_
  simp only [Act.put, List.setIfInBounds_toArray, List.set_cons_zero, List.set_cons_succ]
  refine WL.val (by kernel_rfl) (.bool true) (by go_simp) ?_
  simp only [Act.put, List.setIfInBounds_toArray, List.set_cons_zero, List.set_cons_succ]
  refine WL.val (by kernel_rfl) (.bool true) (by go_simp) ?_
  simp only [Act.put, List.setIfInBounds_toArray, List.set_cons_zero, List.set_cons_succ]
  refine WL.val (by kernel_rfl) (.bool true) (by go_simp) ?_
  simp only [Act.put, List.setIfInBounds_toArray, List.set_cons_zero, List.set_cons_succ]
  refine WL.val (by kernel_rfl) (.bool true) (by go_simp) ?_
  simp only [Act.put, List.setIfInBounds_toArray, List.set_cons_zero, List.set_cons_succ]
  refine WL.val (by kernel_rfl) (.bool true) (by go_simp) ?_
  simp only [Act.put, List.setIfInBounds_toArray, List.set_cons_zero, List.set_cons_succ]
  refine WL.val (by kernel_rfl) (.pointer (some ⟨b8, 0, none⟩)) (by go_simp) ?_
  simp only [Act.put, List.setIfInBounds_toArray, List.set_cons_zero, List.set_cons_succ]
  refine WL.val (by kernel_rfl) (.int .i64 20) (by go_simp) ?_
  simp only [Act.put, List.setIfInBounds_toArray, List.set_cons_zero, List.set_cons_succ]
  refine WL.val (by kernel_rfl) (.bool true) (by go_simp) ?_
  simp only [Act.put, List.setIfInBounds_toArray, List.set_cons_zero, List.set_cons_succ]
  refine WL.val (by kernel_rfl) (.bool true) (by go_simp) ?_
  simp only [Act.put, List.setIfInBounds_toArray, List.set_cons_zero, List.set_cons_succ]
  refine WL.val (by kernel_rfl) (.bool true) (by go_simp) ?_
  simp only [Act.put, List.setIfInBounds_toArray, List.set_cons_zero, List.set_cons_succ]
  refine WL.val (by kernel_rfl) (.nilIface) (by go_simp) ?_
  simp only [Act.put, List.setIfInBounds_toArray, List.set_cons_zero, List.set_cons_succ]
  refine WL.val (by kernel_rfl) (.bool true) (by go_simp) ?_
  simp only [Act.put, List.setIfInBounds_toArray, List.set_cons_zero, List.set_cons_succ]
  refine WL.val (by kernel_rfl) (.bool true) (by go_simp) ?_
  simp only [Act.put, List.setIfInBounds_toArray, List.set_cons_zero, List.set_cons_succ]
  refine WL.val (by kernel_rfl) (.bool true) (by go_simp) ?_
  simp only [Act.put, List.setIfInBounds_toArray, List.set_cons_zero, List.set_cons_succ]
  refine WL.val (by kernel_rfl) (.pointer (some ⟨b6, 0, none⟩)) (by go_simp) ?_
  simp only [Act.put, List.setIfInBounds_toArray, List.set_cons_zero, List.set_cons_succ]
  refine WL.val (by kernel_rfl) (.int .i64 1) (by go_simp) ?_
  simp only [Act.put, List.setIfInBounds_toArray, List.set_cons_zero, List.set_cons_succ]
  refine WL.val (by kernel_rfl) (.bool true) (by go_simp) ?_
  simp only [Act.put, List.setIfInBounds_toArray, List.set_cons_zero, List.set_cons_succ]
  refine WL.val (by kernel_rfl) (.bool true) (by go_simp) ?_
  simp only [Act.put, List.setIfInBounds_toArray, List.set_cons_zero, List.set_cons_succ]
  refine WL.val (by kernel_rfl) (.bool true) (by go_simp) ?_
  simp only [Act.put, List.setIfInBounds_toArray, List.set_cons_zero, List.set_cons_succ]
  refine WL.val (by kernel_rfl) (.pointer (some ⟨s, 0, none⟩)) (by go_simp) ?_
  simp only [Act.put, List.setIfInBounds_toArray, List.set_cons_zero, List.set_cons_succ]
  refine WL.callF (by kernel_rfl) 8 _ _ rfl Tryz.in8 #[.pointer (some ⟨s, 0, none⟩)] (by simp [Act.eval]) ?_
  refine (len_1 s d mb g' Av' w15 HS15 HG3.out.1).mono ?_
  rintro e w16 ⟨rfl, hw_⟩
  refine ⟨_, rfl, ?_⟩
  have hw_ := hw_.symm
  subst hw_
  simp only [Act.put, List.setIfInBounds_toArray, List.set_cons_zero, List.set_cons_succ]
  refine WL.val (by kernel_rfl) (.bool true) (by go_simp) ?_
  simp only [Act.put, List.setIfInBounds_toArray, List.set_cons_zero, List.set_cons_succ]
  refine WL.val (by kernel_rfl) (.bool true) (by go_simp) ?_
  simp only [Act.put, List.setIfInBounds_toArray, List.set_cons_zero, List.set_cons_succ]
  refine WL.val (by kernel_rfl) (.bool true) (by go_simp) ?_
  simp only [Act.put, List.setIfInBounds_toArray, List.set_cons_zero, List.set_cons_succ]
  refine WL.nil ?_
  refine hK9 _ _ ?_
  refine wp_ret ?_
  go_ret
  exact ⟨rfl, B15.out⟩
set_option maxRecDepth 8000 in
theorem names_any (w : World) (hE : ErrT w) : Calls Tryz.prog 3 #[] w fun e w' => e = .returned (.bool true) ∧ Below w.heap.size w w' := by
  go_enter Tryz.func3, Tryz.ntmps3
  refine wp_seq_k fun K1 hK1 => ?_
  refine wp_region_list (WL.out ?_)
  refine WL.val (by kernel_rfl) (.bool false) (by go_simp) ?_
  simp only [Act.put, List.setIfInBounds_toArray, List.set_cons_zero, List.set_cons_succ]
  refine WL.nil ?_
  refine hK1 _ _ ?_
  refine wp_seq_k fun K2 hK2 => ?_
  refine wp_region_list (WL.out ?_)
  refine WL.val (by kernel_rfl) (.bool true) (by go_simp) ?_
  simp only [Act.put, List.setIfInBounds_toArray, List.set_cons_zero, List.set_cons_succ]
  refine WL.nil ?_
  refine hK2 _ _ ?_
  refine wp_seq_k fun K3 hK3 => ?_
  refine wp_region_list (WL.out ?_)
  refine WL.callF (by kernel_rfl) 4 _ _ rfl Tryz.in4 #[] (by simp) ?_
  refine (fixed_any w ⟨hE⟩).mono ?_
  rintro e w1 ⟨rfl, hb⟩
  refine ⟨_, rfl, ?_⟩
  simp only [Act.put, List.setIfInBounds_toArray, List.set_cons_zero, List.set_cons_succ]
  refine WL.val (by kernel_rfl) (.bool true) (by go_simp) ?_
  simp only [Act.put, List.setIfInBounds_toArray, List.set_cons_zero, List.set_cons_succ]
  refine WL.nil ?_
  refine hK3 _ _ ?_
  refine wp_seq_k fun K4 hK4 => ?_
  refine wp_region_list (WL.out ?_)
  refine WL.val (by kernel_rfl) (.bool true) (by go_simp) ?_
  simp only [Act.put, List.setIfInBounds_toArray, List.set_cons_zero, List.set_cons_succ]
  refine WL.val (by kernel_rfl) (.bool true) (by go_simp) ?_
  simp only [Act.put, List.setIfInBounds_toArray, List.set_cons_zero, List.set_cons_succ]
  refine WL.val (by kernel_rfl) (.bool true) (by go_simp) ?_
  simp only [Act.put, List.setIfInBounds_toArray, List.set_cons_zero, List.set_cons_succ]
  refine WL.val (by kernel_rfl) (.bool true) (by go_simp) ?_
  simp only [Act.put, List.setIfInBounds_toArray, List.set_cons_zero, List.set_cons_succ]
  refine WL.val (by kernel_rfl) (.bool true) (by go_simp) ?_
  simp only [Act.put, List.setIfInBounds_toArray, List.set_cons_zero, List.set_cons_succ]
  refine WL.val (by kernel_rfl) (.bool true) (by go_simp) ?_
  simp only [Act.put, List.setIfInBounds_toArray, List.set_cons_zero, List.set_cons_succ]
  refine WL.val (by kernel_rfl) (.bool true) (by go_simp) ?_
  simp only [Act.put, List.setIfInBounds_toArray, List.set_cons_zero, List.set_cons_succ]
  refine WL.val (by kernel_rfl) (.bool true) (by go_simp) ?_
  simp only [Act.put, List.setIfInBounds_toArray, List.set_cons_zero, List.set_cons_succ]
  refine WL.val (by kernel_rfl) (.bool true) (by go_simp) ?_
  simp only [Act.put, List.setIfInBounds_toArray, List.set_cons_zero, List.set_cons_succ]
  refine WL.nil ?_
  refine hK4 _ _ ?_
  refine wp_ret ?_
  go_ret
  exact ⟨rfl, hb⟩

end Go.Proofs.YtibaindbnemlcaaGreatDoor
