import Derived.Test.YtibaindbnemlcaaGreatDoorB07
import Derived.Test.YtibaindbnemlcaaGreatDoorB05
import Derived.Test.YtibaindbnemlcaaGreatDoorB04
namespace Go.Proofs.YtibaindbnemlcaaGreatDoor
open Go.RowKit
set_option linter.unusedSimpArgs false
set_option linter.unusedVariables false

theorem Tryz.in62 (w : World) (vs : Array Value) : (callFunc 62 vs).run Tryz.prog w = .ok (.enter 62 vs) w := by kernel_rfl
def NewL (w w' : World) (v v' : Value) (l' : List Hs) : Prop := OwnH w' v' l' ∧ (Grown w w' fun k => v.ownBlock = some k) ∧ Moved w v v'
def InsOk (l : List Hs) (i : Nat) (y : Hs) (l' : List Hs) : Prop := ∀ (v : Value) (gx : Nat) (w : World), OwnH w v l → Blk w gx 51 (bytesA 32 y.f) → v.ownBlock ≠ some gx → Calls Tryz.prog 83 #[v, .int .i64 (i : Int), .slice (some ⟨gx, 0, none⟩) 1 1] w fun e w' => ∃ v', e = .returned v' ∧ NewL w w' v v' l'
def DelOk (l : List Hs) (x : VX) (l' : List Hs) : Prop := ∀ (v p : Value) (b : Nat) (w : World), OwnH w v l → Blk w b 62 (vtx x.id.f x.ck p) → HRow w p x.ps → (∀ k, v.ownBlock = some k → p.ownBlock ≠ some k) → Calls Tryz.prog 85 #[v, .func (.func 86) #[] #[ptr b]] w fun e w' => ∃ v', e = .returned v' ∧ NewL w w' v v' l'
structure Ste (w w' : World) (Av : Nat → Prop) (d : Nat) (g g' : DG) : Prop where
  at' : DagAt w' (fun k => Av k ∨ DgS d g' k) d g'
  grown : Grown w w' (DgS d g)
  sub : ∀ k, DgS d g' k → DgS d g k ∨ w.heap.size ≤ k
theorem wp_bs {P : Program} {Q : Exit → Act → World → Prop} {o : Oper} {a : Act} {w : World} {K : Act → World → Prop} (t : TypeId) (n : Nat) (parts : Array (Nat × Operand)) (ho : o.op = .buildSlice t n parts)
    (vs : Array (Nat × Value)) (hv : (parts.map fun (i, x) => (i, a.eval x)) = vs) (v : Value) (w' : World) (hrun : (Instr.buildSlice t n vs).run P w = .ok v w') (h : K (a.put o.dst v) w') : o.wp P a w K Q := by
  unfold Oper.wp execOp
  simp only [ho, hv, Sem.run_bind, hrun, Result.andThen_ok]
  exact h
theorem take_end {w w9 : World} {Av Av9 : Nat → Prop} {d : Nat} {g : DG} {v : VX} {v4 v6 v9 : Value} {o' h1 h2 : List Hs} (h : DagAt w Av d g) (h9 : DagAt w9 Av9 d { { { { g with held := g.held ++ [v] } with ov := v4, order := o' } with hv := v6, heads := h1 } with hv := v9, heads := h2 }) (hA : ∀ k, Av k → Av9 k) (hg : Grown w w9 (DgS d g)) (m4 : Moved w g.ov v4) (m6 : Moved w g.hv v6) (m8 : Moved w v6 v9) : Ste w w9 Av d g { { { { g with held := g.held ++ [v] } with ov := v4, order := o' } with hv := v6, heads := h1 } with hv := v9, heads := h2 } := by
  refine ⟨h9.avInto (fun k hk => hk.elim (hA k) (h9.av k)) (fun k hk => .inr hk), hg, ?_⟩
  rintro k (hk | hk | hk | hk | hk | hk)
  · exact .inl (.inl hk)
  · exact .inl (.inr (.inl hk))
  · exact .inl (.inr (.inr (.inl hk)))
  · have hk : v9.ownBlock = some k := hk
    rcases m8 with e | ⟨q, e, hq⟩
    · rw [e] at hk
      rcases m6 with e | ⟨q, e, hq⟩
      · rw [e] at hk; exact .inl (.inr (.inr (.inr (.inl hk))))
      · rw [hk] at e; have := Option.some.inj e; right; omega
    · rw [hk] at e; have := Option.some.inj e; right; omega
  · have hk : v4.ownBlock = some k := hk
    rcases m4 with e | ⟨q, e, hq⟩
    · rw [e] at hk; exact .inl (.inr (.inr (.inr (.inr (.inl hk)))))
    · rw [hk] at e; have := Option.some.inj e; right; omega
  · exact .inl (.inr (.inr (.inr (.inr (.inr hk)))))
set_option maxRecDepth 8000 in
set_option maxHeartbeats 2000000 in
theorem take_gen (d : Nat) (v : VX) (p : Value) (Av : Nat → Prop) (g : DG) (w : World) (at_ : Nat) (o' h1 h2 : List Hs) (hD : DagAt w Av d g) (hr : HRow w p v.ps) (hk : ∀ k, p.ownBlock = some k → k < w.heap.size ∧ ¬ Av k) (hF : g.held.find? (isV v.id) = none)
    (hP : ∀ (w1 : World) (Av1 : Nat → Prop) (p1 : Value) (g1 : DG), DagAt w1 Av1 d g1 → g1.order = g.order → HRow w1 p1 v.ps → Calls Tryz.prog 84 #[ptr d, .agg (vtx v.id.f v.ck p1)] w1 fun e w' => e = .returned (.int .i64 (at_ : Int)) ∧ Below w1.heap.size w1 w')
    (hI1 : InsOk g.order at_ v.id o') (hDf : DelOk g.heads v h1) (hInc : Inc h1) (hIl : h1.length ≤ 1000000000000) (hI2 : ∀ i, i ≤ h1.length → (∀ k, k < i → Lt (h1.getD k default) v.id) → (∀ k, i ≤ k → k < h1.length → ¬ Lt (h1.getD k default) v.id) → InsOk h1 i v.id h2) :
    Calls Tryz.prog 62 #[ptr d, .agg (vtx v.id.f v.ck p)] w fun e w' => e = .returned (.tuple #[]) ∧ ∃ g', Ste w w' Av d g g' ∧ g'.room = g.room ∧ g'.held = g.held ++ [v] ∧ g'.wait = g.wait ∧ g'.queue = g.queue ∧ g'.order = o' ∧ g'.heads = h2 := by
  obtain ⟨pa, pc, rfl⟩ := hr.form
  obtain ⟨vv, hvv⟩ : ∃ a : Array Value, Keep (a = vtx v.id.f v.ck (.slice pa v.ps.length pc)) := ⟨_, ⟨rfl⟩⟩
  rw [← hvv.out]
  have HD := Keep.mk hD
  have HR := Keep.mk hr
  have HK := Keep.mk hk
  have HF := Keep.mk hF
  have HP := Keep.mk hP
  have HI1 := Keep.mk hI1
  have HDf := Keep.mk hDf
  have HInc := Keep.mk hInc
  have HIl := Keep.mk hIl
  have HI2 := Keep.mk hI2
  clear hD hr hk hF hP hI1 hDf hInc hIl hI2
  go_enter Tryz.func62, Tryz.ntmps62
  refine wp_seq_k fun K1 hK1 => ?_
  refine wp_region_list (WL.out ?_)
  refine WL.box (by kernel_rfl) 62 (.tmp 1) rfl (vv) rfl ?_
  obtain ⟨w1, hwn⟩ : ∃ wx, Keep (wx = w.alloc (.cells (vv) 62)) := ⟨_, ⟨rfl⟩⟩
  rw [← hwn.out]
  have HX1 : Keep (Blk w1 w.heap.size 62 (vv)) := ⟨by rw [hwn.out]; exact Blk.new _ _ _⟩
  have LB1 : Keep (Below w.heap.size w w1) := ⟨by rw [hwn.out]; exact below_new _ _⟩
  clear hwn
  have HD1 := Keep.mk (HD.out.below LB1.out)
  have HR1 := Keep.mk (HR.out.below LB1.out)
  have HK1 : Keep (∀ k, (Value.slice pa v.ps.length pc).ownBlock = some k → k < w1.heap.size ∧ ¬ Av k) := ⟨fun k hk => ⟨Nat.lt_of_lt_of_le (HK.out k hk).1 LB1.out.size, (HK.out k hk).2⟩⟩
  clear HR
  simp only [Act.put, List.setIfInBounds_toArray, List.set_cons_zero, List.set_cons_succ]
  refine WL.nil ?_
  refine hK1 _ _ ?_
  refine wp_seq_k fun K2 hK2 => ?_
  have hS0 : Keep ((fun wx => wx.cell? ⟨d, 1, none⟩ = some (.map (some g.hb)) ∧ wx.rangeAt w.heap.size 0 (bytesA 32 v.id.f).toList ∧ wx.rangeAt w.heap.size 0 vv.toList) w1.drew) := ⟨⟨HD1.out.blk.drew.c 1 rfl, vtx_rng (hvv.out ▸ HX1.out.drew), blk_rng HX1.out.drew⟩⟩
  obtain ⟨w2, hr2, hm2, hg2⟩ := upd_new (HD1.out.drew).held (HD1.out.av _ (.inr (.inl rfl))) v HF.out _ (HR1.out.below (Below.refl _ _).drew) HK1.out
  rw [← hvv.out] at hr2
  refine wp_region_held_drew (S := fun wx => wx.cell? ⟨d, 1, none⟩ = some (.map (some g.hb)) ∧ wx.rangeAt w.heap.size 0 (bytesA 32 v.id.f).toList ∧ wx.rangeAt w.heap.size 0 vv.toList) (by kernel_rfl) (hS0.out) (fun hHeld => ?_)
  refine wpAnyH_take (i := 0) (oi := ⟨some 6, Op.move (Operand.tmp 0), 42, _, _, none⟩) (v := .pointer (some ⟨d, 0, none⟩)) rfl (by kernel_rfl) (by kernel_rfl) (by kernel_rfl) (fun _ _ _ h => h) (Or.inl ⟨by rfl, fun w hS => by obtain ⟨hS1, hS2, hS3⟩ := hS; go_simp⟩) hHeld ?_
  simp only [Act.put, List.setIfInBounds_toArray, List.set_cons_zero, List.set_cons_succ]
  refine wpAnyH_take (i := 1) (oi := ⟨some 7, Op.nilCheck (Operand.tmp 6), 0, _, _, none⟩) (v := .pointer (some ⟨d, 0, none⟩)) rfl (by kernel_rfl) (by kernel_rfl) (by kernel_rfl) (fun _ _ _ h => h) (Or.inl ⟨by rfl, fun w hS => by obtain ⟨hS1, hS2, hS3⟩ := hS; go_simp⟩) hHeld ?_
  simp only [Act.put, List.setIfInBounds_toArray, List.set_cons_zero, List.set_cons_succ]
  refine wpAnyH_take (i := 2) (oi := ⟨some 8, Op.fieldAddr 71 (Operand.tmp 7) 1, 0, _, _, none⟩) (v := .pointer (some ⟨d, 1, none⟩)) rfl (by kernel_rfl) (by kernel_rfl) (by kernel_rfl) (fun _ _ _ h => h) (Or.inl ⟨by rfl, fun w hS => by obtain ⟨hS1, hS2, hS3⟩ := hS; go_simp⟩) hHeld ?_
  simp only [Act.put, List.setIfInBounds_toArray, List.set_cons_zero, List.set_cons_succ]
  refine wpAnyH_take (i := 3) (oi := ⟨some 9, Op.load 69 (Operand.tmp 8), 69, _, _, none⟩) (v := .map (some g.hb)) rfl (by kernel_rfl) (by kernel_rfl) (by kernel_rfl) (fun _ _ _ h => h) (Or.inl ⟨by rfl, fun w hS => by obtain ⟨hS1, hS2, hS3⟩ := hS; go_simp⟩) hHeld ?_
  simp only [Act.put, List.setIfInBounds_toArray, List.set_cons_zero, List.set_cons_succ]
  refine wpAnyH_take (i := 4) (oi := ⟨some 10, Op.fieldAddr 62 (Operand.tmp 3) 0, 0, _, _, none⟩) (v := .pointer (some ⟨w.heap.size, 0, none⟩)) rfl (by kernel_rfl) (by kernel_rfl) (by kernel_rfl) (fun _ _ _ h => h) (Or.inl ⟨by rfl, fun w hS => by obtain ⟨hS1, hS2, hS3⟩ := hS; go_simp⟩) hHeld ?_
  simp only [Act.put, List.setIfInBounds_toArray, List.set_cons_zero, List.set_cons_succ]
  refine wpAnyH_take (i := 5) (oi := ⟨some 11, Op.load 51 (Operand.tmp 10), 51, _, _, none⟩) (v := .agg (bytesA 32 v.id.f)) rfl (by kernel_rfl) (by kernel_rfl) (by kernel_rfl) (fun _ _ _ h => h) (yieldsIf_ld (by rfl) (Operand.tmp 10) 51 rfl w.heap.size 0 rfl (bytesA 32 v.id.f) _ Tryz.underlying51 rfl (size36A _) fun w hS => hS.2.1) hHeld ?_
  simp only [Act.put, List.setIfInBounds_toArray, List.set_cons_zero, List.set_cons_succ]
  refine wpAnyH_take (i := 6) (oi := ⟨some 12, Op.load 62 (Operand.tmp 3), 62, _, _, none⟩) (v := .agg vv) rfl (by kernel_rfl) (by kernel_rfl) (by kernel_rfl) (fun _ _ _ h => h) (yieldsIf_ld (by rfl) (Operand.tmp 3) 62 rfl w.heap.size 0 rfl vv _ Tryz.underlying62 rfl (by rw [hvv.out]; exact Tryz.info62s _ _ _) fun w hS => hS.2.2) hHeld ?_
  simp only [Act.put, List.setIfInBounds_toArray, List.set_cons_zero, List.set_cons_succ]
  refine wpAnyH_ready (rs := [7]) (by kernel_rfl) (by simp) ?_
  refine AllReadyH.cons (o := ⟨none, Op.mapUpdate 69 (Operand.tmp 9) (Operand.tmp 11) (Operand.tmp 12), 0, _, _, none⟩) rfl (fun K hK => ?_) AllReadyH.nil
  rw [if_pos (by rfl)]
  refine wp_upd (Operand.tmp 9) (Operand.tmp 11) (Operand.tmp 12) rfl _ _ _ rfl rfl rfl w2 hr2 ?_
  have HX2 := Keep.mk (hg2.blk HX1.out.drew fun e => HD1.out.held.ne HX1.out e)
  have HD2 := Keep.mk (HD1.out.drew.addHeld hm2 hg2)
  have HR2 := Keep.mk ((HR1.out.below (Below.refl _ _).drew).grown hg2 fun b o n c e hb => by subst hb; exact (HK1.out _ (by rw [e]; rfl)).2 (HD1.out.av _ (.inr (.inl rfl))))
  have G2 : Keep (Grown w w2 (DgS d g)) := ⟨(Grown.below (S := DgS d g) LB1.out).next (T := fun k => k = g.hb) ((Grown.refl w1 _).drew.trans hg2) fun i _ e => e ▸ .inr (.inl rfl)⟩
  have HK2 : Keep (∀ k, (Value.slice pa v.ps.length pc).ownBlock = some k → k < w2.heap.size ∧ ¬ Av k) := ⟨fun k hk => ⟨Nat.lt_of_lt_of_le (HK1.out k hk).1 hg2.size, (HK1.out k hk).2⟩⟩
  refine hK _ _ ⟨HD2.out.blk.c 1 rfl, vtx_rng (hvv.out ▸ HX2.out), blk_rng HX2.out⟩ fun hH1 => ?_
  clear hK hr2 hm2 hg2 hS0 HX1 HD1 HR1 HK1
  simp only [Act.put, List.setIfInBounds_toArray, List.set_cons_zero, List.set_cons_succ]
  refine wpAnyH_done (by kernel_rfl) ?_ _
  refine hK2 _ _ ?_
  refine wp_seq_k fun K3 hK3 => ?_
  obtain ⟨oa, oc, hov⟩ := HD2.out.oo.sl
  change g.ov = .slice oa g.order.length oc at hov
  have Hov := Keep.mk hov
  clear hov
  have c3 : Keep (∀ wx, Below w2.heap.size w2 wx → (fun wx => True ∧ wx.rangeAt w.heap.size 0 (bytesA 32 v.id.f).toList ∧ wx.rangeAt w.heap.size 0 vv.toList) wx) := ⟨fun wx hb => ⟨trivial, vtx_rng (hvv.out ▸ HX2.out.below hb HX2.out.lt), blk_rng (HX2.out.below hb HX2.out.lt)⟩⟩
  have B2 : Keep (Below w2.heap.size w2 w2.drew) := ⟨(Below.refl _ _).drew⟩
  refine wp_region_held_drew (S := fun wx => True ∧ wx.rangeAt w.heap.size 0 (bytesA 32 v.id.f).toList ∧ wx.rangeAt w.heap.size 0 vv.toList) (by kernel_rfl) (c3.out _ B2.out) (fun hHeld => ?_)
  refine wpAnyH_take (i := 0) (oi := ⟨some 13, Op.move (Operand.tmp 0), 42, _, _, none⟩) (v := .pointer (some ⟨d, 0, none⟩)) rfl (by kernel_rfl) (by kernel_rfl) (by kernel_rfl) (fun _ _ _ h => h) (Or.inl ⟨by rfl, fun w hS => by obtain ⟨hS1, hS2, hS3⟩ := hS; go_simp⟩) hHeld ?_
  simp only [Act.put, List.setIfInBounds_toArray, List.set_cons_zero, List.set_cons_succ]
  refine wpAnyH_take (i := 1) (oi := ⟨some 14, Op.move (Operand.tmp 0), 42, _, _, none⟩) (v := .pointer (some ⟨d, 0, none⟩)) rfl (by kernel_rfl) (by kernel_rfl) (by kernel_rfl) (fun _ _ _ h => h) (Or.inl ⟨by rfl, fun w hS => by obtain ⟨hS1, hS2, hS3⟩ := hS; go_simp⟩) hHeld ?_
  simp only [Act.put, List.setIfInBounds_toArray, List.set_cons_zero, List.set_cons_succ]
  refine wpAnyH_take (i := 2) (oi := ⟨some 15, Op.nilCheck (Operand.tmp 14), 0, _, _, none⟩) (v := .pointer (some ⟨d, 0, none⟩)) rfl (by kernel_rfl) (by kernel_rfl) (by kernel_rfl) (fun _ _ _ h => h) (Or.inl ⟨by rfl, fun w hS => by obtain ⟨hS1, hS2, hS3⟩ := hS; go_simp⟩) hHeld ?_
  simp only [Act.put, List.setIfInBounds_toArray, List.set_cons_zero, List.set_cons_succ]
  refine wpAnyH_take (i := 3) (oi := ⟨some 16, Op.fieldAddr 71 (Operand.tmp 15) 3, 0, _, _, none⟩) (v := .pointer (some ⟨d, 3, none⟩)) rfl (by kernel_rfl) (by kernel_rfl) (by kernel_rfl) (fun _ _ _ h => h) (Or.inl ⟨by rfl, fun w hS => by obtain ⟨hS1, hS2, hS3⟩ := hS; go_simp⟩) hHeld ?_
  simp only [Act.put, List.setIfInBounds_toArray, List.set_cons_zero, List.set_cons_succ]
  refine wpAnyH_take (i := 5) (oi := ⟨some 18, Op.move (Operand.tmp 0), 42, _, _, none⟩) (v := .pointer (some ⟨d, 0, none⟩)) rfl (by kernel_rfl) (by kernel_rfl) (by kernel_rfl) (fun _ _ _ h => h) (Or.inl ⟨by rfl, fun w hS => by obtain ⟨hS1, hS2, hS3⟩ := hS; go_simp⟩) hHeld ?_
  simp only [Act.put, List.setIfInBounds_toArray, List.set_cons_zero, List.set_cons_succ]
  refine wpAnyH_take (i := 6) (oi := ⟨some 19, Op.load 62 (Operand.tmp 3), 62, _, _, none⟩) (v := .agg vv) rfl (by kernel_rfl) (by kernel_rfl) (by kernel_rfl) (fun _ _ _ h => h) (yieldsIf_ld (by rfl) (Operand.tmp 3) 62 rfl w.heap.size 0 rfl vv _ Tryz.underlying62 rfl (by rw [hvv.out]; exact Tryz.info62s _ _ _) fun w hS => hS.2.2) hHeld ?_
  simp only [Act.put, List.setIfInBounds_toArray, List.set_cons_zero, List.set_cons_succ]
  refine wpAnyH_take (i := 8) (oi := ⟨some 21, Op.fieldAddr 62 (Operand.tmp 3) 0, 0, _, _, none⟩) (v := .pointer (some ⟨w.heap.size, 0, none⟩)) rfl (by kernel_rfl) (by kernel_rfl) (by kernel_rfl) (fun _ _ _ h => h) (Or.inl ⟨by rfl, fun w hS => by obtain ⟨hS1, hS2, hS3⟩ := hS; go_simp⟩) hHeld ?_
  simp only [Act.put, List.setIfInBounds_toArray, List.set_cons_zero, List.set_cons_succ]
  refine wpAnyH_take (i := 9) (oi := ⟨some 22, Op.load 51 (Operand.tmp 21), 51, _, _, none⟩) (v := .agg (bytesA 32 v.id.f)) rfl (by kernel_rfl) (by kernel_rfl) (by kernel_rfl) (fun _ _ _ h => h) (yieldsIf_ld (by rfl) (Operand.tmp 21) 51 rfl w.heap.size 0 rfl (bytesA 32 v.id.f) _ Tryz.underlying51 rfl (size36A _) fun w hS => hS.2.1) hHeld ?_
  simp only [Act.put, List.setIfInBounds_toArray, List.set_cons_zero, List.set_cons_succ]
  refine wpAnyH_ready (rs := [4, 7, 10]) (by kernel_rfl) (by simp) ?_
  refine AllReadyH.cons (o := ⟨some 17, Op.load 25 (Operand.tmp 16), 25, _, _, none⟩) rfl (fun K hK => ?_) (AllReadyH.cons (o := ⟨some 20, Op.call { callee := Callee.value (Operand.func 84), args := #[Operand.tmp 18, Operand.tmp 19], argTypes := #[42, 62] }, 3, _, _, none⟩) rfl (fun K hK => ?_) (AllReadyH.cons (o := ⟨some 23, Op.buildSlice 25 1 #[(0, Operand.tmp 22)], 25, _, _, none⟩) rfl (fun K hK => ?_) AllReadyH.nil))
  rw [if_pos (by rfl)]
  have c_o : w2.drew.cell? ⟨d, 3, none⟩ = some (.slice oa g.order.length oc) := by have h := (HD2.out.blk.below B2.out HD2.out.blk.lt).c 3 (by rfl : (dgA { g with held := g.held ++ [v] })[3]? = some g.ov); rw [Hov.out] at h; exact h
  refine wp_val (.slice oa g.order.length oc) (by go_simp) ?_
  clear c_o
  refine hK _ _ (c3.out _ B2.out) fun hQ1 => ?_
  clear hK
  simp only [Act.put, List.setIfInBounds_toArray, List.set_cons_zero, List.set_cons_succ]
  refine wpAnyH_ready (rs := [7, 10]) (by kernel_rfl) (by simp) ?_
  refine AllReadyH.cons (o := ⟨some 20, Op.call { callee := Callee.value (Operand.func 84), args := #[Operand.tmp 18, Operand.tmp 19], argTypes := #[42, 62] }, 3, _, _, none⟩) rfl (fun K hK => ?_) (AllReadyH.cons (o := ⟨some 23, Op.buildSlice 25 1 #[(0, Operand.tmp 22)], 25, _, _, none⟩) rfl (fun K hK => ?_) AllReadyH.nil)
  rw [if_pos (by rfl)]
  refine wp_callF 84 _ _ rfl Tryz.in84 #[ptr d, .agg vv] (by simp [Act.eval]) (fun u wx => u = .int .i64 (at_ : Int) ∧ Below w2.drew.heap.size w2.drew wx) (by have h := HP.out w2.drew _ (.slice pa v.ps.length pc) _ (HD2.out.below B2.out) rfl (HR2.out.below B2.out); rw [← hvv.out] at h; exact h.mono fun e w' h => ⟨_, h.1, rfl, h.2⟩) ?_
  rintro _ wa2 ⟨rfl, hb_⟩
  have BA2 := Keep.mk (belowT B2.out hb_)
  refine hK _ _ (c3.out _ BA2.out) fun hQ2 => ?_
  clear hK hb_
  simp only [Act.put, List.setIfInBounds_toArray, List.set_cons_zero, List.set_cons_succ]
  refine wpAnyH_ready (rs := [10]) (by kernel_rfl) (by simp) ?_
  refine AllReadyH.cons (o := ⟨some 23, Op.buildSlice 25 1 #[(0, Operand.tmp 22)], 25, _, _, none⟩) rfl (fun K hK => ?_) AllReadyH.nil
  rw [if_pos (by rfl)]
  refine wp_bs 25 1 _ rfl #[(0, .agg (bytesA 32 v.id.f))] (by simp [Act.eval]) _ _ (bsH v.id _) ?_
  have HGx := Keep.mk (Blk.new wa2 51 (bytesA 32 v.id.f))
  have BA3 := Keep.mk (belowT BA2.out (below_new wa2 (.cells (bytesA 32 v.id.f) 51)))
  have Lgx : Keep (w2.heap.size ≤ wa2.heap.size) := ⟨BA2.out.size⟩
  generalize wa2.alloc (.cells (bytesA 32 v.id.f) 51) = wa3 at *
  generalize wa2.heap.size = gx at *
  refine hK _ _ (c3.out _ BA3.out) fun hQ3 => ?_
  clear hK
  simp only [Act.put, List.setIfInBounds_toArray, List.set_cons_zero, List.set_cons_succ]
  refine wpAnyH_ready (rs := [11]) (by kernel_rfl) (by simp) ?_
  refine AllReadyH.cons (o := ⟨some 24, Op.call { callee := Callee.value (Operand.func 83), args := #[Operand.tmp 17, Operand.tmp 20, Operand.tmp 23], argTypes := #[25, 3, 25] }, 25, _, _, none⟩) rfl (fun K hK => ?_) AllReadyH.nil
  rw [if_pos (by rfl)]
  refine wp_callF 83 _ _ rfl Tryz.in83 #[.slice oa g.order.length oc, .int .i64 (at_ : Int), .slice (some ⟨gx, 0, none⟩) 1 1] (by simp [Act.eval]) (fun u wx => NewL wa3 wx (.slice oa g.order.length oc) u o') ((HI1.out _ gx wa3 (Hov.out ▸ (HD2.out.below BA3.out).oo) HGx.out fun e => by have := (HD2.out.oo).lt gx (by show g.ov.ownBlock = _; rw [Hov.out]; exact e); have := Lgx.out; omega)) ?_
  rintro v3 w3 h3
  have HN := Keep.mk h3
  have HX3 := Keep.mk (h3.2.1.blk (HX2.out.below BA3.out HX2.out.lt) fun e => by have := (((HD2.out.below BA3.out).oo).typ (by show g.ov.ownBlock = _; rw [Hov.out]; exact e)).one (HX2.out.below BA3.out HX2.out.lt).typ; revert this; decide)
  have HB3 := Keep.mk (h3.2.1.blk (HD2.out.below BA3.out).blk fun e => by have := (((HD2.out.below BA3.out).oo).typ (by show g.ov.ownBlock = _; rw [Hov.out]; exact e)).one (HD2.out.below BA3.out).blk.typ; revert this; decide)
  refine hK _ _ ⟨trivial, vtx_rng (hvv.out ▸ HX3.out), blk_rng HX3.out⟩ fun hH5 => ?_
  obtain ⟨a3, c3', e3⟩ := h3.1.sl
  subst e3
  clear hK h3
  simp only [Act.put, List.setIfInBounds_toArray, List.set_cons_zero, List.set_cons_succ]
  refine wpAnyH_take (i := 12) (oi := ⟨some 25, Op.nilCheck (Operand.tmp 13), 0, _, _, none⟩) (v := .pointer (some ⟨d, 0, none⟩)) rfl (by kernel_rfl) (by kernel_rfl) (by kernel_rfl) (fun _ _ _ h => h) (Or.inl ⟨by rfl, fun w hS => by obtain ⟨hS1, hS2, hS3⟩ := hS; go_simp⟩) hH5 ?_
  simp only [Act.put, List.setIfInBounds_toArray, List.set_cons_zero, List.set_cons_succ]
  refine wpAnyH_take (i := 13) (oi := ⟨some 26, Op.fieldAddr 71 (Operand.tmp 25) 3, 0, _, _, none⟩) (v := .pointer (some ⟨d, 3, none⟩)) rfl (by kernel_rfl) (by kernel_rfl) (by kernel_rfl) (fun _ _ _ h => h) (Or.inl ⟨by rfl, fun w hS => by obtain ⟨hS1, hS2, hS3⟩ := hS; go_simp⟩) hH5 ?_
  simp only [Act.put, List.setIfInBounds_toArray, List.set_cons_zero, List.set_cons_succ]
  refine wpAnyH_ready (rs := [14]) (by kernel_rfl) (by simp) ?_
  refine AllReadyH.cons (o := ⟨none, Op.store 25 (Operand.tmp 26) (Operand.tmp 24), 0, _, _, none⟩) rfl (fun K hK => ?_) AllReadyH.nil
  rw [if_pos (by rfl)]
  have f_o := HB3.out.frozen 3
  have c_o : w3.cell? ⟨d, 3, none⟩ = some (.slice oa g.order.length oc) := by have h := HB3.out.c 3 (by rfl : (dgA { g with held := g.held ++ [v] })[3]? = some g.ov); rw [Hov.out] at h; exact h
  refine wp_cellS (w3.setCell ⟨d, 3, none⟩ (.slice a3 o'.length c3')) (by go_simp) ?_
  clear f_o c_o
  have HD4 := Keep.mk ((HD2.out.below BA3.out).setO HN.out.1 (by show Grown _ _ fun k => g.ov.ownBlock = some k; rw [Hov.out]; exact HN.out.2.1) (by show Moved _ g.ov _; rw [Hov.out]; exact HN.out.2.2))
  have HX4 := Keep.mk (HX3.out.set_ne (b' := d) (j := 3) (fun e => by subst e; have := HX3.out.typ.one HB3.out.typ; revert this; decide) (.slice a3 o'.length c3'))
  have G4 : Keep (Grown w (w3.setCell ⟨d, 3, none⟩ (.slice a3 o'.length c3')) (DgS d g)) := ⟨((G2.out.trans (Grown.below BA3.out)).next HN.out.2.1 fun i _ e => .inr (.inr (.inr (.inr (.inl (by rw [Hov.out]; exact e)))))).next (Grown.setCell w3 d 3 _ (S := fun k => k = d) fun _ => rfl) fun i _ e => .inl e⟩
  have GS4 : Keep (Grown w2 (w3.setCell ⟨d, 3, none⟩ (.slice a3 o'.length c3')) (fun k => g.ov.ownBlock = some k ∨ k = d)) := ⟨((Grown.below (S := fun k => g.ov.ownBlock = some k ∨ k = d) BA3.out).next HN.out.2.1 fun i _ e => .inl (by rw [Hov.out]; exact e)).next (Grown.setCell w3 d 3 _ (S := fun k => k = d) fun _ => rfl) fun i _ e => .inr e⟩
  have M4 : Keep (Moved w g.ov (.slice a3 o'.length c3')) := ⟨by rw [Hov.out]; exact HN.out.2.2.imp id fun ⟨q, e, h⟩ => ⟨q, e, Nat.le_trans G2.out.size (Nat.le_trans BA3.out.size h)⟩⟩
  generalize w3.setCell ⟨d, 3, none⟩ (.slice a3 o'.length c3') = w4 at *
  obtain ⟨v4, hv4⟩ : ∃ u : Value, u = .slice a3 o'.length c3' := ⟨_, rfl⟩
  rw [← hv4] at HD4 M4 ⊢
  refine hK _ _ ⟨trivial, vtx_rng (hvv.out ▸ HX4.out), blk_rng HX4.out⟩ fun hH6 => ?_
  clear hK hH5 hH6 HB3 HX3 HN c3 hv4
  simp only [Act.put, List.setIfInBounds_toArray, List.set_cons_zero, List.set_cons_succ]
  refine wpAnyH_done (by kernel_rfl) ?_ _
  rotate_left
  rw [if_pos (by rfl)]
  refine wp_bs 25 1 _ rfl #[(0, .agg (bytesA 32 v.id.f))] (by simp [Act.eval]) _ _ (bsH v.id _) ?_
  have HGx := Keep.mk (Blk.new w2.drew 51 (bytesA 32 v.id.f))
  have BA2 := Keep.mk (belowT B2.out (below_new w2.drew (.cells (bytesA 32 v.id.f) 51)))
  have Lgx : Keep (w2.heap.size ≤ w2.drew.heap.size) := ⟨B2.out.size⟩
  generalize w2.drew.alloc (.cells (bytesA 32 v.id.f) 51) = wa2 at *
  generalize w2.drew.heap.size = gx at *
  refine hK _ _ (c3.out _ BA2.out) fun hQ2 => ?_
  clear hK
  simp only [Act.put, List.setIfInBounds_toArray, List.set_cons_zero, List.set_cons_succ]
  refine wpAnyH_ready (rs := [7]) (by kernel_rfl) (by simp) ?_
  refine AllReadyH.cons (o := ⟨some 20, Op.call { callee := Callee.value (Operand.func 84), args := #[Operand.tmp 18, Operand.tmp 19], argTypes := #[42, 62] }, 3, _, _, none⟩) rfl (fun K hK => ?_) AllReadyH.nil
  rw [if_pos (by rfl)]
  refine wp_callF 84 _ _ rfl Tryz.in84 #[ptr d, .agg vv] (by simp [Act.eval]) (fun u wx => u = .int .i64 (at_ : Int) ∧ Below wa2.heap.size wa2 wx) (by have h := HP.out wa2 _ (.slice pa v.ps.length pc) _ (HD2.out.below BA2.out) rfl (HR2.out.below BA2.out); rw [← hvv.out] at h; exact h.mono fun e w' h => ⟨_, h.1, rfl, h.2⟩) ?_
  rintro _ wa3 ⟨rfl, hb_⟩
  have BA3 := Keep.mk (belowT BA2.out hb_)
  have HGx := Keep.mk (HGx.out.below hb_ HGx.out.lt)
  refine hK _ _ (c3.out _ BA3.out) fun hQ3 => ?_
  clear hK hb_
  simp only [Act.put, List.setIfInBounds_toArray, List.set_cons_zero, List.set_cons_succ]
  refine wpAnyH_ready (rs := [11]) (by kernel_rfl) (by simp) ?_
  refine AllReadyH.cons (o := ⟨some 24, Op.call { callee := Callee.value (Operand.func 83), args := #[Operand.tmp 17, Operand.tmp 20, Operand.tmp 23], argTypes := #[25, 3, 25] }, 25, _, _, none⟩) rfl (fun K hK => ?_) AllReadyH.nil
  rw [if_pos (by rfl)]
  refine wp_callF 83 _ _ rfl Tryz.in83 #[.slice oa g.order.length oc, .int .i64 (at_ : Int), .slice (some ⟨gx, 0, none⟩) 1 1] (by simp [Act.eval]) (fun u wx => NewL wa3 wx (.slice oa g.order.length oc) u o') ((HI1.out _ gx wa3 (Hov.out ▸ (HD2.out.below BA3.out).oo) HGx.out fun e => by have := (HD2.out.oo).lt gx (by show g.ov.ownBlock = _; rw [Hov.out]; exact e); have := Lgx.out; omega)) ?_
  rintro v3 w3 h3
  have HN := Keep.mk h3
  have HX3 := Keep.mk (h3.2.1.blk (HX2.out.below BA3.out HX2.out.lt) fun e => by have := (((HD2.out.below BA3.out).oo).typ (by show g.ov.ownBlock = _; rw [Hov.out]; exact e)).one (HX2.out.below BA3.out HX2.out.lt).typ; revert this; decide)
  have HB3 := Keep.mk (h3.2.1.blk (HD2.out.below BA3.out).blk fun e => by have := (((HD2.out.below BA3.out).oo).typ (by show g.ov.ownBlock = _; rw [Hov.out]; exact e)).one (HD2.out.below BA3.out).blk.typ; revert this; decide)
  refine hK _ _ ⟨trivial, vtx_rng (hvv.out ▸ HX3.out), blk_rng HX3.out⟩ fun hH5 => ?_
  obtain ⟨a3, c3', e3⟩ := h3.1.sl
  subst e3
  clear hK h3
  simp only [Act.put, List.setIfInBounds_toArray, List.set_cons_zero, List.set_cons_succ]
  refine wpAnyH_take (i := 12) (oi := ⟨some 25, Op.nilCheck (Operand.tmp 13), 0, _, _, none⟩) (v := .pointer (some ⟨d, 0, none⟩)) rfl (by kernel_rfl) (by kernel_rfl) (by kernel_rfl) (fun _ _ _ h => h) (Or.inl ⟨by rfl, fun w hS => by obtain ⟨hS1, hS2, hS3⟩ := hS; go_simp⟩) hH5 ?_
  simp only [Act.put, List.setIfInBounds_toArray, List.set_cons_zero, List.set_cons_succ]
  refine wpAnyH_take (i := 13) (oi := ⟨some 26, Op.fieldAddr 71 (Operand.tmp 25) 3, 0, _, _, none⟩) (v := .pointer (some ⟨d, 3, none⟩)) rfl (by kernel_rfl) (by kernel_rfl) (by kernel_rfl) (fun _ _ _ h => h) (Or.inl ⟨by rfl, fun w hS => by obtain ⟨hS1, hS2, hS3⟩ := hS; go_simp⟩) hH5 ?_
  simp only [Act.put, List.setIfInBounds_toArray, List.set_cons_zero, List.set_cons_succ]
  refine wpAnyH_ready (rs := [14]) (by kernel_rfl) (by simp) ?_
  refine AllReadyH.cons (o := ⟨none, Op.store 25 (Operand.tmp 26) (Operand.tmp 24), 0, _, _, none⟩) rfl (fun K hK => ?_) AllReadyH.nil
  rw [if_pos (by rfl)]
  have f_o := HB3.out.frozen 3
  have c_o : w3.cell? ⟨d, 3, none⟩ = some (.slice oa g.order.length oc) := by have h := HB3.out.c 3 (by rfl : (dgA { g with held := g.held ++ [v] })[3]? = some g.ov); rw [Hov.out] at h; exact h
  refine wp_cellS (w3.setCell ⟨d, 3, none⟩ (.slice a3 o'.length c3')) (by go_simp) ?_
  clear f_o c_o
  have HD4 := Keep.mk ((HD2.out.below BA3.out).setO HN.out.1 (by show Grown _ _ fun k => g.ov.ownBlock = some k; rw [Hov.out]; exact HN.out.2.1) (by show Moved _ g.ov _; rw [Hov.out]; exact HN.out.2.2))
  have HX4 := Keep.mk (HX3.out.set_ne (b' := d) (j := 3) (fun e => by subst e; have := HX3.out.typ.one HB3.out.typ; revert this; decide) (.slice a3 o'.length c3'))
  have G4 : Keep (Grown w (w3.setCell ⟨d, 3, none⟩ (.slice a3 o'.length c3')) (DgS d g)) := ⟨((G2.out.trans (Grown.below BA3.out)).next HN.out.2.1 fun i _ e => .inr (.inr (.inr (.inr (.inl (by rw [Hov.out]; exact e)))))).next (Grown.setCell w3 d 3 _ (S := fun k => k = d) fun _ => rfl) fun i _ e => .inl e⟩
  have GS4 : Keep (Grown w2 (w3.setCell ⟨d, 3, none⟩ (.slice a3 o'.length c3')) (fun k => g.ov.ownBlock = some k ∨ k = d)) := ⟨((Grown.below (S := fun k => g.ov.ownBlock = some k ∨ k = d) BA3.out).next HN.out.2.1 fun i _ e => .inl (by rw [Hov.out]; exact e)).next (Grown.setCell w3 d 3 _ (S := fun k => k = d) fun _ => rfl) fun i _ e => .inr e⟩
  have M4 : Keep (Moved w g.ov (.slice a3 o'.length c3')) := ⟨by rw [Hov.out]; exact HN.out.2.2.imp id fun ⟨q, e, h⟩ => ⟨q, e, Nat.le_trans G2.out.size (Nat.le_trans BA3.out.size h)⟩⟩
  generalize w3.setCell ⟨d, 3, none⟩ (.slice a3 o'.length c3') = w4 at *
  obtain ⟨v4, hv4⟩ : ∃ u : Value, u = .slice a3 o'.length c3' := ⟨_, rfl⟩
  rw [← hv4] at HD4 M4 ⊢
  refine hK _ _ ⟨trivial, vtx_rng (hvv.out ▸ HX4.out), blk_rng HX4.out⟩ fun hH6 => ?_
  clear hK hH5 hH6 HB3 HX3 HN c3 hv4
  simp only [Act.put, List.setIfInBounds_toArray, List.set_cons_zero, List.set_cons_succ]
  refine wpAnyH_done (by kernel_rfl) ?_ _
  rotate_left
  rw [if_pos (by rfl)]
  refine wp_callF 84 _ _ rfl Tryz.in84 #[ptr d, .agg vv] (by simp [Act.eval]) (fun u wx => u = .int .i64 (at_ : Int) ∧ Below w2.drew.heap.size w2.drew wx) (by have h := HP.out w2.drew _ (.slice pa v.ps.length pc) _ (HD2.out.below B2.out) rfl (HR2.out.below B2.out); rw [← hvv.out] at h; exact h.mono fun e w' h => ⟨_, h.1, rfl, h.2⟩) ?_
  rintro _ wa1 ⟨rfl, hb_⟩
  have BA1 := Keep.mk (belowT B2.out hb_)
  refine hK _ _ (c3.out _ BA1.out) fun hQ1 => ?_
  clear hK hb_
  simp only [Act.put, List.setIfInBounds_toArray, List.set_cons_zero, List.set_cons_succ]
  refine wpAnyH_ready (rs := [4, 10]) (by kernel_rfl) (by simp) ?_
  refine AllReadyH.cons (o := ⟨some 17, Op.load 25 (Operand.tmp 16), 25, _, _, none⟩) rfl (fun K hK => ?_) (AllReadyH.cons (o := ⟨some 23, Op.buildSlice 25 1 #[(0, Operand.tmp 22)], 25, _, _, none⟩) rfl (fun K hK => ?_) AllReadyH.nil)
  rw [if_pos (by rfl)]
  have c_o : wa1.cell? ⟨d, 3, none⟩ = some (.slice oa g.order.length oc) := by have h := (HD2.out.blk.below BA1.out HD2.out.blk.lt).c 3 (by rfl : (dgA { g with held := g.held ++ [v] })[3]? = some g.ov); rw [Hov.out] at h; exact h
  refine wp_val (.slice oa g.order.length oc) (by go_simp) ?_
  clear c_o
  refine hK _ _ (c3.out _ BA1.out) fun hQ2 => ?_
  clear hK
  simp only [Act.put, List.setIfInBounds_toArray, List.set_cons_zero, List.set_cons_succ]
  refine wpAnyH_ready (rs := [10]) (by kernel_rfl) (by simp) ?_
  refine AllReadyH.cons (o := ⟨some 23, Op.buildSlice 25 1 #[(0, Operand.tmp 22)], 25, _, _, none⟩) rfl (fun K hK => ?_) AllReadyH.nil
  rw [if_pos (by rfl)]
  refine wp_bs 25 1 _ rfl #[(0, .agg (bytesA 32 v.id.f))] (by simp [Act.eval]) _ _ (bsH v.id _) ?_
  have HGx := Keep.mk (Blk.new wa1 51 (bytesA 32 v.id.f))
  have BA3 := Keep.mk (belowT BA1.out (below_new wa1 (.cells (bytesA 32 v.id.f) 51)))
  have Lgx : Keep (w2.heap.size ≤ wa1.heap.size) := ⟨BA1.out.size⟩
  generalize wa1.alloc (.cells (bytesA 32 v.id.f) 51) = wa3 at *
  generalize wa1.heap.size = gx at *
  refine hK _ _ (c3.out _ BA3.out) fun hQ3 => ?_
  clear hK
  simp only [Act.put, List.setIfInBounds_toArray, List.set_cons_zero, List.set_cons_succ]
  refine wpAnyH_ready (rs := [11]) (by kernel_rfl) (by simp) ?_
  refine AllReadyH.cons (o := ⟨some 24, Op.call { callee := Callee.value (Operand.func 83), args := #[Operand.tmp 17, Operand.tmp 20, Operand.tmp 23], argTypes := #[25, 3, 25] }, 25, _, _, none⟩) rfl (fun K hK => ?_) AllReadyH.nil
  rw [if_pos (by rfl)]
  refine wp_callF 83 _ _ rfl Tryz.in83 #[.slice oa g.order.length oc, .int .i64 (at_ : Int), .slice (some ⟨gx, 0, none⟩) 1 1] (by simp [Act.eval]) (fun u wx => NewL wa3 wx (.slice oa g.order.length oc) u o') ((HI1.out _ gx wa3 (Hov.out ▸ (HD2.out.below BA3.out).oo) HGx.out fun e => by have := (HD2.out.oo).lt gx (by show g.ov.ownBlock = _; rw [Hov.out]; exact e); have := Lgx.out; omega)) ?_
  rintro v3 w3 h3
  have HN := Keep.mk h3
  have HX3 := Keep.mk (h3.2.1.blk (HX2.out.below BA3.out HX2.out.lt) fun e => by have := (((HD2.out.below BA3.out).oo).typ (by show g.ov.ownBlock = _; rw [Hov.out]; exact e)).one (HX2.out.below BA3.out HX2.out.lt).typ; revert this; decide)
  have HB3 := Keep.mk (h3.2.1.blk (HD2.out.below BA3.out).blk fun e => by have := (((HD2.out.below BA3.out).oo).typ (by show g.ov.ownBlock = _; rw [Hov.out]; exact e)).one (HD2.out.below BA3.out).blk.typ; revert this; decide)
  refine hK _ _ ⟨trivial, vtx_rng (hvv.out ▸ HX3.out), blk_rng HX3.out⟩ fun hH5 => ?_
  obtain ⟨a3, c3', e3⟩ := h3.1.sl
  subst e3
  clear hK h3
  simp only [Act.put, List.setIfInBounds_toArray, List.set_cons_zero, List.set_cons_succ]
  refine wpAnyH_take (i := 12) (oi := ⟨some 25, Op.nilCheck (Operand.tmp 13), 0, _, _, none⟩) (v := .pointer (some ⟨d, 0, none⟩)) rfl (by kernel_rfl) (by kernel_rfl) (by kernel_rfl) (fun _ _ _ h => h) (Or.inl ⟨by rfl, fun w hS => by obtain ⟨hS1, hS2, hS3⟩ := hS; go_simp⟩) hH5 ?_
  simp only [Act.put, List.setIfInBounds_toArray, List.set_cons_zero, List.set_cons_succ]
  refine wpAnyH_take (i := 13) (oi := ⟨some 26, Op.fieldAddr 71 (Operand.tmp 25) 3, 0, _, _, none⟩) (v := .pointer (some ⟨d, 3, none⟩)) rfl (by kernel_rfl) (by kernel_rfl) (by kernel_rfl) (fun _ _ _ h => h) (Or.inl ⟨by rfl, fun w hS => by obtain ⟨hS1, hS2, hS3⟩ := hS; go_simp⟩) hH5 ?_
  simp only [Act.put, List.setIfInBounds_toArray, List.set_cons_zero, List.set_cons_succ]
  refine wpAnyH_ready (rs := [14]) (by kernel_rfl) (by simp) ?_
  refine AllReadyH.cons (o := ⟨none, Op.store 25 (Operand.tmp 26) (Operand.tmp 24), 0, _, _, none⟩) rfl (fun K hK => ?_) AllReadyH.nil
  rw [if_pos (by rfl)]
  have f_o := HB3.out.frozen 3
  have c_o : w3.cell? ⟨d, 3, none⟩ = some (.slice oa g.order.length oc) := by have h := HB3.out.c 3 (by rfl : (dgA { g with held := g.held ++ [v] })[3]? = some g.ov); rw [Hov.out] at h; exact h
  refine wp_cellS (w3.setCell ⟨d, 3, none⟩ (.slice a3 o'.length c3')) (by go_simp) ?_
  clear f_o c_o
  have HD4 := Keep.mk ((HD2.out.below BA3.out).setO HN.out.1 (by show Grown _ _ fun k => g.ov.ownBlock = some k; rw [Hov.out]; exact HN.out.2.1) (by show Moved _ g.ov _; rw [Hov.out]; exact HN.out.2.2))
  have HX4 := Keep.mk (HX3.out.set_ne (b' := d) (j := 3) (fun e => by subst e; have := HX3.out.typ.one HB3.out.typ; revert this; decide) (.slice a3 o'.length c3'))
  have G4 : Keep (Grown w (w3.setCell ⟨d, 3, none⟩ (.slice a3 o'.length c3')) (DgS d g)) := ⟨((G2.out.trans (Grown.below BA3.out)).next HN.out.2.1 fun i _ e => .inr (.inr (.inr (.inr (.inl (by rw [Hov.out]; exact e)))))).next (Grown.setCell w3 d 3 _ (S := fun k => k = d) fun _ => rfl) fun i _ e => .inl e⟩
  have GS4 : Keep (Grown w2 (w3.setCell ⟨d, 3, none⟩ (.slice a3 o'.length c3')) (fun k => g.ov.ownBlock = some k ∨ k = d)) := ⟨((Grown.below (S := fun k => g.ov.ownBlock = some k ∨ k = d) BA3.out).next HN.out.2.1 fun i _ e => .inl (by rw [Hov.out]; exact e)).next (Grown.setCell w3 d 3 _ (S := fun k => k = d) fun _ => rfl) fun i _ e => .inr e⟩
  have M4 : Keep (Moved w g.ov (.slice a3 o'.length c3')) := ⟨by rw [Hov.out]; exact HN.out.2.2.imp id fun ⟨q, e, h⟩ => ⟨q, e, Nat.le_trans G2.out.size (Nat.le_trans BA3.out.size h)⟩⟩
  generalize w3.setCell ⟨d, 3, none⟩ (.slice a3 o'.length c3') = w4 at *
  obtain ⟨v4, hv4⟩ : ∃ u : Value, u = .slice a3 o'.length c3' := ⟨_, rfl⟩
  rw [← hv4] at HD4 M4 ⊢
  refine hK _ _ ⟨trivial, vtx_rng (hvv.out ▸ HX4.out), blk_rng HX4.out⟩ fun hH6 => ?_
  clear hK hH5 hH6 HB3 HX3 HN c3 hv4
  simp only [Act.put, List.setIfInBounds_toArray, List.set_cons_zero, List.set_cons_succ]
  refine wpAnyH_done (by kernel_rfl) ?_ _
  rotate_left
  rw [if_pos (by rfl)]
  refine wp_bs 25 1 _ rfl #[(0, .agg (bytesA 32 v.id.f))] (by simp [Act.eval]) _ _ (bsH v.id _) ?_
  have HGx := Keep.mk (Blk.new wa1 51 (bytesA 32 v.id.f))
  have BA2 := Keep.mk (belowT BA1.out (below_new wa1 (.cells (bytesA 32 v.id.f) 51)))
  have Lgx : Keep (w2.heap.size ≤ wa1.heap.size) := ⟨BA1.out.size⟩
  generalize wa1.alloc (.cells (bytesA 32 v.id.f) 51) = wa2 at *
  generalize wa1.heap.size = gx at *
  refine hK _ _ (c3.out _ BA2.out) fun hQ2 => ?_
  clear hK
  simp only [Act.put, List.setIfInBounds_toArray, List.set_cons_zero, List.set_cons_succ]
  refine wpAnyH_ready (rs := [4]) (by kernel_rfl) (by simp) ?_
  refine AllReadyH.cons (o := ⟨some 17, Op.load 25 (Operand.tmp 16), 25, _, _, none⟩) rfl (fun K hK => ?_) AllReadyH.nil
  rw [if_pos (by rfl)]
  have c_o : wa2.cell? ⟨d, 3, none⟩ = some (.slice oa g.order.length oc) := by have h := (HD2.out.blk.below BA2.out HD2.out.blk.lt).c 3 (by rfl : (dgA { g with held := g.held ++ [v] })[3]? = some g.ov); rw [Hov.out] at h; exact h
  refine wp_val (.slice oa g.order.length oc) (by go_simp) ?_
  clear c_o
  refine hK _ _ (c3.out _ BA2.out) fun hQ3 => ?_
  clear hK
  simp only [Act.put, List.setIfInBounds_toArray, List.set_cons_zero, List.set_cons_succ]
  refine wpAnyH_ready (rs := [11]) (by kernel_rfl) (by simp) ?_
  refine AllReadyH.cons (o := ⟨some 24, Op.call { callee := Callee.value (Operand.func 83), args := #[Operand.tmp 17, Operand.tmp 20, Operand.tmp 23], argTypes := #[25, 3, 25] }, 25, _, _, none⟩) rfl (fun K hK => ?_) AllReadyH.nil
  rw [if_pos (by rfl)]
  refine wp_callF 83 _ _ rfl Tryz.in83 #[.slice oa g.order.length oc, .int .i64 (at_ : Int), .slice (some ⟨gx, 0, none⟩) 1 1] (by simp [Act.eval]) (fun u wx => NewL wa2 wx (.slice oa g.order.length oc) u o') ((HI1.out _ gx wa2 (Hov.out ▸ (HD2.out.below BA2.out).oo) HGx.out fun e => by have := (HD2.out.oo).lt gx (by show g.ov.ownBlock = _; rw [Hov.out]; exact e); have := Lgx.out; omega)) ?_
  rintro v3 w3 h3
  have HN := Keep.mk h3
  have HX3 := Keep.mk (h3.2.1.blk (HX2.out.below BA2.out HX2.out.lt) fun e => by have := (((HD2.out.below BA2.out).oo).typ (by show g.ov.ownBlock = _; rw [Hov.out]; exact e)).one (HX2.out.below BA2.out HX2.out.lt).typ; revert this; decide)
  have HB3 := Keep.mk (h3.2.1.blk (HD2.out.below BA2.out).blk fun e => by have := (((HD2.out.below BA2.out).oo).typ (by show g.ov.ownBlock = _; rw [Hov.out]; exact e)).one (HD2.out.below BA2.out).blk.typ; revert this; decide)
  refine hK _ _ ⟨trivial, vtx_rng (hvv.out ▸ HX3.out), blk_rng HX3.out⟩ fun hH5 => ?_
  obtain ⟨a3, c3', e3⟩ := h3.1.sl
  subst e3
  clear hK h3
  simp only [Act.put, List.setIfInBounds_toArray, List.set_cons_zero, List.set_cons_succ]
  refine wpAnyH_take (i := 12) (oi := ⟨some 25, Op.nilCheck (Operand.tmp 13), 0, _, _, none⟩) (v := .pointer (some ⟨d, 0, none⟩)) rfl (by kernel_rfl) (by kernel_rfl) (by kernel_rfl) (fun _ _ _ h => h) (Or.inl ⟨by rfl, fun w hS => by obtain ⟨hS1, hS2, hS3⟩ := hS; go_simp⟩) hH5 ?_
  simp only [Act.put, List.setIfInBounds_toArray, List.set_cons_zero, List.set_cons_succ]
  refine wpAnyH_take (i := 13) (oi := ⟨some 26, Op.fieldAddr 71 (Operand.tmp 25) 3, 0, _, _, none⟩) (v := .pointer (some ⟨d, 3, none⟩)) rfl (by kernel_rfl) (by kernel_rfl) (by kernel_rfl) (fun _ _ _ h => h) (Or.inl ⟨by rfl, fun w hS => by obtain ⟨hS1, hS2, hS3⟩ := hS; go_simp⟩) hH5 ?_
  simp only [Act.put, List.setIfInBounds_toArray, List.set_cons_zero, List.set_cons_succ]
  refine wpAnyH_ready (rs := [14]) (by kernel_rfl) (by simp) ?_
  refine AllReadyH.cons (o := ⟨none, Op.store 25 (Operand.tmp 26) (Operand.tmp 24), 0, _, _, none⟩) rfl (fun K hK => ?_) AllReadyH.nil
  rw [if_pos (by rfl)]
  have f_o := HB3.out.frozen 3
  have c_o : w3.cell? ⟨d, 3, none⟩ = some (.slice oa g.order.length oc) := by have h := HB3.out.c 3 (by rfl : (dgA { g with held := g.held ++ [v] })[3]? = some g.ov); rw [Hov.out] at h; exact h
  refine wp_cellS (w3.setCell ⟨d, 3, none⟩ (.slice a3 o'.length c3')) (by go_simp) ?_
  clear f_o c_o
  have HD4 := Keep.mk ((HD2.out.below BA2.out).setO HN.out.1 (by show Grown _ _ fun k => g.ov.ownBlock = some k; rw [Hov.out]; exact HN.out.2.1) (by show Moved _ g.ov _; rw [Hov.out]; exact HN.out.2.2))
  have HX4 := Keep.mk (HX3.out.set_ne (b' := d) (j := 3) (fun e => by subst e; have := HX3.out.typ.one HB3.out.typ; revert this; decide) (.slice a3 o'.length c3'))
  have G4 : Keep (Grown w (w3.setCell ⟨d, 3, none⟩ (.slice a3 o'.length c3')) (DgS d g)) := ⟨((G2.out.trans (Grown.below BA2.out)).next HN.out.2.1 fun i _ e => .inr (.inr (.inr (.inr (.inl (by rw [Hov.out]; exact e)))))).next (Grown.setCell w3 d 3 _ (S := fun k => k = d) fun _ => rfl) fun i _ e => .inl e⟩
  have GS4 : Keep (Grown w2 (w3.setCell ⟨d, 3, none⟩ (.slice a3 o'.length c3')) (fun k => g.ov.ownBlock = some k ∨ k = d)) := ⟨((Grown.below (S := fun k => g.ov.ownBlock = some k ∨ k = d) BA2.out).next HN.out.2.1 fun i _ e => .inl (by rw [Hov.out]; exact e)).next (Grown.setCell w3 d 3 _ (S := fun k => k = d) fun _ => rfl) fun i _ e => .inr e⟩
  have M4 : Keep (Moved w g.ov (.slice a3 o'.length c3')) := ⟨by rw [Hov.out]; exact HN.out.2.2.imp id fun ⟨q, e, h⟩ => ⟨q, e, Nat.le_trans G2.out.size (Nat.le_trans BA2.out.size h)⟩⟩
  generalize w3.setCell ⟨d, 3, none⟩ (.slice a3 o'.length c3') = w4 at *
  obtain ⟨v4, hv4⟩ : ∃ u : Value, u = .slice a3 o'.length c3' := ⟨_, rfl⟩
  rw [← hv4] at HD4 M4 ⊢
  refine hK _ _ ⟨trivial, vtx_rng (hvv.out ▸ HX4.out), blk_rng HX4.out⟩ fun hH6 => ?_
  clear hK hH5 hH6 HB3 HX3 HN c3 hv4
  simp only [Act.put, List.setIfInBounds_toArray, List.set_cons_zero, List.set_cons_succ]
  refine wpAnyH_done (by kernel_rfl) ?_ _
  rotate_left
  rw [if_pos (by rfl)]
  refine wp_bs 25 1 _ rfl #[(0, .agg (bytesA 32 v.id.f))] (by simp [Act.eval]) _ _ (bsH v.id _) ?_
  have HGx := Keep.mk (Blk.new w2.drew 51 (bytesA 32 v.id.f))
  have BA1 := Keep.mk (belowT B2.out (below_new w2.drew (.cells (bytesA 32 v.id.f) 51)))
  have Lgx : Keep (w2.heap.size ≤ w2.drew.heap.size) := ⟨B2.out.size⟩
  generalize w2.drew.alloc (.cells (bytesA 32 v.id.f) 51) = wa1 at *
  generalize w2.drew.heap.size = gx at *
  refine hK _ _ (c3.out _ BA1.out) fun hQ1 => ?_
  clear hK
  simp only [Act.put, List.setIfInBounds_toArray, List.set_cons_zero, List.set_cons_succ]
  refine wpAnyH_ready (rs := [4, 7]) (by kernel_rfl) (by simp) ?_
  refine AllReadyH.cons (o := ⟨some 17, Op.load 25 (Operand.tmp 16), 25, _, _, none⟩) rfl (fun K hK => ?_) (AllReadyH.cons (o := ⟨some 20, Op.call { callee := Callee.value (Operand.func 84), args := #[Operand.tmp 18, Operand.tmp 19], argTypes := #[42, 62] }, 3, _, _, none⟩) rfl (fun K hK => ?_) AllReadyH.nil)
  rw [if_pos (by rfl)]
  have c_o : wa1.cell? ⟨d, 3, none⟩ = some (.slice oa g.order.length oc) := by have h := (HD2.out.blk.below BA1.out HD2.out.blk.lt).c 3 (by rfl : (dgA { g with held := g.held ++ [v] })[3]? = some g.ov); rw [Hov.out] at h; exact h
  refine wp_val (.slice oa g.order.length oc) (by go_simp) ?_
  clear c_o
  refine hK _ _ (c3.out _ BA1.out) fun hQ2 => ?_
  clear hK
  simp only [Act.put, List.setIfInBounds_toArray, List.set_cons_zero, List.set_cons_succ]
  refine wpAnyH_ready (rs := [7]) (by kernel_rfl) (by simp) ?_
  refine AllReadyH.cons (o := ⟨some 20, Op.call { callee := Callee.value (Operand.func 84), args := #[Operand.tmp 18, Operand.tmp 19], argTypes := #[42, 62] }, 3, _, _, none⟩) rfl (fun K hK => ?_) AllReadyH.nil
  rw [if_pos (by rfl)]
  refine wp_callF 84 _ _ rfl Tryz.in84 #[ptr d, .agg vv] (by simp [Act.eval]) (fun u wx => u = .int .i64 (at_ : Int) ∧ Below wa1.heap.size wa1 wx) (by have h := HP.out wa1 _ (.slice pa v.ps.length pc) _ (HD2.out.below BA1.out) rfl (HR2.out.below BA1.out); rw [← hvv.out] at h; exact h.mono fun e w' h => ⟨_, h.1, rfl, h.2⟩) ?_
  rintro _ wa3 ⟨rfl, hb_⟩
  have BA3 := Keep.mk (belowT BA1.out hb_)
  have HGx := Keep.mk (HGx.out.below hb_ HGx.out.lt)
  refine hK _ _ (c3.out _ BA3.out) fun hQ3 => ?_
  clear hK hb_
  simp only [Act.put, List.setIfInBounds_toArray, List.set_cons_zero, List.set_cons_succ]
  refine wpAnyH_ready (rs := [11]) (by kernel_rfl) (by simp) ?_
  refine AllReadyH.cons (o := ⟨some 24, Op.call { callee := Callee.value (Operand.func 83), args := #[Operand.tmp 17, Operand.tmp 20, Operand.tmp 23], argTypes := #[25, 3, 25] }, 25, _, _, none⟩) rfl (fun K hK => ?_) AllReadyH.nil
  rw [if_pos (by rfl)]
  refine wp_callF 83 _ _ rfl Tryz.in83 #[.slice oa g.order.length oc, .int .i64 (at_ : Int), .slice (some ⟨gx, 0, none⟩) 1 1] (by simp [Act.eval]) (fun u wx => NewL wa3 wx (.slice oa g.order.length oc) u o') ((HI1.out _ gx wa3 (Hov.out ▸ (HD2.out.below BA3.out).oo) HGx.out fun e => by have := (HD2.out.oo).lt gx (by show g.ov.ownBlock = _; rw [Hov.out]; exact e); have := Lgx.out; omega)) ?_
  rintro v3 w3 h3
  have HN := Keep.mk h3
  have HX3 := Keep.mk (h3.2.1.blk (HX2.out.below BA3.out HX2.out.lt) fun e => by have := (((HD2.out.below BA3.out).oo).typ (by show g.ov.ownBlock = _; rw [Hov.out]; exact e)).one (HX2.out.below BA3.out HX2.out.lt).typ; revert this; decide)
  have HB3 := Keep.mk (h3.2.1.blk (HD2.out.below BA3.out).blk fun e => by have := (((HD2.out.below BA3.out).oo).typ (by show g.ov.ownBlock = _; rw [Hov.out]; exact e)).one (HD2.out.below BA3.out).blk.typ; revert this; decide)
  refine hK _ _ ⟨trivial, vtx_rng (hvv.out ▸ HX3.out), blk_rng HX3.out⟩ fun hH5 => ?_
  obtain ⟨a3, c3', e3⟩ := h3.1.sl
  subst e3
  clear hK h3
  simp only [Act.put, List.setIfInBounds_toArray, List.set_cons_zero, List.set_cons_succ]
  refine wpAnyH_take (i := 12) (oi := ⟨some 25, Op.nilCheck (Operand.tmp 13), 0, _, _, none⟩) (v := .pointer (some ⟨d, 0, none⟩)) rfl (by kernel_rfl) (by kernel_rfl) (by kernel_rfl) (fun _ _ _ h => h) (Or.inl ⟨by rfl, fun w hS => by obtain ⟨hS1, hS2, hS3⟩ := hS; go_simp⟩) hH5 ?_
  simp only [Act.put, List.setIfInBounds_toArray, List.set_cons_zero, List.set_cons_succ]
  refine wpAnyH_take (i := 13) (oi := ⟨some 26, Op.fieldAddr 71 (Operand.tmp 25) 3, 0, _, _, none⟩) (v := .pointer (some ⟨d, 3, none⟩)) rfl (by kernel_rfl) (by kernel_rfl) (by kernel_rfl) (fun _ _ _ h => h) (Or.inl ⟨by rfl, fun w hS => by obtain ⟨hS1, hS2, hS3⟩ := hS; go_simp⟩) hH5 ?_
  simp only [Act.put, List.setIfInBounds_toArray, List.set_cons_zero, List.set_cons_succ]
  refine wpAnyH_ready (rs := [14]) (by kernel_rfl) (by simp) ?_
  refine AllReadyH.cons (o := ⟨none, Op.store 25 (Operand.tmp 26) (Operand.tmp 24), 0, _, _, none⟩) rfl (fun K hK => ?_) AllReadyH.nil
  rw [if_pos (by rfl)]
  have f_o := HB3.out.frozen 3
  have c_o : w3.cell? ⟨d, 3, none⟩ = some (.slice oa g.order.length oc) := by have h := HB3.out.c 3 (by rfl : (dgA { g with held := g.held ++ [v] })[3]? = some g.ov); rw [Hov.out] at h; exact h
  refine wp_cellS (w3.setCell ⟨d, 3, none⟩ (.slice a3 o'.length c3')) (by go_simp) ?_
  clear f_o c_o
  have HD4 := Keep.mk ((HD2.out.below BA3.out).setO HN.out.1 (by show Grown _ _ fun k => g.ov.ownBlock = some k; rw [Hov.out]; exact HN.out.2.1) (by show Moved _ g.ov _; rw [Hov.out]; exact HN.out.2.2))
  have HX4 := Keep.mk (HX3.out.set_ne (b' := d) (j := 3) (fun e => by subst e; have := HX3.out.typ.one HB3.out.typ; revert this; decide) (.slice a3 o'.length c3'))
  have G4 : Keep (Grown w (w3.setCell ⟨d, 3, none⟩ (.slice a3 o'.length c3')) (DgS d g)) := ⟨((G2.out.trans (Grown.below BA3.out)).next HN.out.2.1 fun i _ e => .inr (.inr (.inr (.inr (.inl (by rw [Hov.out]; exact e)))))).next (Grown.setCell w3 d 3 _ (S := fun k => k = d) fun _ => rfl) fun i _ e => .inl e⟩
  have GS4 : Keep (Grown w2 (w3.setCell ⟨d, 3, none⟩ (.slice a3 o'.length c3')) (fun k => g.ov.ownBlock = some k ∨ k = d)) := ⟨((Grown.below (S := fun k => g.ov.ownBlock = some k ∨ k = d) BA3.out).next HN.out.2.1 fun i _ e => .inl (by rw [Hov.out]; exact e)).next (Grown.setCell w3 d 3 _ (S := fun k => k = d) fun _ => rfl) fun i _ e => .inr e⟩
  have M4 : Keep (Moved w g.ov (.slice a3 o'.length c3')) := ⟨by rw [Hov.out]; exact HN.out.2.2.imp id fun ⟨q, e, h⟩ => ⟨q, e, Nat.le_trans G2.out.size (Nat.le_trans BA3.out.size h)⟩⟩
  generalize w3.setCell ⟨d, 3, none⟩ (.slice a3 o'.length c3') = w4 at *
  obtain ⟨v4, hv4⟩ : ∃ u : Value, u = .slice a3 o'.length c3' := ⟨_, rfl⟩
  rw [← hv4] at HD4 M4 ⊢
  refine hK _ _ ⟨trivial, vtx_rng (hvv.out ▸ HX4.out), blk_rng HX4.out⟩ fun hH6 => ?_
  clear hK hH5 hH6 HB3 HX3 HN c3 hv4
  simp only [Act.put, List.setIfInBounds_toArray, List.set_cons_zero, List.set_cons_succ]
  refine wpAnyH_done (by kernel_rfl) ?_ _
  rotate_left
  rw [if_pos (by rfl)]
  refine wp_callF 84 _ _ rfl Tryz.in84 #[ptr d, .agg vv] (by simp [Act.eval]) (fun u wx => u = .int .i64 (at_ : Int) ∧ Below wa1.heap.size wa1 wx) (by have h := HP.out wa1 _ (.slice pa v.ps.length pc) _ (HD2.out.below BA1.out) rfl (HR2.out.below BA1.out); rw [← hvv.out] at h; exact h.mono fun e w' h => ⟨_, h.1, rfl, h.2⟩) ?_
  rintro _ wa2 ⟨rfl, hb_⟩
  have BA2 := Keep.mk (belowT BA1.out hb_)
  have HGx := Keep.mk (HGx.out.below hb_ HGx.out.lt)
  refine hK _ _ (c3.out _ BA2.out) fun hQ2 => ?_
  clear hK hb_
  simp only [Act.put, List.setIfInBounds_toArray, List.set_cons_zero, List.set_cons_succ]
  refine wpAnyH_ready (rs := [4]) (by kernel_rfl) (by simp) ?_
  refine AllReadyH.cons (o := ⟨some 17, Op.load 25 (Operand.tmp 16), 25, _, _, none⟩) rfl (fun K hK => ?_) AllReadyH.nil
  rw [if_pos (by rfl)]
  have c_o : wa2.cell? ⟨d, 3, none⟩ = some (.slice oa g.order.length oc) := by have h := (HD2.out.blk.below BA2.out HD2.out.blk.lt).c 3 (by rfl : (dgA { g with held := g.held ++ [v] })[3]? = some g.ov); rw [Hov.out] at h; exact h
  refine wp_val (.slice oa g.order.length oc) (by go_simp) ?_
  clear c_o
  refine hK _ _ (c3.out _ BA2.out) fun hQ3 => ?_
  clear hK
  simp only [Act.put, List.setIfInBounds_toArray, List.set_cons_zero, List.set_cons_succ]
  refine wpAnyH_ready (rs := [11]) (by kernel_rfl) (by simp) ?_
  refine AllReadyH.cons (o := ⟨some 24, Op.call { callee := Callee.value (Operand.func 83), args := #[Operand.tmp 17, Operand.tmp 20, Operand.tmp 23], argTypes := #[25, 3, 25] }, 25, _, _, none⟩) rfl (fun K hK => ?_) AllReadyH.nil
  rw [if_pos (by rfl)]
  refine wp_callF 83 _ _ rfl Tryz.in83 #[.slice oa g.order.length oc, .int .i64 (at_ : Int), .slice (some ⟨gx, 0, none⟩) 1 1] (by simp [Act.eval]) (fun u wx => NewL wa2 wx (.slice oa g.order.length oc) u o') ((HI1.out _ gx wa2 (Hov.out ▸ (HD2.out.below BA2.out).oo) HGx.out fun e => by have := (HD2.out.oo).lt gx (by show g.ov.ownBlock = _; rw [Hov.out]; exact e); have := Lgx.out; omega)) ?_
  rintro v3 w3 h3
  have HN := Keep.mk h3
  have HX3 := Keep.mk (h3.2.1.blk (HX2.out.below BA2.out HX2.out.lt) fun e => by have := (((HD2.out.below BA2.out).oo).typ (by show g.ov.ownBlock = _; rw [Hov.out]; exact e)).one (HX2.out.below BA2.out HX2.out.lt).typ; revert this; decide)
  have HB3 := Keep.mk (h3.2.1.blk (HD2.out.below BA2.out).blk fun e => by have := (((HD2.out.below BA2.out).oo).typ (by show g.ov.ownBlock = _; rw [Hov.out]; exact e)).one (HD2.out.below BA2.out).blk.typ; revert this; decide)
  refine hK _ _ ⟨trivial, vtx_rng (hvv.out ▸ HX3.out), blk_rng HX3.out⟩ fun hH5 => ?_
  obtain ⟨a3, c3', e3⟩ := h3.1.sl
  subst e3
  clear hK h3
  simp only [Act.put, List.setIfInBounds_toArray, List.set_cons_zero, List.set_cons_succ]
  refine wpAnyH_take (i := 12) (oi := ⟨some 25, Op.nilCheck (Operand.tmp 13), 0, _, _, none⟩) (v := .pointer (some ⟨d, 0, none⟩)) rfl (by kernel_rfl) (by kernel_rfl) (by kernel_rfl) (fun _ _ _ h => h) (Or.inl ⟨by rfl, fun w hS => by obtain ⟨hS1, hS2, hS3⟩ := hS; go_simp⟩) hH5 ?_
  simp only [Act.put, List.setIfInBounds_toArray, List.set_cons_zero, List.set_cons_succ]
  refine wpAnyH_take (i := 13) (oi := ⟨some 26, Op.fieldAddr 71 (Operand.tmp 25) 3, 0, _, _, none⟩) (v := .pointer (some ⟨d, 3, none⟩)) rfl (by kernel_rfl) (by kernel_rfl) (by kernel_rfl) (fun _ _ _ h => h) (Or.inl ⟨by rfl, fun w hS => by obtain ⟨hS1, hS2, hS3⟩ := hS; go_simp⟩) hH5 ?_
  simp only [Act.put, List.setIfInBounds_toArray, List.set_cons_zero, List.set_cons_succ]
  refine wpAnyH_ready (rs := [14]) (by kernel_rfl) (by simp) ?_
  refine AllReadyH.cons (o := ⟨none, Op.store 25 (Operand.tmp 26) (Operand.tmp 24), 0, _, _, none⟩) rfl (fun K hK => ?_) AllReadyH.nil
  rw [if_pos (by rfl)]
  have f_o := HB3.out.frozen 3
  have c_o : w3.cell? ⟨d, 3, none⟩ = some (.slice oa g.order.length oc) := by have h := HB3.out.c 3 (by rfl : (dgA { g with held := g.held ++ [v] })[3]? = some g.ov); rw [Hov.out] at h; exact h
  refine wp_cellS (w3.setCell ⟨d, 3, none⟩ (.slice a3 o'.length c3')) (by go_simp) ?_
  clear f_o c_o
  have HD4 := Keep.mk ((HD2.out.below BA2.out).setO HN.out.1 (by show Grown _ _ fun k => g.ov.ownBlock = some k; rw [Hov.out]; exact HN.out.2.1) (by show Moved _ g.ov _; rw [Hov.out]; exact HN.out.2.2))
  have HX4 := Keep.mk (HX3.out.set_ne (b' := d) (j := 3) (fun e => by subst e; have := HX3.out.typ.one HB3.out.typ; revert this; decide) (.slice a3 o'.length c3'))
  have G4 : Keep (Grown w (w3.setCell ⟨d, 3, none⟩ (.slice a3 o'.length c3')) (DgS d g)) := ⟨((G2.out.trans (Grown.below BA2.out)).next HN.out.2.1 fun i _ e => .inr (.inr (.inr (.inr (.inl (by rw [Hov.out]; exact e)))))).next (Grown.setCell w3 d 3 _ (S := fun k => k = d) fun _ => rfl) fun i _ e => .inl e⟩
  have GS4 : Keep (Grown w2 (w3.setCell ⟨d, 3, none⟩ (.slice a3 o'.length c3')) (fun k => g.ov.ownBlock = some k ∨ k = d)) := ⟨((Grown.below (S := fun k => g.ov.ownBlock = some k ∨ k = d) BA2.out).next HN.out.2.1 fun i _ e => .inl (by rw [Hov.out]; exact e)).next (Grown.setCell w3 d 3 _ (S := fun k => k = d) fun _ => rfl) fun i _ e => .inr e⟩
  have M4 : Keep (Moved w g.ov (.slice a3 o'.length c3')) := ⟨by rw [Hov.out]; exact HN.out.2.2.imp id fun ⟨q, e, h⟩ => ⟨q, e, Nat.le_trans G2.out.size (Nat.le_trans BA2.out.size h)⟩⟩
  generalize w3.setCell ⟨d, 3, none⟩ (.slice a3 o'.length c3') = w4 at *
  obtain ⟨v4, hv4⟩ : ∃ u : Value, u = .slice a3 o'.length c3' := ⟨_, rfl⟩
  rw [← hv4] at HD4 M4 ⊢
  refine hK _ _ ⟨trivial, vtx_rng (hvv.out ▸ HX4.out), blk_rng HX4.out⟩ fun hH6 => ?_
  clear hK hH5 hH6 HB3 HX3 HN c3 hv4
  simp only [Act.put, List.setIfInBounds_toArray, List.set_cons_zero, List.set_cons_succ]
  refine wpAnyH_done (by kernel_rfl) ?_ _
  rotate_left
  all_goals
    refine hK3 _ _ ?_
    refine wp_seq_k fun K6 hK6 => ?_
    obtain ⟨ha, hc, hhv⟩ := HD4.out.oh.sl
    change g.hv = .slice ha g.heads.length hc at hhv
    have Hhv := Keep.mk hhv
    clear hhv
    have c2 : w4.cell? ⟨d, 2, none⟩ = some (.slice ha g.heads.length hc) := by have h := HD4.out.blk.c 2 (by rfl : (dgA { { g with held := g.held ++ [v] } with ov := v4, order := o' })[2]? = some g.hv); rw [Hhv.out] at h; exact h
    have HR4 := Keep.mk (HR2.out.grown GS4.out fun b o n c e hb => (HK2.out b (by rw [e]; rfl)).2 (hb.elim (fun h => HD2.out.av _ (.inr (.inr (.inr (.inr (.inl h)))))) fun h => HD2.out.av _ (.inl h)))
    have HK4 : Keep (∀ k, (Value.slice pa v.ps.length pc).ownBlock = some k → k < w4.heap.size ∧ ¬ Av k) := ⟨fun k hk => ⟨Nat.lt_of_lt_of_le (HK2.out k hk).1 GS4.out.size, (HK2.out k hk).2⟩⟩
    have AP : Keep (∀ k, (.slice ha g.heads.length hc : Value).ownBlock = some k → (Value.slice pa v.ps.length pc).ownBlock ≠ some k) := ⟨fun k hk e => (HK4.out k e).2 (HD2.out.av _ (.inr (.inr (.inr (.inl (by show g.hv.ownBlock = _; rw [Hhv.out]; exact hk))))))⟩
    refine wp_region_list (WL.out ?_)
    refine WL.val (by kernel_rfl) (.pointer (some ⟨d, 0, none⟩)) (by go_simp) ?_
    simp only [Act.put, List.setIfInBounds_toArray, List.set_cons_zero, List.set_cons_succ]
    refine WL.val (by kernel_rfl) (.pointer (some ⟨d, 0, none⟩)) (by go_simp) ?_
    simp only [Act.put, List.setIfInBounds_toArray, List.set_cons_zero, List.set_cons_succ]
    refine WL.val (by kernel_rfl) (.pointer (some ⟨d, 0, none⟩)) (by go_simp) ?_
    simp only [Act.put, List.setIfInBounds_toArray, List.set_cons_zero, List.set_cons_succ]
    refine WL.val (by kernel_rfl) (.pointer (some ⟨d, 2, none⟩)) (by go_simp) ?_
    simp only [Act.put, List.setIfInBounds_toArray, List.set_cons_zero, List.set_cons_succ]
    refine WL.val (by kernel_rfl) (.slice ha g.heads.length hc) (by go_simp) ?_
    simp only [Act.put, List.setIfInBounds_toArray, List.set_cons_zero, List.set_cons_succ]
    refine WL.val (by kernel_rfl) (.func (.func 86) #[] #[.pointer (some ⟨w.heap.size, 0, none⟩)]) (by go_simp) ?_
    simp only [Act.put, List.setIfInBounds_toArray, List.set_cons_zero, List.set_cons_succ]
    clear c2
    refine WL.callF (by kernel_rfl) 85 _ _ rfl Tryz.in85 #[.slice ha g.heads.length hc, .func (.func 86) #[] #[.pointer (some ⟨w.heap.size, 0, none⟩)]] (by simp [Act.eval]) ?_
    refine (HDf.out _ (.slice pa v.ps.length pc) w.heap.size w4 (Hhv.out ▸ HD4.out.oh) (hvv.out ▸ HX4.out) HR4.out AP.out).mono ?_
    rintro e w5 ⟨v5, rfl, h5⟩
    refine ⟨_, rfl, ?_⟩
    have HN5 := Keep.mk h5
    have HX5 := Keep.mk (h5.2.1.blk HX4.out fun e => by have := ((Hhv.out ▸ HD4.out.oh : OwnH w4 (.slice ha g.heads.length hc) g.heads).typ e).one HX4.out.typ; revert this; decide)
    have HB5 := Keep.mk (h5.2.1.blk HD4.out.blk fun e => by have := ((Hhv.out ▸ HD4.out.oh : OwnH w4 (.slice ha g.heads.length hc) g.heads).typ e).one HD4.out.blk.typ; revert this; decide)
    obtain ⟨a5, c5, e5⟩ := h5.1.sl
    subst e5
    clear h5
    simp only [Act.put, List.setIfInBounds_toArray, List.set_cons_zero, List.set_cons_succ]
    refine WL.val (by kernel_rfl) (.pointer (some ⟨d, 0, none⟩)) (by go_simp) ?_
    simp only [Act.put, List.setIfInBounds_toArray, List.set_cons_zero, List.set_cons_succ]
    refine WL.val (by kernel_rfl) (.pointer (some ⟨d, 2, none⟩)) (by go_simp) ?_
    simp only [Act.put, List.setIfInBounds_toArray, List.set_cons_zero, List.set_cons_succ]
    have f_o := HB5.out.frozen 2
    have c_o : w5.cell? ⟨d, 2, none⟩ = some (.slice ha g.heads.length hc) := by have h := HB5.out.c 2 (by rfl : (dgA { { g with held := g.held ++ [v] } with ov := v4, order := o' })[2]? = some g.hv); rw [Hhv.out] at h; exact h
    refine WL.cell (by kernel_rfl) (w5.setCell ⟨d, 2, none⟩ (.slice a5 h1.length c5)) (by go_simp) ?_
    clear f_o c_o
    have HD6 := Keep.mk (HD4.out.setH HN5.out.1 (by show Grown _ _ fun k => g.hv.ownBlock = some k; rw [Hhv.out]; exact HN5.out.2.1) (by show Moved _ g.hv _; rw [Hhv.out]; exact HN5.out.2.2))
    have HX6 := Keep.mk (HX5.out.set_ne (b' := d) (j := 2) (fun e => by subst e; have := HX5.out.typ.one HB5.out.typ; revert this; decide) (.slice a5 h1.length c5))
    have G6 : Keep (Grown w (w5.setCell ⟨d, 2, none⟩ (.slice a5 h1.length c5)) (DgS d g)) := ⟨(G4.out.next HN5.out.2.1 fun i _ e => .inr (.inr (.inr (.inl (by rw [Hhv.out]; exact e))))).next (Grown.setCell w5 d 2 _ (S := fun k => k = d) fun _ => rfl) fun i _ e => .inl e⟩
    have M6 : Keep (Moved w g.hv (.slice a5 h1.length c5)) := ⟨by rw [Hhv.out]; exact HN5.out.2.2.imp id fun ⟨q, e, h⟩ => ⟨q, e, Nat.le_trans G4.out.size h⟩⟩
    generalize w5.setCell ⟨d, 2, none⟩ (.slice a5 h1.length c5) = w6 at *
    obtain ⟨v6, hv6⟩ : ∃ u : Value, u = .slice a5 h1.length c5 := ⟨_, rfl⟩
    rw [← hv6] at HD6 M6
    have Hv6 := Keep.mk hv6
    clear hv6 HB5 HX5 HN5 HX4 HR4 AP HK4
    simp only [Act.put]
    refine WL.nil ?_
    refine hK6 _ _ ?_
    refine wp_seq_k fun K7 hK7 => ?_
    have hS0 : Keep ((fun wx => wx.cell? ⟨d, 2, none⟩ = some (.slice a5 h1.length c5) ∧ wx.rangeAt w.heap.size 0 (bytesA 32 v.id.f).toList ∧ wx.rangeAt w.heap.size 0 vv.toList) w6.drew) := ⟨⟨by have h := HD6.out.blk.drew.c 2 (by rfl : (dgA { { { g with held := g.held ++ [v] } with ov := v4, order := o' } with hv := v6, heads := h1 })[2]? = some v6); rw [Hv6.out] at h; exact h, vtx_rng (hvv.out ▸ HX6.out.drew), blk_rng HX6.out.drew⟩⟩
    refine wp_region_held_drew (S := fun wx => wx.cell? ⟨d, 2, none⟩ = some (.slice a5 h1.length c5) ∧ wx.rangeAt w.heap.size 0 (bytesA 32 v.id.f).toList ∧ wx.rangeAt w.heap.size 0 vv.toList) (by kernel_rfl) (hS0.out) (fun hHeld => ?_)
    refine wpAnyH_take (i := 0) (oi := ⟨some 37, Op.move (Operand.tmp 0), 42, _, _, none⟩) (v := .pointer (some ⟨d, 0, none⟩)) rfl (by kernel_rfl) (by kernel_rfl) (by kernel_rfl) (fun _ _ _ h => h) (Or.inl ⟨by rfl, fun w hS => by obtain ⟨hS1, hS2, hS3⟩ := hS; go_simp⟩) hHeld ?_
    simp only [Act.put, List.setIfInBounds_toArray, List.set_cons_zero, List.set_cons_succ]
    refine wpAnyH_take (i := 1) (oi := ⟨some 38, Op.nilCheck (Operand.tmp 37), 0, _, _, none⟩) (v := .pointer (some ⟨d, 0, none⟩)) rfl (by kernel_rfl) (by kernel_rfl) (by kernel_rfl) (fun _ _ _ h => h) (Or.inl ⟨by rfl, fun w hS => by obtain ⟨hS1, hS2, hS3⟩ := hS; go_simp⟩) hHeld ?_
    simp only [Act.put, List.setIfInBounds_toArray, List.set_cons_zero, List.set_cons_succ]
    refine wpAnyH_take (i := 2) (oi := ⟨some 39, Op.fieldAddr 71 (Operand.tmp 38) 2, 0, _, _, none⟩) (v := .pointer (some ⟨d, 2, none⟩)) rfl (by kernel_rfl) (by kernel_rfl) (by kernel_rfl) (fun _ _ _ h => h) (Or.inl ⟨by rfl, fun w hS => by obtain ⟨hS1, hS2, hS3⟩ := hS; go_simp⟩) hHeld ?_
    simp only [Act.put, List.setIfInBounds_toArray, List.set_cons_zero, List.set_cons_succ]
    refine wpAnyH_take (i := 3) (oi := ⟨some 40, Op.load 25 (Operand.tmp 39), 25, _, _, none⟩) (v := .slice a5 h1.length c5) rfl (by kernel_rfl) (by kernel_rfl) (by kernel_rfl) (fun _ _ _ h => h) (Or.inl ⟨by rfl, fun w hS => by obtain ⟨hS1, hS2, hS3⟩ := hS; go_simp⟩) hHeld ?_
    simp only [Act.put, List.setIfInBounds_toArray, List.set_cons_zero, List.set_cons_succ]
    refine wpAnyH_take (i := 4) (oi := ⟨some 41, Op.fieldAddr 62 (Operand.tmp 3) 0, 0, _, _, none⟩) (v := .pointer (some ⟨w.heap.size, 0, none⟩)) rfl (by kernel_rfl) (by kernel_rfl) (by kernel_rfl) (fun _ _ _ h => h) (Or.inl ⟨by rfl, fun w hS => by obtain ⟨hS1, hS2, hS3⟩ := hS; go_simp⟩) hHeld ?_
    simp only [Act.put, List.setIfInBounds_toArray, List.set_cons_zero, List.set_cons_succ]
    refine wpAnyH_take (i := 5) (oi := ⟨some 42, Op.load 51 (Operand.tmp 41), 51, _, _, none⟩) (v := .agg (bytesA 32 v.id.f)) rfl (by kernel_rfl) (by kernel_rfl) (by kernel_rfl) (fun _ _ _ h => h) (yieldsIf_ld (by rfl) (Operand.tmp 41) 51 rfl w.heap.size 0 rfl (bytesA 32 v.id.f) _ Tryz.underlying51 rfl (size36A _) fun w hS => hS.2.1) hHeld ?_
    simp only [Act.put, List.setIfInBounds_toArray, List.set_cons_zero, List.set_cons_succ]
    refine wpAnyH_ready (rs := [6]) (by kernel_rfl) (by simp) ?_
    refine AllReadyH.cons (o := ⟨some 43, Op.call { callee := Callee.value (Operand.func 88), args := #[Operand.tmp 40, Operand.tmp 42, Operand.func 75], argTypes := #[25, 51, 158] }, 180, _, _, none⟩) rfl (fun K hK => ?_) AllReadyH.nil
    rw [if_pos (by rfl)]
    have hrw : HRow w6.drew (.slice a5 h1.length c5) h1 := Hv6.out ▸ (HD6.out.drew.oh.row : HRow w6.drew v6 h1)
    have hbs := bsearch_any _ h1 v.id w6.drew hrw HInc.out (by have := HIl.out; omega)
    clear hrw
    refine wp_callF 88 _ _ rfl Tryz.in88 #[.slice a5 h1.length c5, .agg (bytesA 32 v.id.f), .func (.func 75) #[] #[]] (by simp [Act.eval]) (fun u wx => ∃ (i : Nat) (fd : Bool), u = .tuple #[.int .i64 (i : Int), .bool fd] ∧ InsOk h1 i v.id h2 ∧ Below w6.drew.heap.size w6.drew wx) (hbs.mono fun e w' ⟨i, fd, h1, h2, h3, h4, _, h6⟩ => ⟨_, h1, i, fd, rfl, HI2.out i h2 h3 h4, h6⟩) ?_
    clear hbs
    rintro _ w7 ⟨i2, fd, rfl, hi2, hb7⟩
    have HI2' := Keep.mk hi2
    have B7 : Keep (Below w6.heap.size w6 w7) := ⟨belowT (Below.refl _ w6).drew hb7⟩
    have HX7 := Keep.mk (HX6.out.below B7.out HX6.out.lt)
    have HD7 := Keep.mk (HD6.out.below B7.out)
    have G7 : Keep (Grown w w7 (DgS d g)) := ⟨G6.out.trans (Grown.below B7.out)⟩
    refine hK _ _ ⟨by have h := HD7.out.blk.c 2 (by rfl : (dgA { { { g with held := g.held ++ [v] } with ov := v4, order := o' } with hv := v6, heads := h1 })[2]? = some v6); rw [Hv6.out] at h; exact h, vtx_rng (hvv.out ▸ HX7.out), blk_rng HX7.out⟩ fun hH1 => ?_
    clear hK hi2 hb7 HX6 HD6 G6 B7 hS0
    simp only [Act.put, List.setIfInBounds_toArray, List.set_cons_zero, List.set_cons_succ]
    refine wpAnyH_take (i := 7) (oi := ⟨some 36, Op.move (Operand.tmp 43), 180, _, _, none⟩) (v := .tuple #[.int .i64 (i2 : Int), .bool fd]) rfl (by kernel_rfl) (by kernel_rfl) (by kernel_rfl) (fun _ _ _ h => h) (Or.inl ⟨by rfl, fun w hS => by obtain ⟨hS1, hS2, hS3⟩ := hS; go_simp⟩) hH1 ?_
    simp only [Act.put, List.setIfInBounds_toArray, List.set_cons_zero, List.set_cons_succ]
    refine wpAnyH_take (i := 8) (oi := ⟨some 44, Op.extract (Operand.tmp 36) 0, 3, _, _, none⟩) (v := .int .i64 (i2 : Int)) rfl (by kernel_rfl) (by kernel_rfl) (by kernel_rfl) (fun _ _ _ h => h) (Or.inl ⟨by rfl, fun w hS => by obtain ⟨hS1, hS2, hS3⟩ := hS; go_simp⟩) hH1 ?_
    simp only [Act.put, List.setIfInBounds_toArray, List.set_cons_zero, List.set_cons_succ]
    refine wpAnyH_take (i := 9) (oi := ⟨some 45, Op.extract (Operand.tmp 36) 1, 4, _, _, none⟩) (v := .bool fd) rfl (by kernel_rfl) (by kernel_rfl) (by kernel_rfl) (fun _ _ _ h => h) (Or.inl ⟨by rfl, fun w hS => by obtain ⟨hS1, hS2, hS3⟩ := hS; go_simp⟩) hH1 ?_
    simp only [Act.put, List.setIfInBounds_toArray, List.set_cons_zero, List.set_cons_succ]
    refine wpAnyH_take (i := 10) (oi := ⟨some 4, Op.assign (Operand.tmp 44), 3, _, _, none⟩) (v := .int .i64 (i2 : Int)) rfl (by kernel_rfl) (by kernel_rfl) (by kernel_rfl) (fun _ _ _ h => h) (Or.inl ⟨by rfl, fun w hS => by obtain ⟨hS1, hS2, hS3⟩ := hS; go_simp⟩) hH1 ?_
    simp only [Act.put, List.setIfInBounds_toArray, List.set_cons_zero, List.set_cons_succ]
    refine wpAnyH_take (i := 11) (oi := ⟨some 5, Op.assign (Operand.tmp 45), 4, _, _, none⟩) (v := .bool fd) rfl (by kernel_rfl) (by kernel_rfl) (by kernel_rfl) (fun _ _ _ h => h) (Or.inl ⟨by rfl, fun w hS => by obtain ⟨hS1, hS2, hS3⟩ := hS; go_simp⟩) hH1 ?_
    simp only [Act.put, List.setIfInBounds_toArray, List.set_cons_zero, List.set_cons_succ]
    refine wpAnyH_done (by kernel_rfl) ?_ _
    refine hK7 _ _ ?_
    have c5k : Keep (∀ wx, Below w7.heap.size w7 wx → (fun wx => True ∧ wx.rangeAt w.heap.size 0 (bytesA 32 v.id.f).toList ∧ wx.rangeAt w.heap.size 0 vv.toList) wx) := ⟨fun wx hb => ⟨trivial, vtx_rng (hvv.out ▸ HX7.out.below hb HX7.out.lt), blk_rng (HX7.out.below hb HX7.out.lt)⟩⟩
    have B2 : Keep (Below w7.heap.size w7 w7.drew) := ⟨(Below.refl _ _).drew⟩
    refine wp_region_held_drew (S := fun wx => True ∧ wx.rangeAt w.heap.size 0 (bytesA 32 v.id.f).toList ∧ wx.rangeAt w.heap.size 0 vv.toList) (by kernel_rfl) (c5k.out _ B2.out) (fun hHeld => ?_)
    refine wpAnyH_take (i := 0) (oi := ⟨some 46, Op.move (Operand.tmp 0), 42, _, _, none⟩) (v := .pointer (some ⟨d, 0, none⟩)) rfl (by kernel_rfl) (by kernel_rfl) (by kernel_rfl) (fun _ _ _ h => h) (Or.inl ⟨by rfl, fun w hS => by obtain ⟨hS1, hS2, hS3⟩ := hS; go_simp⟩) hHeld ?_
    simp only [Act.put, List.setIfInBounds_toArray, List.set_cons_zero, List.set_cons_succ]
    refine wpAnyH_take (i := 1) (oi := ⟨some 47, Op.move (Operand.tmp 0), 42, _, _, none⟩) (v := .pointer (some ⟨d, 0, none⟩)) rfl (by kernel_rfl) (by kernel_rfl) (by kernel_rfl) (fun _ _ _ h => h) (Or.inl ⟨by rfl, fun w hS => by obtain ⟨hS1, hS2, hS3⟩ := hS; go_simp⟩) hHeld ?_
    simp only [Act.put, List.setIfInBounds_toArray, List.set_cons_zero, List.set_cons_succ]
    refine wpAnyH_take (i := 2) (oi := ⟨some 48, Op.nilCheck (Operand.tmp 47), 0, _, _, none⟩) (v := .pointer (some ⟨d, 0, none⟩)) rfl (by kernel_rfl) (by kernel_rfl) (by kernel_rfl) (fun _ _ _ h => h) (Or.inl ⟨by rfl, fun w hS => by obtain ⟨hS1, hS2, hS3⟩ := hS; go_simp⟩) hHeld ?_
    simp only [Act.put, List.setIfInBounds_toArray, List.set_cons_zero, List.set_cons_succ]
    refine wpAnyH_take (i := 3) (oi := ⟨some 49, Op.fieldAddr 71 (Operand.tmp 48) 2, 0, _, _, none⟩) (v := .pointer (some ⟨d, 2, none⟩)) rfl (by kernel_rfl) (by kernel_rfl) (by kernel_rfl) (fun _ _ _ h => h) (Or.inl ⟨by rfl, fun w hS => by obtain ⟨hS1, hS2, hS3⟩ := hS; go_simp⟩) hHeld ?_
    simp only [Act.put, List.setIfInBounds_toArray, List.set_cons_zero, List.set_cons_succ]
    refine wpAnyH_take (i := 5) (oi := ⟨some 51, Op.move (Operand.tmp 4), 3, _, _, none⟩) (v := .int .i64 (i2 : Int)) rfl (by kernel_rfl) (by kernel_rfl) (by kernel_rfl) (fun _ _ _ h => h) (Or.inl ⟨by rfl, fun w hS => by obtain ⟨hS1, hS2, hS3⟩ := hS; go_simp⟩) hHeld ?_
    simp only [Act.put, List.setIfInBounds_toArray, List.set_cons_zero, List.set_cons_succ]
    refine wpAnyH_take (i := 6) (oi := ⟨some 52, Op.fieldAddr 62 (Operand.tmp 3) 0, 0, _, _, none⟩) (v := .pointer (some ⟨w.heap.size, 0, none⟩)) rfl (by kernel_rfl) (by kernel_rfl) (by kernel_rfl) (fun _ _ _ h => h) (Or.inl ⟨by rfl, fun w hS => by obtain ⟨hS1, hS2, hS3⟩ := hS; go_simp⟩) hHeld ?_
    simp only [Act.put, List.setIfInBounds_toArray, List.set_cons_zero, List.set_cons_succ]
    refine wpAnyH_take (i := 7) (oi := ⟨some 53, Op.load 51 (Operand.tmp 52), 51, _, _, none⟩) (v := .agg (bytesA 32 v.id.f)) rfl (by kernel_rfl) (by kernel_rfl) (by kernel_rfl) (fun _ _ _ h => h) (yieldsIf_ld (by rfl) (Operand.tmp 52) 51 rfl w.heap.size 0 rfl (bytesA 32 v.id.f) _ Tryz.underlying51 rfl (size36A _) fun w hS => hS.2.1) hHeld ?_
    simp only [Act.put, List.setIfInBounds_toArray, List.set_cons_zero, List.set_cons_succ]
    refine wpAnyH_ready (rs := [4, 8]) (by kernel_rfl) (by simp) ?_
    refine AllReadyH.cons (o := ⟨some 50, Op.load 25 (Operand.tmp 49), 25, _, _, none⟩) rfl (fun K hK => ?_) (AllReadyH.cons (o := ⟨some 54, Op.buildSlice 25 1 #[(0, Operand.tmp 53)], 25, _, _, none⟩) rfl (fun K hK => ?_) AllReadyH.nil)
    rw [if_pos (by rfl)]
    have c_o : w7.drew.cell? ⟨d, 2, none⟩ = some (.slice a5 h1.length c5) := by have h := (HD7.out.blk.below B2.out HD7.out.blk.lt).c 2 (by rfl : (dgA { { { g with held := g.held ++ [v] } with ov := v4, order := o' } with hv := v6, heads := h1 })[2]? = some v6); rw [Hv6.out] at h; exact h
    refine wp_val (.slice a5 h1.length c5) (by go_simp) ?_
    clear c_o
    refine hK _ _ (c5k.out _ B2.out) fun hR1 => ?_
    clear hK
    simp only [Act.put, List.setIfInBounds_toArray, List.set_cons_zero, List.set_cons_succ]
    refine wpAnyH_ready (rs := [8]) (by kernel_rfl) (by simp) ?_
    refine AllReadyH.cons (o := ⟨some 54, Op.buildSlice 25 1 #[(0, Operand.tmp 53)], 25, _, _, none⟩) rfl (fun K hK => ?_) AllReadyH.nil
    rw [if_pos (by rfl)]
    refine wp_bs 25 1 _ rfl #[(0, .agg (bytesA 32 v.id.f))] (by simp [Act.eval]) _ _ (bsH v.id _) ?_
    have HGy := Keep.mk (Blk.new w7.drew 51 (bytesA 32 v.id.f))
    have BB2 := Keep.mk (belowT B2.out (below_new w7.drew (.cells (bytesA 32 v.id.f) 51)))
    have Lgy : Keep (w7.heap.size ≤ w7.drew.heap.size) := ⟨B2.out.size⟩
    generalize w7.drew.alloc (.cells (bytesA 32 v.id.f) 51) = wb2 at *
    generalize w7.drew.heap.size = gy at *
    refine hK _ _ (c5k.out _ BB2.out) fun hR2 => ?_
    clear hK
    simp only [Act.put, List.setIfInBounds_toArray, List.set_cons_zero, List.set_cons_succ]
    refine wpAnyH_ready (rs := [9]) (by kernel_rfl) (by simp) ?_
    refine AllReadyH.cons (o := ⟨some 55, Op.call { callee := Callee.value (Operand.func 83), args := #[Operand.tmp 50, Operand.tmp 51, Operand.tmp 54], argTypes := #[25, 3, 25] }, 25, _, _, none⟩) rfl (fun K hK => ?_) AllReadyH.nil
    rw [if_pos (by rfl)]
    refine wp_callF 83 _ _ rfl Tryz.in83 #[.slice a5 h1.length c5, .int .i64 (i2 : Int), .slice (some ⟨gy, 0, none⟩) 1 1] (by simp [Act.eval]) (fun u wx => NewL wb2 wx (.slice a5 h1.length c5) u h2) ((HI2'.out _ gy wb2 (Hv6.out ▸ (HD7.out.below BB2.out).oh) HGy.out fun e => by have := (HD7.out.oh).lt gy (by show v6.ownBlock = _; rw [Hv6.out]; exact e); have := Lgy.out; omega)) ?_
    rintro v8 w8 h8
    have HN8 := Keep.mk h8
    have HX8 := Keep.mk (h8.2.1.blk (HX7.out.below BB2.out HX7.out.lt) fun e => by have := (((HD7.out.below BB2.out).oh).typ (by show v6.ownBlock = _; rw [Hv6.out]; exact e)).one (HX7.out.below BB2.out HX7.out.lt).typ; revert this; decide)
    have HB8 := Keep.mk (h8.2.1.blk (HD7.out.below BB2.out).blk fun e => by have := (((HD7.out.below BB2.out).oh).typ (by show v6.ownBlock = _; rw [Hv6.out]; exact e)).one (HD7.out.below BB2.out).blk.typ; revert this; decide)
    refine hK _ _ ⟨trivial, vtx_rng (hvv.out ▸ HX8.out), blk_rng HX8.out⟩ fun hH5 => ?_
    obtain ⟨a8, c8, e8⟩ := h8.1.sl
    subst e8
    clear hK h8
    simp only [Act.put, List.setIfInBounds_toArray, List.set_cons_zero, List.set_cons_succ]
    refine wpAnyH_take (i := 10) (oi := ⟨some 56, Op.nilCheck (Operand.tmp 46), 0, _, _, none⟩) (v := .pointer (some ⟨d, 0, none⟩)) rfl (by kernel_rfl) (by kernel_rfl) (by kernel_rfl) (fun _ _ _ h => h) (Or.inl ⟨by rfl, fun w hS => by obtain ⟨hS1, hS2, hS3⟩ := hS; go_simp⟩) hH5 ?_
    simp only [Act.put, List.setIfInBounds_toArray, List.set_cons_zero, List.set_cons_succ]
    refine wpAnyH_take (i := 11) (oi := ⟨some 57, Op.fieldAddr 71 (Operand.tmp 56) 2, 0, _, _, none⟩) (v := .pointer (some ⟨d, 2, none⟩)) rfl (by kernel_rfl) (by kernel_rfl) (by kernel_rfl) (fun _ _ _ h => h) (Or.inl ⟨by rfl, fun w hS => by obtain ⟨hS1, hS2, hS3⟩ := hS; go_simp⟩) hH5 ?_
    simp only [Act.put, List.setIfInBounds_toArray, List.set_cons_zero, List.set_cons_succ]
    refine wpAnyH_ready (rs := [12]) (by kernel_rfl) (by simp) ?_
    refine AllReadyH.cons (o := ⟨none, Op.store 25 (Operand.tmp 57) (Operand.tmp 55), 0, _, _, none⟩) rfl (fun K hK => ?_) AllReadyH.nil
    rw [if_pos (by rfl)]
    have f_o := HB8.out.frozen 2
    have c_o : w8.cell? ⟨d, 2, none⟩ = some (.slice a5 h1.length c5) := by have h := HB8.out.c 2 (by rfl : (dgA { { { g with held := g.held ++ [v] } with ov := v4, order := o' } with hv := v6, heads := h1 })[2]? = some v6); rw [Hv6.out] at h; exact h
    refine wp_cellS (w8.setCell ⟨d, 2, none⟩ (.slice a8 h2.length c8)) (by go_simp) ?_
    clear f_o c_o
    have HD9 := Keep.mk ((HD7.out.below BB2.out).setH HN8.out.1 (by show Grown _ _ fun k => v6.ownBlock = some k; rw [Hv6.out]; exact HN8.out.2.1) (by show Moved _ v6 _; rw [Hv6.out]; exact HN8.out.2.2))
    have HX9 := Keep.mk (HX8.out.set_ne (b' := d) (j := 2) (fun e => by subst e; have := HX8.out.typ.one HB8.out.typ; revert this; decide) (.slice a8 h2.length c8))
    have G9 : Keep (Grown w (w8.setCell ⟨d, 2, none⟩ (.slice a8 h2.length c8)) (DgS d g)) := ⟨((G7.out.trans (Grown.below BB2.out)).next HN8.out.2.1 fun i hi e => by rw [← Hv6.out] at e; exact (M6.out.elim (fun h => .inr (.inr (.inr (.inl (by rw [← h]; exact e))))) fun ⟨q, h, hq⟩ => by rw [e] at h; have := Option.some.inj h; omega)).next (Grown.setCell w8 d 2 _ (S := fun k => k = d) fun _ => rfl) fun i _ e => .inl e⟩
    have M8 : Keep (Moved w v6 (.slice a8 h2.length c8)) := ⟨by rw [Hv6.out]; exact HN8.out.2.2.imp id fun ⟨q, e, h⟩ => ⟨q, e, Nat.le_trans G7.out.size (Nat.le_trans BB2.out.size h)⟩⟩
    generalize w8.setCell ⟨d, 2, none⟩ (.slice a8 h2.length c8) = w9 at *
    obtain ⟨v9, hv9⟩ : ∃ u : Value, u = .slice a8 h2.length c8 := ⟨_, rfl⟩
    rw [← hv9] at HD9 M8
    refine hK _ _ ⟨trivial, vtx_rng (hvv.out ▸ HX9.out), blk_rng HX9.out⟩ fun hH6 => ?_
    clear hK hH5 hH6 HB8 HX8 HN8 c5k hv9
    simp only [Act.put, List.setIfInBounds_toArray, List.set_cons_zero, List.set_cons_succ]
    refine wpAnyH_done (by kernel_rfl) ?_ _
    rotate_left
    rw [if_pos (by rfl)]
    refine wp_bs 25 1 _ rfl #[(0, .agg (bytesA 32 v.id.f))] (by simp [Act.eval]) _ _ (bsH v.id _) ?_
    have HGy := Keep.mk (Blk.new w7.drew 51 (bytesA 32 v.id.f))
    have BB1 := Keep.mk (belowT B2.out (below_new w7.drew (.cells (bytesA 32 v.id.f) 51)))
    have Lgy : Keep (w7.heap.size ≤ w7.drew.heap.size) := ⟨B2.out.size⟩
    generalize w7.drew.alloc (.cells (bytesA 32 v.id.f) 51) = wb1 at *
    generalize w7.drew.heap.size = gy at *
    refine hK _ _ (c5k.out _ BB1.out) fun hR1 => ?_
    clear hK
    simp only [Act.put, List.setIfInBounds_toArray, List.set_cons_zero, List.set_cons_succ]
    refine wpAnyH_ready (rs := [4]) (by kernel_rfl) (by simp) ?_
    refine AllReadyH.cons (o := ⟨some 50, Op.load 25 (Operand.tmp 49), 25, _, _, none⟩) rfl (fun K hK => ?_) AllReadyH.nil
    rw [if_pos (by rfl)]
    have c_o : wb1.cell? ⟨d, 2, none⟩ = some (.slice a5 h1.length c5) := by have h := (HD7.out.blk.below BB1.out HD7.out.blk.lt).c 2 (by rfl : (dgA { { { g with held := g.held ++ [v] } with ov := v4, order := o' } with hv := v6, heads := h1 })[2]? = some v6); rw [Hv6.out] at h; exact h
    refine wp_val (.slice a5 h1.length c5) (by go_simp) ?_
    clear c_o
    refine hK _ _ (c5k.out _ BB1.out) fun hR2 => ?_
    clear hK
    simp only [Act.put, List.setIfInBounds_toArray, List.set_cons_zero, List.set_cons_succ]
    refine wpAnyH_ready (rs := [9]) (by kernel_rfl) (by simp) ?_
    refine AllReadyH.cons (o := ⟨some 55, Op.call { callee := Callee.value (Operand.func 83), args := #[Operand.tmp 50, Operand.tmp 51, Operand.tmp 54], argTypes := #[25, 3, 25] }, 25, _, _, none⟩) rfl (fun K hK => ?_) AllReadyH.nil
    rw [if_pos (by rfl)]
    refine wp_callF 83 _ _ rfl Tryz.in83 #[.slice a5 h1.length c5, .int .i64 (i2 : Int), .slice (some ⟨gy, 0, none⟩) 1 1] (by simp [Act.eval]) (fun u wx => NewL wb1 wx (.slice a5 h1.length c5) u h2) ((HI2'.out _ gy wb1 (Hv6.out ▸ (HD7.out.below BB1.out).oh) HGy.out fun e => by have := (HD7.out.oh).lt gy (by show v6.ownBlock = _; rw [Hv6.out]; exact e); have := Lgy.out; omega)) ?_
    rintro v8 w8 h8
    have HN8 := Keep.mk h8
    have HX8 := Keep.mk (h8.2.1.blk (HX7.out.below BB1.out HX7.out.lt) fun e => by have := (((HD7.out.below BB1.out).oh).typ (by show v6.ownBlock = _; rw [Hv6.out]; exact e)).one (HX7.out.below BB1.out HX7.out.lt).typ; revert this; decide)
    have HB8 := Keep.mk (h8.2.1.blk (HD7.out.below BB1.out).blk fun e => by have := (((HD7.out.below BB1.out).oh).typ (by show v6.ownBlock = _; rw [Hv6.out]; exact e)).one (HD7.out.below BB1.out).blk.typ; revert this; decide)
    refine hK _ _ ⟨trivial, vtx_rng (hvv.out ▸ HX8.out), blk_rng HX8.out⟩ fun hH5 => ?_
    obtain ⟨a8, c8, e8⟩ := h8.1.sl
    subst e8
    clear hK h8
    simp only [Act.put, List.setIfInBounds_toArray, List.set_cons_zero, List.set_cons_succ]
    refine wpAnyH_take (i := 10) (oi := ⟨some 56, Op.nilCheck (Operand.tmp 46), 0, _, _, none⟩) (v := .pointer (some ⟨d, 0, none⟩)) rfl (by kernel_rfl) (by kernel_rfl) (by kernel_rfl) (fun _ _ _ h => h) (Or.inl ⟨by rfl, fun w hS => by obtain ⟨hS1, hS2, hS3⟩ := hS; go_simp⟩) hH5 ?_
    simp only [Act.put, List.setIfInBounds_toArray, List.set_cons_zero, List.set_cons_succ]
    refine wpAnyH_take (i := 11) (oi := ⟨some 57, Op.fieldAddr 71 (Operand.tmp 56) 2, 0, _, _, none⟩) (v := .pointer (some ⟨d, 2, none⟩)) rfl (by kernel_rfl) (by kernel_rfl) (by kernel_rfl) (fun _ _ _ h => h) (Or.inl ⟨by rfl, fun w hS => by obtain ⟨hS1, hS2, hS3⟩ := hS; go_simp⟩) hH5 ?_
    simp only [Act.put, List.setIfInBounds_toArray, List.set_cons_zero, List.set_cons_succ]
    refine wpAnyH_ready (rs := [12]) (by kernel_rfl) (by simp) ?_
    refine AllReadyH.cons (o := ⟨none, Op.store 25 (Operand.tmp 57) (Operand.tmp 55), 0, _, _, none⟩) rfl (fun K hK => ?_) AllReadyH.nil
    rw [if_pos (by rfl)]
    have f_o := HB8.out.frozen 2
    have c_o : w8.cell? ⟨d, 2, none⟩ = some (.slice a5 h1.length c5) := by have h := HB8.out.c 2 (by rfl : (dgA { { { g with held := g.held ++ [v] } with ov := v4, order := o' } with hv := v6, heads := h1 })[2]? = some v6); rw [Hv6.out] at h; exact h
    refine wp_cellS (w8.setCell ⟨d, 2, none⟩ (.slice a8 h2.length c8)) (by go_simp) ?_
    clear f_o c_o
    have HD9 := Keep.mk ((HD7.out.below BB1.out).setH HN8.out.1 (by show Grown _ _ fun k => v6.ownBlock = some k; rw [Hv6.out]; exact HN8.out.2.1) (by show Moved _ v6 _; rw [Hv6.out]; exact HN8.out.2.2))
    have HX9 := Keep.mk (HX8.out.set_ne (b' := d) (j := 2) (fun e => by subst e; have := HX8.out.typ.one HB8.out.typ; revert this; decide) (.slice a8 h2.length c8))
    have G9 : Keep (Grown w (w8.setCell ⟨d, 2, none⟩ (.slice a8 h2.length c8)) (DgS d g)) := ⟨((G7.out.trans (Grown.below BB1.out)).next HN8.out.2.1 fun i hi e => by rw [← Hv6.out] at e; exact (M6.out.elim (fun h => .inr (.inr (.inr (.inl (by rw [← h]; exact e))))) fun ⟨q, h, hq⟩ => by rw [e] at h; have := Option.some.inj h; omega)).next (Grown.setCell w8 d 2 _ (S := fun k => k = d) fun _ => rfl) fun i _ e => .inl e⟩
    have M8 : Keep (Moved w v6 (.slice a8 h2.length c8)) := ⟨by rw [Hv6.out]; exact HN8.out.2.2.imp id fun ⟨q, e, h⟩ => ⟨q, e, Nat.le_trans G7.out.size (Nat.le_trans BB1.out.size h)⟩⟩
    generalize w8.setCell ⟨d, 2, none⟩ (.slice a8 h2.length c8) = w9 at *
    obtain ⟨v9, hv9⟩ : ∃ u : Value, u = .slice a8 h2.length c8 := ⟨_, rfl⟩
    rw [← hv9] at HD9 M8
    refine hK _ _ ⟨trivial, vtx_rng (hvv.out ▸ HX9.out), blk_rng HX9.out⟩ fun hH6 => ?_
    clear hK hH5 hH6 HB8 HX8 HN8 c5k hv9
    simp only [Act.put, List.setIfInBounds_toArray, List.set_cons_zero, List.set_cons_succ]
    refine wpAnyH_done (by kernel_rfl) ?_ _
    rotate_left
    all_goals
      go_end0
      exact ⟨rfl, _, take_end HD.out HD9.out (fun k h => .inl (.inl (.inl h))) G9.out M4.out M6.out M8.out, rfl, rfl, rfl, rfl, rfl, rfl⟩
theorem insOk_end (l : List Hs) (y : Hs) (hL : l.length ≤ 1000000000000) : InsOk l l.length y (l ++ [y]) := fun v gx w h1 h2 _ => ins_end v l gx y w h1 h2 hL
theorem delOk_nil (x : VX) : DelOk [] x [] := fun v p b w h1 h2 h3 h4 => by
  obtain ⟨pa, pc, rfl⟩ := h1.sl
  refine (df_nil pa pc _ w).mono ?_
  rintro e w' ⟨rfl, rfl⟩
  exact ⟨_, rfl, h1, Grown.refl _ _, .inl rfl⟩
theorem take_nil (d : Nat) (v : VX) (p : Value) (Av : Nat → Prop) (g : DG) (w : World) (hD : DagAt w Av d g) (hr : HRow w p v.ps) (hk : ∀ k, p.ownBlock = some k → k < w.heap.size ∧ ¬ Av k) (hF : g.held = []) (ho : g.order = []) (hh : g.heads = []) :
    Calls Tryz.prog 62 #[ptr d, .agg (vtx v.id.f v.ck p)] w fun e w' => e = .returned (.tuple #[]) ∧ ∃ g', Ste w w' Av d g g' ∧ g'.room = g.room ∧ g'.held = g.held ++ [v] ∧ g'.wait = g.wait ∧ g'.queue = g.queue ∧ g'.order = [v.id] ∧ g'.heads = [v.id] := by
  refine take_gen d v p Av g w 0 [v.id] [] [v.id] hD hr hk (by rw [hF]; rfl) (fun w1 Av1 p1 g1 h1 h2 _ => place_nil d v p1 Av1 g1 w1 h1 (h2.trans ho)) (by rw [ho]; exact insOk_end [] v.id (by simp)) (by rw [hh]; exact delOk_nil v) (fun i j _ h => by simp at h) (by simp) fun i hi _ _ => ?_
  obtain rfl : i = 0 := by simpa using hi
  exact insOk_end [] v.id (by simp)
set_option maxRecDepth 8000 in
set_option maxHeartbeats 1000000 in
theorem add_took (d : Nat) (v : VX) (p : Value) (Av : Nat → Prop) (g : DG) (w : World) (X : DG → Prop) (hD : DagAt w Av d g) (hr : HRow w p v.ps) (hM : ∀ v ∈ g.held, 0 ≤ v.ck ∧ v.ck ≤ 4096) (hL : (v.ps.length : Int) ≤ 9223372036854775806) (hL2 : v.ps.length ≤ 4398046511104) (hFt : fitV g.held g.wait v = (2, 0))
    (hT : ∀ (w1 : World) (p1 : Value), DagAt w1 Av d g → HRow w1 p1 v.ps → (∀ k, p1.ownBlock = some k → k < w1.heap.size ∧ ¬ Av k) → Calls Tryz.prog 62 #[ptr d, .agg (vtx v.id.f v.ck p1)] w1 fun e w' => e = .returned (.tuple #[]) ∧ ∃ g', Ste w1 w' Av d g g' ∧ X g') :
    Calls Tryz.prog 39 #[ptr d, .agg (vtx v.id.f v.ck p)] w fun e w' => e = .returned (.tuple #[.int .i64 2, .slice none 0 0, .int .i64 0]) ∧ ∃ g', Ste w w' Av d g g' ∧ X g' := by
  obtain ⟨pa, pc, rfl⟩ := hr.form
  obtain ⟨vv, hvv⟩ : ∃ a : Array Value, Keep (a = vtx v.id.f v.ck (.slice pa v.ps.length pc)) := ⟨_, ⟨rfl⟩⟩
  rw [← hvv.out]
  have HD := Keep.mk hD
  have HR := Keep.mk hr
  have HM := Keep.mk hM
  have HL := Keep.mk hL
  have HL2 := Keep.mk hL2
  have HFt := Keep.mk hFt
  have HT := Keep.mk hT
  clear hD hr hM hL hL2 hFt hT
  go_enter Tryz.func39, Tryz.ntmps39
  refine wp_seq_k fun K1 hK1 => ?_
  refine wp_region_list (WL.out ?_)
  refine WL.box (by kernel_rfl) 62 (.tmp 1) rfl (vv) rfl ?_
  obtain ⟨w1, hwn⟩ : ∃ wx, Keep (wx = w.alloc (.cells (vv) 62)) := ⟨_, ⟨rfl⟩⟩
  rw [← hwn.out]
  have HX1 : Keep (Blk w1 w.heap.size 62 (vv)) := ⟨by rw [hwn.out]; exact Blk.new _ _ _⟩
  have LB1 : Keep (Below w.heap.size w w1) := ⟨by rw [hwn.out]; exact below_new _ _⟩
  clear hwn
  have HD1 := Keep.mk (HD.out.below LB1.out)
  have HR1 := Keep.mk (HR.out.below LB1.out)
  simp only [Act.put, List.setIfInBounds_toArray, List.set_cons_zero, List.set_cons_succ]
  refine WL.val (by kernel_rfl) (.int .i64 0) (by go_simp) ?_
  simp only [Act.put, List.setIfInBounds_toArray, List.set_cons_zero, List.set_cons_succ]
  refine WL.val (by kernel_rfl) (.slice none 0 0) (by go_simp) ?_
  simp only [Act.put, List.setIfInBounds_toArray, List.set_cons_zero, List.set_cons_succ]
  refine WL.val (by kernel_rfl) (.int .i64 0) (by go_simp) ?_
  simp only [Act.put, List.setIfInBounds_toArray, List.set_cons_zero, List.set_cons_succ]
  refine WL.nil ?_
  refine hK1 _ _ ?_
  refine wp_seq_k fun K2 hK2 => ?_
  refine wp_region_list (WL.out ?_)
  refine WL.val (by kernel_rfl) (.pointer (some ⟨d, 0, none⟩)) (by go_simp) ?_
  simp only [Act.put, List.setIfInBounds_toArray, List.set_cons_zero, List.set_cons_succ]
  refine WL.row (by kernel_rfl) 62 (.tmp 3) rfl w.heap.size rfl 62 vv _ HX1.out Tryz.underlying62 rfl (by rw [hvv.out]; exact Tryz.info62s _ _ _) ?_
  simp only [Act.put, List.setIfInBounds_toArray, List.set_cons_zero, List.set_cons_succ]
  have hft := fit_any d v _ Av g w1 HD1.out HR1.out HM.out HL.out
  rw [← hvv.out, HFt.out] at hft
  refine WL.callF (by kernel_rfl) 21 _ _ rfl Tryz.in21 #[ptr d, .agg vv] (by simp [Act.eval]) ?_
  refine (hft).mono ?_
  rintro e w2 ⟨rfl, hz⟩
  refine ⟨_, rfl, ?_⟩
  clear hft
  have HX2 := Keep.mk (HX1.out.below hz HX1.out.lt)
  have LB2 := Keep.mk (belowT LB1.out hz)
  have HD2 := Keep.mk (HD1.out.below hz)
  have HR2 := Keep.mk (HR1.out.below hz)
  clear hz HX1 HD1 HR1
  simp only [Act.put, List.setIfInBounds_toArray, List.set_cons_zero, List.set_cons_succ]
  refine WL.val (by kernel_rfl) (.tuple #[.int .i64 2, .int .i64 0]) (by go_simp) ?_
  simp only [Act.put, List.setIfInBounds_toArray, List.set_cons_zero, List.set_cons_succ]
  refine WL.val (by kernel_rfl) (.int .i64 2) (by go_simp) ?_
  simp only [Act.put, List.setIfInBounds_toArray, List.set_cons_zero, List.set_cons_succ]
  refine WL.val (by kernel_rfl) (.int .i64 0) (by go_simp) ?_
  simp only [Act.put, List.setIfInBounds_toArray, List.set_cons_zero, List.set_cons_succ]
  refine WL.val (by kernel_rfl) (.int .i64 2) (by go_simp) ?_
  simp only [Act.put, List.setIfInBounds_toArray, List.set_cons_zero, List.set_cons_succ]
  refine WL.val (by kernel_rfl) (.int .i64 0) (by go_simp) ?_
  simp only [Act.put, List.setIfInBounds_toArray, List.set_cons_zero, List.set_cons_succ]
  refine WL.nil ?_
  refine hK2 _ _ ?_
  refine wp_seq_k fun K3 hK3 => ?_
  refine wp_seq_k fun K4 hK4 => ?_
  refine wp_region_list (WL.out ?_)
  refine WL.val (by kernel_rfl) (.int .i64 2) (by go_simp) ?_
  simp only [Act.put, List.setIfInBounds_toArray, List.set_cons_zero, List.set_cons_succ]
  refine WL.nil ?_
  refine hK4 _ _ ?_
  refine wp_block ?_
  refine wp_seq_k fun K5 hK5 => ?_
  refine wp_region_list (WL.out ?_)
  refine WL.val (by kernel_rfl) (.bool true) (by go_simp) ?_
  simp only [Act.put, List.setIfInBounds_toArray, List.set_cons_zero, List.set_cons_succ]
  refine WL.val (by kernel_rfl) (.bool true) (by go_simp) ?_
  simp only [Act.put, List.setIfInBounds_toArray, List.set_cons_zero, List.set_cons_succ]
  refine WL.nil ?_
  refine hK5 _ _ ?_
  refine wp_cond_true rfl ?_
  refine wp_region_list (WL.out ?_)
  refine WL.val (by kernel_rfl) (.pointer (some ⟨d, 0, none⟩)) (by go_simp) ?_
  simp only [Act.put, List.setIfInBounds_toArray, List.set_cons_zero, List.set_cons_succ]
  refine WL.row (by kernel_rfl) 62 (.tmp 3) rfl w.heap.size rfl 62 vv _ HX2.out Tryz.underlying62 rfl (by rw [hvv.out]; exact Tryz.info62s _ _ _) ?_
  simp only [Act.put, List.setIfInBounds_toArray, List.set_cons_zero, List.set_cons_succ]
  have how := own_any v _ w2 HR2.out (by have := HL.out; have := HL2.out; omega)
  rw [← hvv.out] at how
  refine WL.callF (by kernel_rfl) 63 _ _ rfl Tryz.in63 #[.agg vv] (by simp [Act.eval]) ?_
  refine (how).mono ?_
  rintro e w3 ⟨p3, rfl, hf⟩
  refine ⟨_, rfl, ?_⟩
  clear how
  have HF3 := Keep.mk hf
  have HD3 := Keep.mk (HD2.out.below hf.bel)
  have LB3 := Keep.mk (belowT LB2.out hf.bel)
  obtain ⟨vq, hvq⟩ : ∃ a : Array Value, Keep (a = vtx v.id.f v.ck p3) := ⟨_, ⟨rfl⟩⟩
  rw [← hvq.out]
  clear hf HX2 HR2
  simp only [Act.put, List.setIfInBounds_toArray, List.set_cons_zero, List.set_cons_succ]
  have htk := HT.out w3 p3 HD3.out HF3.out.own.row fun k hk => ⟨HF3.out.own.lt k hk, fun ha => by have := HF3.out.new k hk; have := HD2.out.lt k ha; omega⟩
  rw [← hvq.out] at htk
  refine WL.callF (by kernel_rfl) 62 _ _ rfl Tryz.in62 #[ptr d, .agg vq] (by simp [Act.eval]) ?_
  refine (htk).mono ?_
  rintro e w4 ⟨rfl, g4, hs, hp⟩
  refine ⟨_, rfl, ?_⟩
  clear htk
  have HS4 := Keep.mk hs
  have HP4 := Keep.mk hp
  clear hs hp
  simp only [Act.put, List.setIfInBounds_toArray, List.set_cons_zero, List.set_cons_succ]
  refine WL.nil ?_
  refine hK3 _ _ ?_
  refine wp_seq_k fun K6 hK6 => ?_
  refine wp_region_list (WL.out ?_)
  refine WL.val (by kernel_rfl) (.int .i64 2) (by go_simp) ?_
  simp only [Act.put, List.setIfInBounds_toArray, List.set_cons_zero, List.set_cons_succ]
  refine WL.val (by kernel_rfl) (.slice none 0 0) (by go_simp) ?_
  simp only [Act.put, List.setIfInBounds_toArray, List.set_cons_zero, List.set_cons_succ]
  refine WL.val (by kernel_rfl) (.int .i64 0) (by go_simp) ?_
  simp only [Act.put, List.setIfInBounds_toArray, List.set_cons_zero, List.set_cons_succ]
  refine WL.val (by kernel_rfl) (.int .i64 2) (by go_simp) ?_
  simp only [Act.put, List.setIfInBounds_toArray, List.set_cons_zero, List.set_cons_succ]
  refine WL.val (by kernel_rfl) (.slice none 0 0) (by go_simp) ?_
  simp only [Act.put, List.setIfInBounds_toArray, List.set_cons_zero, List.set_cons_succ]
  refine WL.val (by kernel_rfl) (.int .i64 0) (by go_simp) ?_
  simp only [Act.put, List.setIfInBounds_toArray, List.set_cons_zero, List.set_cons_succ]
  refine WL.nil ?_
  refine hK6 _ _ ?_
  refine wp_ret ?_
  go_ret3
  exact ⟨rfl, g4, ⟨HS4.out.at', (Grown.below (S := DgS d g) LB3.out).trans HS4.out.grown, fun k hk => (HS4.out.sub k hk).imp id fun h => Nat.le_trans LB3.out.size h⟩, HP4.out⟩
theorem Tryz.in5 (w : World) (vs : Array Value) : (callFunc 5 vs).run Tryz.prog w = .ok (.enter 5 vs) w := by kernel_rfl
theorem Tryz.in9 (w : World) (vs : Array Value) : (callFunc 9 vs).run Tryz.prog w = .ok (.enter 9 vs) w := by kernel_rfl
theorem Tryz.in15 (w : World) (vs : Array Value) : (callFunc 15 vs).run Tryz.prog w = .ok (.enter 15 vs) w := by kernel_rfl
theorem Tryz.in12 (w : World) (vs : Array Value) : (callFunc 12 vs).run Tryz.prog w = .ok (.enter 12 vs) w := by kernel_rfl
theorem layUp_rng (s : Nat → Int) : ∀ t i, 0 ≤ Nd.Sh.layUp s t i ∧ Nd.Sh.layUp s t i < 256
  | 0, i => by simp [Nd.Sh.layUp]
  | t + 1, i => by
    have ih := layUp_rng s t i
    simp only [Nd.Sh.layUp, Nd.Sh.upd]
    repeat' split
    all_goals first | exact ih | omega
def shaH (l : List Int) : Hs := Vector.ofFn fun i : Fin 32 => UInt8.ofNat (Nd.Sh.shaP l i.val).toNat
theorem shaH_f (l : List Int) (i : Nat) (hi : i < 32) : (shaH l).f i = Nd.Sh.shaP l i := by
  have h : 0 ≤ Nd.Sh.shaP l i ∧ Nd.Sh.shaP l i < 256 := layUp_rng _ 8 i
  rw [Hs.f_get _ _ hi]
  simp only [shaH, Vector.getElem_ofFn]
  rw [UInt8.toNat_ofNat']
  omega
theorem shaH_b (l : List Int) : bytesA 32 (Nd.Sh.shaP l) = bytesA 32 (shaH l).f := by
  unfold bytesA
  congr 1
  funext i
  rw [shaH_f l i.val i.isLt]
theorem Tryz.mkm46 (w : World) : (Instr.makeMap 46 none).run Tryz.prog w = .ok (.map (some w.heap.size)) (w.alloc (.map #[] 0)) := rfl
structure ShAt (w : World) (s d mb : Nat) (g : DG) (Av : Nat → Prop) : Prop where
  bl : Blk w s 48 #[.iface 41 (.agg #[]), ptr d, .map (some mb), .bool false]
  mp : ∃ es ck, w.heap[mb]? = some (.map es ck)
  dg : DagAt w Av d g
  ns : ¬ DgS d g s ∧ ¬ DgS d g mb ∧ s ≠ mb
  av : Av s ∧ Av mb
theorem ShAt.below {w w' : World} {s d mb : Nat} {g : DG} {Av : Nat → Prop} (h : ShAt w s d mb g Av) (hb : Below w.heap.size w w') : ShAt w' s d mb g Av := by
  obtain ⟨es, ck, hm⟩ := h.mp
  exact ⟨h.bl.below hb h.bl.lt, ⟨es, ck, by rw [hb.block mb (Array.getElem?_eq_some_iff.1 hm).1]; exact hm⟩, h.dg.below hb, h.ns, h.av⟩
theorem mp_empty {w : World} {Av Av' : Nat → Prop} {b : Nat} (h : MpAt w Av b []) : MpAt w Av' b [] := by
  obtain ⟨es, ck, h1, h2⟩ := h
  refine ⟨es, ck, h1, ?_⟩
  have h3 := h2.len
  generalize es.toList = l at *
  match l, h3 with
  | [], _ => trivial
theorem bldSh (d mb : Nat) : Tryz.prog.built 48 [(0, .iface 41 (.agg #[])), (1, ptr d), (2, .map (some mb))] = some #[.iface 41 (.agg #[]), ptr d, .map (some mb), .bool false] := by kernel_rfl
set_option maxRecDepth 8000 in
theorem new_shelf (w : World) : Calls Tryz.prog 5 #[.nilIface] w fun e w' => ∃ s d mb g Av, e = .returned (ptr s) ∧ ShAt w' s d mb g Av ∧ w'.heap[mb]? = some (.map #[] 0) ∧ g.held = [] ∧ g.wait = [] ∧ g.heads = [] ∧ g.order = [] ∧ g.queue = [] ∧ (∀ k, k = s ∨ k = mb ∨ DgS d g k → w.heap.size ≤ k) ∧ Below w.heap.size w w' := by
  go_enter Tryz.func5, Tryz.ntmps5
  refine wp_seq_k fun K1 hK1 => ?_
  refine wp_region_list (WL.out ?_)
  refine WL.val (by kernel_rfl) (.pointer none) (by go_simp) ?_
  simp only [Act.put, List.setIfInBounds_toArray, List.set_cons_zero, List.set_cons_succ]
  refine WL.nil ?_
  refine hK1 _ _ ?_
  refine wp_seq_k fun K2 hK2 => ?_
  refine wp_seq_k fun K3 hK3 => ?_
  refine wp_region_list (WL.out ?_)
  refine WL.val (by kernel_rfl) (.nilIface) (by go_simp) ?_
  simp only [Act.put, List.setIfInBounds_toArray, List.set_cons_zero, List.set_cons_succ]
  refine WL.val (by kernel_rfl) (.bool true) (by go_simp) ?_
  simp only [Act.put, List.setIfInBounds_toArray, List.set_cons_zero, List.set_cons_succ]
  refine WL.nil ?_
  refine hK3 _ _ ?_
  refine wp_cond_true rfl ?_
  refine wp_region_list (WL.out ?_)
  refine WL.bld (by kernel_rfl) 41 _ rfl [] (by simp) #[] (by kernel_rfl) ?_
  simp only [Act.put, List.setIfInBounds_toArray, List.set_cons_zero, List.set_cons_succ]
  refine WL.val (by kernel_rfl) (.iface 41 (.agg #[])) (by go_simp) ?_
  simp only [Act.put, List.setIfInBounds_toArray, List.set_cons_zero, List.set_cons_succ]
  refine WL.val (by kernel_rfl) (.iface 41 (.agg #[])) (by go_simp) ?_
  simp only [Act.put, List.setIfInBounds_toArray, List.set_cons_zero, List.set_cons_succ]
  refine WL.nil ?_
  refine hK2 _ _ ?_
  refine wp_seq_k fun K4 hK4 => ?_
  refine wp_region_list (WL.out ?_)
  refine WL.callF (by kernel_rfl) 9 _ _ rfl Tryz.in9 #[.int .i64 64] (by simp [Act.eval]) ?_
  refine (show Calls Tryz.prog 9 #[.int .i64 64] w _ from new_any 64 w).mono ?_
  rintro e w1 (⟨h1, _⟩ | ⟨_, d, g, rfl, hd, hr, h1, h2, h3, h4, h5, hb, hf⟩)
  · omega
  refine ⟨_, rfl, ?_⟩
  have HD := Keep.mk hd
  have HG := Keep.mk (And.intro h1 (And.intro h2 (And.intro h3 (And.intro h4 (And.intro h5 hr)))))
  have B1 := Keep.mk hb
  have HF := Keep.mk hf
  clear hd h1 h2 h3 h4 h5 hr hb hf
  simp only [Act.put, List.setIfInBounds_toArray, List.set_cons_zero, List.set_cons_succ]
  refine WL.val (by kernel_rfl) (.tuple #[.pointer (some ⟨d, 0, none⟩), .int .i64 0]) (by go_simp) ?_
  simp only [Act.put, List.setIfInBounds_toArray, List.set_cons_zero, List.set_cons_succ]
  refine WL.val (by kernel_rfl) (.pointer (some ⟨d, 0, none⟩)) (by go_simp) ?_
  simp only [Act.put, List.setIfInBounds_toArray, List.set_cons_zero, List.set_cons_succ]
  refine WL.val (by kernel_rfl) (.int .i64 0) (by go_simp) ?_
  simp only [Act.put, List.setIfInBounds_toArray, List.set_cons_zero, List.set_cons_succ]
  refine WL.val (by kernel_rfl) (.pointer (some ⟨d, 0, none⟩)) (by go_simp) ?_
  simp only [Act.put, List.setIfInBounds_toArray, List.set_cons_zero, List.set_cons_succ]
  refine WL.val (by kernel_rfl) (.int .i64 0) (by go_simp) ?_
  simp only [Act.put, List.setIfInBounds_toArray, List.set_cons_zero, List.set_cons_succ]
  refine WL.nil ?_
  refine hK4 _ _ ?_
  refine wp_seq_k fun K5 hK5 => ?_
  refine wp_region_list (WL.out ?_)
  refine WL.val (by kernel_rfl) (.iface 41 (.agg #[])) (by go_simp) ?_
  simp only [Act.put, List.setIfInBounds_toArray, List.set_cons_zero, List.set_cons_succ]
  refine WL.val (by kernel_rfl) (.pointer (some ⟨d, 0, none⟩)) (by go_simp) ?_
  simp only [Act.put, List.setIfInBounds_toArray, List.set_cons_zero, List.set_cons_succ]
  have hmk := Tryz.mkm46 w1
  refine WL.valW (by kernel_rfl) (.map (some w1.heap.size)) (w1.alloc (.map #[] 0)) (by go_simp) ?_
  have HM : Keep ((w1.alloc (.map #[] 0)).heap[w1.heap.size]? = some (.map #[] 0)) := ⟨heap_alloc_new w1 _⟩
  clear hmk
  have B2 : Keep (Below w1.heap.size w1 (w1.alloc (.map #[] 0))) := ⟨below_new _ _⟩
  generalize w1.alloc (.map #[] 0) = w2 at *
  obtain ⟨mb, hmb⟩ : ∃ z, Keep (z = w1.heap.size) := ⟨_, ⟨rfl⟩⟩
  rw [← hmb.out] at HM ⊢
  simp only [Act.put, List.setIfInBounds_toArray, List.set_cons_zero, List.set_cons_succ]
  refine WL.bld (by kernel_rfl) 48 _ rfl [(0, .iface 41 (.agg #[])), (1, ptr d), (2, .map (some mb))] (by simp [Act.eval]) #[.iface 41 (.agg #[]), ptr d, .map (some mb), .bool false] (bldSh d mb) ?_
  simp only [Act.put, List.setIfInBounds_toArray, List.set_cons_zero, List.set_cons_succ]
  refine WL.box (by kernel_rfl) 48 (.tmp 16) rfl #[.iface 41 (.agg #[]), ptr d, .map (some mb), .bool false] rfl ?_
  have HS := Keep.mk (Blk.new w2 48 #[.iface 41 (.agg #[]), ptr d, .map (some mb), .bool false])
  have b_s := Keep.mk (below_new w2 (.cells #[.iface 41 (.agg #[]), ptr d, .map (some mb), .bool false] 48))
  change WL _ _ _ _ _ (w2.alloc (.cells #[.iface 41 (.agg #[]), ptr d, .map (some mb), .bool false] 48))
  generalize w2.alloc (.cells #[.iface 41 (.agg #[]), ptr d, .map (some mb), .bool false] 48) = w3 at *
  obtain ⟨s, hs⟩ : ∃ z, Keep (z = w2.heap.size) := ⟨_, ⟨rfl⟩⟩
  rw [← hs.out] at HS ⊢
  simp only [Act.put, List.setIfInBounds_toArray, List.set_cons_zero, List.set_cons_succ]
  refine WL.val (by kernel_rfl) (.pointer (some ⟨s, 0, none⟩)) (by go_simp) ?_
  simp only [Act.put, List.setIfInBounds_toArray, List.set_cons_zero, List.set_cons_succ]
  refine WL.nil ?_
  refine hK5 _ _ ?_
  refine wp_ret ?_
  go_ret
  have hml : mb < w2.heap.size := (Array.getElem?_eq_some_iff.1 HM.out).1
  have hdl : ∀ k, DgS d g k → k < w1.heap.size := HD.out.lt
  have h1 := hmb.out
  have h2 := hs.out
  have h3 := B2.out.size
  have B13 : Below w1.heap.size w1 w3 := B2.out.trans (b_s.out.mono h3)
  have HD3 := HD.out.below B13
  have hml3 : w3.heap[mb]? = some (.map #[] 0) := by rw [b_s.out.block mb hml]; exact HM.out
  have nds : ¬ DgS d g s := fun e => by have := hdl s e; omega
  have ndm : ¬ DgS d g mb := fun e => by have := hdl mb e; omega
  have sz := HS.out.lt
  refine ⟨s, d, mb, g, fun k => DgS d g k ∨ k = s ∨ k = mb, rfl, ⟨HS.out, ⟨_, _, hml3⟩, ⟨HD3.blk, ?_, ?_, HD3.oh, HD3.oo, HD3.oq, HD3.mm, HD3.ho, HD3.hq, HD3.oq', fun k e => .inl e, fun k e => ?_⟩, ⟨nds, ndm, by omega⟩, .inr (.inl rfl), .inr (.inr rfl)⟩, hml3, HG.out.1, HG.out.2.1, HG.out.2.2.1, HG.out.2.2.2.1, HG.out.2.2.2.2.1, ?_, ?_⟩
  · have h := HD3.held
    rw [HG.out.1] at h ⊢
    exact mp_empty h
  · have h := HD3.wait
    rw [HG.out.2.1] at h ⊢
    exact mp_empty h
  · rcases e with e | e | e
    · exact HD3.lt k e
    · omega
    · omega
  · intro k hk
    rcases hk with e | e | e
    · have := B1.out.size; omega
    · have := B1.out.size; omega
    · exact HF.out k e
  · exact B1.out.trans (B13.mono B1.out.size)

section
variable {P : Program} {ops : Array Oper} {rest : List Oper} {o : Oper} {a : Act} {w : World} {Q : Exit → Act → World → Prop}
theorem WL.callP (hw : Region.wanted o (yielded ops a.tmps) = true) (f : FuncId) (args : Array Operand) (ts : Array TypeId) (ho : o.op = .call { callee := .value (.func f), args := args, argTypes := ts })
    (hf : ∀ (w : World) (vs : Array Value), (callFunc f vs).run P w = .ok (.enter f vs) w) (vs : Array Value) (hvs : args.map a.eval = vs)
    (hc : Calls P f vs w fun e w' => (∃ v, e = .returned v ∧ WL P ops Q rest (a.put o.dst v) w') ∨ (∃ ch, e = .panicked ch ∧ Q (.panic ch) a w')) : WL P ops Q (o :: rest) a w :=
  ⟨wpList_wanted hw fun K hK => by
    unfold Oper.wp
    rw [run_callF a o f args ts ho hf w, Oper.upon_enter, hvs]
    refine hc.mono ?_
    rintro e w' (⟨v, rfl, hr⟩ | ⟨ch, rfl, hr⟩)
    · exact hK _ _ hr.out
    · exact hr⟩
theorem WL.panic (hw : Region.wanted o (yielded ops a.tmps) = true) (x : Operand) (ho : o.op = .panic x) (t : TypeId) (v : Value) (hx : a.eval x = .iface t v)
    (h : Q (.panic [{ v := .iface t v, recovered := false }]) a w) : WL P ops Q (o :: rest) a w :=
  ⟨wpList_wanted hw fun K hK => by
    unfold Oper.wp execOp
    simp only [ho, hx, Sem.run_bind, run_panic_iface]
    exact h⟩
end
section
variable {P : Program} {ops : Array Oper} {rest : List Oper} {o : Oper} {a : Act} {w : World} {Q : Exit → Act → World → Prop}
theorem WL.defer (hw : Region.wanted o (yielded ops a.tmps) = true) (d : Deferred) (hrun : (execOp a.eval o).run P w = .ok (.defer d) w)
    (h : WL P ops Q rest ({ a with defers := d :: a.defers }.put o.dst undef) w) : WL P ops Q (o :: rest) a w :=
  ⟨wpList_wanted hw fun _ hK => by unfold Oper.wp; rw [hrun, Oper.upon_defer]; exact hK _ _ h.out⟩
end
set_option maxRecDepth 8000 in
set_option maxHeartbeats 1000000 in
theorem must12_ok (ee : Array Value) (w : World) (h1 : (Tryz.prog.info? 56).map (·.size) = some ee.size) (h2 : ee.all (·.oneCell') = true) (h3 : ee.size = 36) : Calls Tryz.prog 12 #[.agg ee, .nilIface] w fun e w' => e = .returned (.agg ee) ∧ Below w.heap.size w w' := by
  go_enter Tryz.func12, Tryz.ntmps12
  refine wp_seq_k fun K1 hK1 => ?_
  refine wp_region_list (WL.out ?_)
  refine WL.box (by kernel_rfl) 56 (.tmp 0) rfl ee rfl ?_
  have H2 := Keep.mk (Blk.new w 56 ee)
  have b_b2 := Keep.mk (below_new w (.cells ee 56))
  change WL _ _ _ _ _ (w.alloc (.cells ee 56))
  generalize w.alloc (.cells ee 56) = w1 at *
  obtain ⟨b2, hb2⟩ : ∃ z, Keep (z = w.heap.size) := ⟨_, ⟨rfl⟩⟩
  rw [← hb2.out] at H2 ⊢
  simp only [Act.put, List.setIfInBounds_toArray, List.set_cons_zero, List.set_cons_succ]
  refine WL.new (by kernel_rfl) 56 rfl _ Nd.Tryz.new56 ?_
  have H4 := Keep.mk (Blk.new w1 56 Nd.zEn)
  have b_b4 := Keep.mk (below_new w1 (.cells Nd.zEn 56))
  generalize w1.alloc (.cells Nd.zEn 56) = w2 at *
  obtain ⟨b4, hb4⟩ : ∃ z, Keep (z = w1.heap.size) := ⟨_, ⟨rfl⟩⟩
  rw [← hb4.out] at H4 ⊢
  simp only [Act.put, List.setIfInBounds_toArray, List.set_cons_zero, List.set_cons_succ]
  refine WL.nil ?_
  refine hK1 _ _ ?_
  refine wp_seq_k fun K2 hK2 => ?_
  refine wp_seq_k fun K3 hK3 => ?_
  refine wp_region_list (WL.out ?_)
  refine WL.val (by kernel_rfl) (.nilIface) (by go_simp) ?_
  simp only [Act.put, List.setIfInBounds_toArray, List.set_cons_zero, List.set_cons_succ]
  refine WL.val (by kernel_rfl) (.bool false) (by go_simp) ?_
  simp only [Act.put, List.setIfInBounds_toArray, List.set_cons_zero, List.set_cons_succ]
  refine WL.nil ?_
  refine hK3 _ _ ?_
  refine wp_cond_false rfl ?_
  refine wp_skip ?_
  refine hK2 _ _ ?_
  refine wp_seq_k fun K4 hK4 => ?_
  refine wp_region_list (WL.out ?_)
  refine WL.row (by kernel_rfl) 56 (.tmp 2) rfl b2 rfl 56 ee _ (H2.out.below b_b4.out H2.out.lt) Tryz.underlying56 rfl h1 ?_
  simp only [Act.put, List.setIfInBounds_toArray, List.set_cons_zero, List.set_cons_succ]
  refine WL.storeR (by kernel_rfl) 56 (.tmp 4) (.tmp 9) rfl b4 ee rfl rfl 56 Nd.zEn H4.out h1 (by rw [h3, Nd.zEn_size]) h2 ?_
  have H5 := Keep.mk (H4.out.setRow ee)
  have g_w3 : Keep (Grown w2 (w2.setRow b4 ee) fun k => k = b4) := ⟨Grown.setRow w2 b4 _ fun _ => rfl⟩
  clear H4
  generalize w2.setRow b4 ee = w3 at *
  simp only [Act.put]
  refine WL.nil ?_
  refine hK4 _ _ ?_
  refine wp_ret ?_
  have k1 := hb4.out
  have k2 := b_b2.out.size
  exact bodyPost_ret (v := .agg ee) (results_cell_row Tryz.results12 _ _ b4 56 _ (0, 0) _ rfl H5.out Tryz.underlying56 rfl h1) rfl ⟨rfl, b_b2.out.trans ((b_b4.out.mono b_b2.out.size).trans (g_w3.out.to_below (fun k hk e => by omega) (Nat.le_trans b_b2.out.size b_b4.out.size)))⟩
set_option maxRecDepth 8000 in
set_option maxHeartbeats 1000000 in
theorem must12_bad (ee : Array Value) (q : Nat) (w : World) (h1 : (Tryz.prog.info? 56).map (·.size) = some ee.size) (h2 : ee.all (·.oneCell') = true) (h3 : ee.size = 36) : Calls Tryz.prog 12 #[.agg ee, .iface 64 (ptr q)] w fun e w' => e = .panicked [Nd.wr q] ∧ Below w.heap.size w w' := by
  go_enter Tryz.func12, Tryz.ntmps12
  refine wp_seq_k fun K1 hK1 => ?_
  refine wp_region_list (WL.out ?_)
  refine WL.box (by kernel_rfl) 56 (.tmp 0) rfl ee rfl ?_
  have H2 := Keep.mk (Blk.new w 56 ee)
  have b_b2 := Keep.mk (below_new w (.cells ee 56))
  change WL _ _ _ _ _ (w.alloc (.cells ee 56))
  generalize w.alloc (.cells ee 56) = w1 at *
  obtain ⟨b2, hb2⟩ : ∃ z, Keep (z = w.heap.size) := ⟨_, ⟨rfl⟩⟩
  rw [← hb2.out] at H2 ⊢
  simp only [Act.put, List.setIfInBounds_toArray, List.set_cons_zero, List.set_cons_succ]
  refine WL.new (by kernel_rfl) 56 rfl _ Nd.Tryz.new56 ?_
  have H4 := Keep.mk (Blk.new w1 56 Nd.zEn)
  have b_b4 := Keep.mk (below_new w1 (.cells Nd.zEn 56))
  generalize w1.alloc (.cells Nd.zEn 56) = w2 at *
  obtain ⟨b4, hb4⟩ : ∃ z, Keep (z = w1.heap.size) := ⟨_, ⟨rfl⟩⟩
  rw [← hb4.out] at H4 ⊢
  simp only [Act.put, List.setIfInBounds_toArray, List.set_cons_zero, List.set_cons_succ]
  refine WL.nil ?_
  refine hK1 _ _ ?_
  refine wp_seq_k fun K2 hK2 => ?_
  refine wp_seq_k fun K3 hK3 => ?_
  refine wp_region_list (WL.out ?_)
  refine WL.val (by kernel_rfl) (.iface 64 (ptr q)) (by go_simp) ?_
  simp only [Act.put, List.setIfInBounds_toArray, List.set_cons_zero, List.set_cons_succ]
  refine WL.val (by kernel_rfl) (.bool true) (by go_simp) ?_
  simp only [Act.put, List.setIfInBounds_toArray, List.set_cons_zero, List.set_cons_succ]
  refine WL.nil ?_
  refine hK3 _ _ ?_
  refine wp_cond_true rfl ?_
  refine wp_region_list (WL.out ?_)
  refine WL.val (by kernel_rfl) (.iface 64 (ptr q)) (by go_simp) ?_
  simp only [Act.put, List.setIfInBounds_toArray, List.set_cons_zero, List.set_cons_succ]
  refine WL.callP (by kernel_rfl) 18 _ _ rfl Nd.Tryz.in18 #[Nd.err q] (by simp [Act.eval, Nd.err]) ?_
  refine (Nd.giveUp_any q w2).mono ?_
  rintro e w' ⟨rfl, rfl⟩
  refine .inr ⟨_, rfl, ?_⟩
  try simp only [Exit.inBlock, Exit.then]
  refine ⟨rfl, ?_⟩
  exact ⟨rfl, b_b2.out.trans (b_b4.out.mono b_b2.out.size)⟩
theorem Tryz.new62v (w : World) : (Instr.alloc 62 true (.tuple #[])).run Tryz.prog w = .ok (.pointer (some ⟨w.heap.size, 0, none⟩)) (w.alloc (.cells (vtx (fun _ => 0) 0 (.slice none 0 0)) 62)) := by kernel_rfl
theorem sizeV62 (c : Nat → Int) (k : Int) (p : Value) : (Tryz.prog.info? 62).map (·.size) = some (vtx c k p).size := by rw [vtx_size]; kernel_rfl
theorem size51E (c : Nat → Int) : (Tryz.prog.info? 51).map (·.size) = some (bytesA 32 c).size := by rw [bytesA_size]; kernel_rfl
def enE (c : Nat → Int) (au ck : Int) (p q : Value) : Array Value := Nd.enA c (Nd.ndA au ck p q)
theorem enE_list (c : Nat → Int) (au ck : Int) (p q : Value) : (enE c au ck p q).toList = (bytesA 32 c).toList ++ [.int .i64 au, .int .i64 ck, p, q] := by
  simp [enE, Nd.enA, Nd.enL, Nd.ndA]
  rfl
theorem ent33 (c : Nat → Int) (au ck : Int) (p q : Value) : (enE c au ck p q)[33]? = some (.int .i64 ck) := by
  rw [← Array.getElem?_toList, enE_list, List.getElem?_append_right (by rw [Array.length_toList, bytesA_size]; omega), Array.length_toList, bytesA_size]; rfl
theorem ent34 (c : Nat → Int) (au ck : Int) (p q : Value) : (enE c au ck p q)[34]? = some p := by
  rw [← Array.getElem?_toList, enE_list, List.getElem?_append_right (by rw [Array.length_toList, bytesA_size]; omega), Array.length_toList, bytesA_size]; rfl
theorem ent_id {w : World} {b : Nat} {c : Nat → Int} {au ck : Int} {p q : Value} (h : w.rangeAt b 0 (enE c au ck p q).toList) : w.rangeAt b 0 (bytesA 32 c).toList := fun j v hv => h j v (by
  rw [enE_list, List.getElem?_append_left (by have := (List.getElem?_eq_some_iff.1 hv).1; exact this)]; exact hv)
set_option maxRecDepth 8000 in
set_option maxHeartbeats 1000000 in
theorem vertex0 (c : Nat → Int) (au ck : Int) (pa : Option Addr) (pc : Nat) (q : Value) (ee : Array Value) (hee : Keep (ee = enE c au ck (.slice pa 0 pc) q)) (w : World) : Calls Tryz.prog 15 #[.agg ee] w fun e w' => ∃ bp, e = .returned (.agg (vtx c ck (.slice (some ⟨bp, 0, none⟩) 0 0))) ∧ w.heap.size ≤ bp ∧ Below w.heap.size w w' := by
  go_enter Tryz.func15, Tryz.ntmps15
  refine wp_seq_k fun K1 hK1 => ?_
  refine wp_region_list (WL.out ?_)
  refine WL.box (by kernel_rfl) 56 (.tmp 0) rfl ee rfl ?_
  have H1 := Keep.mk (Blk.new w 56 ee)
  have b_b1 := Keep.mk (below_new w (.cells ee 56))
  change WL _ _ _ _ _ (w.alloc (.cells ee 56))
  generalize w.alloc (.cells ee 56) = w1 at *
  obtain ⟨b1, hb1⟩ : ∃ z, Keep (z = w.heap.size) := ⟨_, ⟨rfl⟩⟩
  rw [← hb1.out] at H1 ⊢
  simp only [Act.put, List.setIfInBounds_toArray, List.set_cons_zero, List.set_cons_succ]
  refine WL.new (by kernel_rfl) 62 rfl _ Tryz.new62v ?_
  have HZ := Keep.mk (Blk.new w1 62 (vtx (fun _ => 0) 0 (.slice none 0 0)))
  have b_b2 := Keep.mk (below_new w1 (.cells (vtx (fun _ => 0) 0 (.slice none 0 0)) 62))
  generalize w1.alloc (.cells (vtx (fun _ => 0) 0 (.slice none 0 0)) 62) = w2 at *
  obtain ⟨b2, hb2⟩ : ∃ z, Keep (z = w1.heap.size) := ⟨_, ⟨rfl⟩⟩
  rw [← hb2.out] at HZ ⊢
  have HX := Keep.mk (H1.out.below b_b2.out H1.out.lt)
  have c34 : w2.cell? ⟨b1, 34, none⟩ = some (.slice pa 0 pc) := HX.out.c 34 (by rw [hee.out]; exact ent34 _ _ _ _ _)
  have c33 : w2.cell? ⟨b1, 33, none⟩ = some (.int .i64 ck) := HX.out.c 33 (by rw [hee.out]; exact ent33 _ _ _ _ _)
  simp only [Act.put, List.setIfInBounds_toArray, List.set_cons_zero, List.set_cons_succ]
  refine WL.nil ?_
  refine hK1 _ _ ?_
  refine wp_seq_k fun K2 hK2 => ?_
  refine wp_region_list (WL.out ?_)
  refine WL.val (by kernel_rfl) (.pointer (some ⟨b1, 32, none⟩)) (by go_simp) ?_
  simp only [Act.put, List.setIfInBounds_toArray, List.set_cons_zero, List.set_cons_succ]
  refine WL.val (by kernel_rfl) (.pointer (some ⟨b1, 34, none⟩)) (by go_simp) ?_
  simp only [Act.put, List.setIfInBounds_toArray, List.set_cons_zero, List.set_cons_succ]
  refine WL.val (by kernel_rfl) (.slice pa 0 pc) (by go_simp) ?_
  simp only [Act.put, List.setIfInBounds_toArray, List.set_cons_zero, List.set_cons_succ]
  refine WL.val (by kernel_rfl) (.int .i64 0) (by go_simp) ?_
  simp only [Act.put, List.setIfInBounds_toArray, List.set_cons_zero, List.set_cons_succ]
  refine WL.valW (by kernel_rfl) (.slice (some ⟨w2.heap.size, 0, none⟩) 0 0) (w2.alloc (.cells #[] 51)) (by kernel_rfl) ?_
  have b_p := Keep.mk (below_new w2 (.cells #[] 51))
  have HZ3 := Keep.mk (HZ.out.below b_p.out HZ.out.lt)
  have HX3 := Keep.mk (HX.out.below b_p.out HX.out.lt)
  have HP3 := Keep.mk (Blk.new w2 51 #[])
  clear c33 c34
  generalize w2.alloc (.cells #[] 51) = w3 at *
  obtain ⟨bp, hbp⟩ : ∃ z, Keep (z = w2.heap.size) := ⟨_, ⟨rfl⟩⟩
  rw [← hbp.out] at HP3 ⊢
  have c34 : w3.cell? ⟨b1, 34, none⟩ = some (.slice pa 0 pc) := HX3.out.c 34 (by rw [hee.out]; exact ent34 _ _ _ _ _)
  have c33 : w3.cell? ⟨b1, 33, none⟩ = some (.int .i64 ck) := HX3.out.c 33 (by rw [hee.out]; exact ent33 _ _ _ _ _)
  simp only [Act.put, List.setIfInBounds_toArray, List.set_cons_zero, List.set_cons_succ]
  refine WL.val (by kernel_rfl) (.slice (some ⟨bp, 0, none⟩) 0 0) (by go_simp) ?_
  simp only [Act.put, List.setIfInBounds_toArray, List.set_cons_zero, List.set_cons_succ]
  refine WL.nil ?_
  refine hK2 _ _ ?_
  refine wp_seq_k fun K3 hK3 => ?_
  refine wp_region_list (WL.out ?_)
  refine WL.val (by kernel_rfl) (.slice (some ⟨bp, 0, none⟩) 0 0) (by go_simp) ?_
  simp only [Act.put, List.setIfInBounds_toArray, List.set_cons_zero, List.set_cons_succ]
  refine WL.val (by kernel_rfl) (.pointer (some ⟨b1, 32, none⟩)) (by go_simp) ?_
  simp only [Act.put, List.setIfInBounds_toArray, List.set_cons_zero, List.set_cons_succ]
  refine WL.val (by kernel_rfl) (.pointer (some ⟨b1, 34, none⟩)) (by go_simp) ?_
  simp only [Act.put, List.setIfInBounds_toArray, List.set_cons_zero, List.set_cons_succ]
  refine WL.val (by kernel_rfl) (.slice pa 0 pc) (by go_simp) ?_
  simp only [Act.put, List.setIfInBounds_toArray, List.set_cons_zero, List.set_cons_succ]
  refine WL.valW (by kernel_rfl) (.int .i64 0) w3 (by cases pa <;> kernel_rfl) ?_
  simp only [Act.put, List.setIfInBounds_toArray, List.set_cons_zero, List.set_cons_succ]
  refine WL.nil ?_
  refine hK3 _ _ ?_
  refine wp_seq_k fun K4 hK4 => ?_
  refine wp_region_list (WL.out ?_)
  refine WL.val (by kernel_rfl) (.pointer (some ⟨b1, 0, none⟩)) (by go_simp) ?_
  simp only [Act.put, List.setIfInBounds_toArray, List.set_cons_zero, List.set_cons_succ]
  refine WL.midA (by kernel_rfl) 51 (.tmp 14) rfl b1 0 rfl (bytesA 32 c) _ (by have h := blk_range HX3.out; rw [hee.out] at h; exact ent_id h) Tryz.underlying51 rfl (size51E _) ?_
  simp only [Act.put, List.setIfInBounds_toArray, List.set_cons_zero, List.set_cons_succ]
  refine WL.val (by kernel_rfl) (.pointer (some ⟨b1, 32, none⟩)) (by go_simp) ?_
  simp only [Act.put, List.setIfInBounds_toArray, List.set_cons_zero, List.set_cons_succ]
  refine WL.val (by kernel_rfl) (.pointer (some ⟨b1, 33, none⟩)) (by go_simp) ?_
  simp only [Act.put, List.setIfInBounds_toArray, List.set_cons_zero, List.set_cons_succ]
  refine WL.val (by kernel_rfl) (.int .i64 ck) (by go_simp) ?_
  simp only [Act.put, List.setIfInBounds_toArray, List.set_cons_zero, List.set_cons_succ]
  refine WL.val (by kernel_rfl) (.slice (some ⟨bp, 0, none⟩) 0 0) (by go_simp) ?_
  simp only [Act.put, List.setIfInBounds_toArray, List.set_cons_zero, List.set_cons_succ]
  refine WL.bld (by kernel_rfl) 62 _ rfl [(0, .agg (bytesA 32 c)), (1, .int .i64 ck), (2, .slice (some ⟨bp, 0, none⟩) 0 0)] (by simp [Act.eval]) (vtx c ck (.slice (some ⟨bp, 0, none⟩) 0 0)) (by kernel_rfl) ?_
  simp only [Act.put, List.setIfInBounds_toArray, List.set_cons_zero, List.set_cons_succ]
  refine WL.storeR (by kernel_rfl) 62 (.tmp 2) (.tmp 20) rfl b2 (vtx c ck (.slice (some ⟨bp, 0, none⟩) 0 0)) rfl rfl 62 (vtx (fun _ => 0) 0 (.slice none 0 0)) HZ3.out (sizeV62 _ _ _) (by rw [vtx_size, vtx_size]) (vtx_one _ _ _ (slice_one _ _ _)) ?_
  have HZ4 := Keep.mk (HZ3.out.setRow (vtx c ck (.slice (some ⟨bp, 0, none⟩) 0 0)))
  have g_w4 : Keep (Grown w3 (w3.setRow b2 (vtx c ck (.slice (some ⟨bp, 0, none⟩) 0 0))) fun k => k = b2) := ⟨Grown.setRow w3 b2 _ fun _ => rfl⟩
  clear HZ3
  generalize w3.setRow b2 (vtx c ck (.slice (some ⟨bp, 0, none⟩) 0 0)) = w4 at *
  clear c33 c34
  simp only [Act.put]
  refine WL.nil ?_
  refine hK4 _ _ ?_
  refine wp_ret ?_
  have k1 := hb2.out
  have k2 := b_b1.out.size
  have k3 := b_b2.out.size
  have k4 := b_p.out.size
  have k5 := hbp.out
  refine bodyPost_ret (v := .agg (vtx c ck (.slice (some ⟨bp, 0, none⟩) 0 0))) (results_cell_row Tryz.results15 _ _ b2 62 _ (0, 0) _ rfl HZ4.out Tryz.underlying62 rfl (sizeV62 _ _ _)) rfl ⟨bp, rfl, by omega, ?_⟩
  exact b_b1.out.trans ((b_b2.out.mono b_b1.out.size).trans ((b_p.out.mono (by omega)).trans (g_w4.out.to_below (fun k hk e => by omega) (by omega))))

theorem bv_one (l : List Int) : ∀ u ∈ bv l, u.oneCell' = true := fun u hu => by simp [bv] at hu; obtain ⟨_, _, rfl⟩ := hu; rfl
theorem bv_app (a b : List Int) : bv (a ++ b) = bv a ++ bv b := by simp [bv]
theorem eql_nilA (a : Addr) (n c : Nat) (w : World) : (binOp .eql 32 (.slice (some a) n c) (.slice none 0 0)).run Tryz.prog w = .ok (.bool false) w := by kernel_rfl
theorem own_done (w : World) (l : List Int) (hb : l.length ≤ 140737488355328) : Own (w.alloc (.cells (bv l).toArray 5)) (.slice (some ⟨w.heap.size, 0, none⟩) l.length l.length) l :=
  Own.mk (Blk.new w 5 _) (Nat.le_refl _) (by unfold maxLen; omega) (by simp [bv_len]) (by simp [← bv_len])
theorem Tryz.info5 : (Tryz.prog.info? 5).map (fun i => (i.zero, i.size, i.bytes)) = some (some (.int .u8 0), 1, 1) := by kernel_rfl
theorem run_app_cells (w : World) (ty : TypeId) (v : Value) (l : List Int) (hown : Own w v l) (a : Addr) (c : Nat) (m : List Int) (hnews : ∀ j u, (bv m)[j]? = some u → w.cell? (a.add j) = some u) (hb : l.length + m.length ≤ 140737488355328) :
    ∃ v' w', (Builtin.append_ #[32, 32] ty #[v, .slice (some a) m.length c]).run Tryz.prog w = .ok v' w' ∧ AppPost w v (l ++ m) v' w' := by
  obtain ⟨i, hi, hzz⟩ := Option.map_eq_some_iff.1 Tryz.info5
  simp only [Prod.mk.injEq] at hzz
  obtain ⟨hz, hsz, hby⟩ := hzz
  have h63 : l.length + m.length ≤ maxLen := by unfold maxLen; omega
  have hlm : (bv m).length = m.length * i.size := by rw [bv_len, hsz]; omega
  obtain ⟨v', w', hr, h1, h2, _, h3⟩ := run_append_own_at (P := Tryz.prog) w 0 32 ty 5 i (.int .u8 0) 1 1 Tryz.underlying32 hi hz hsz hby rfl (by omega) v l.length (bv l) hown a m.length c (bv m) (by rw [bv_len]; omega) hnews (bv_one m) h63 (by omega) (Nat.zero_le _)
  have hO : Own w' v' (l ++ m) := by unfold Own; rw [List.length_append, bv_app]; exact h1
  refine ⟨v', w', hr, hO, ?_⟩
  rcases hown.form with ⟨rfl, rfl⟩ | ⟨g, cap, cur, rfl, hg, hnc, hcm, hcs, htake⟩
  · rcases h3 with h3 | h3
    · exact .inl ⟨h3, Grown.of h2 fun k _ e => by simp [Value.ownBlock] at e⟩
    · exact .inr ⟨h3, h2.os, h2.tape, h2.output, h2.size, fun k hk => h2.block k hk (by simp [Value.ownBlock])⟩
  · by_cases hroom : l.length + m.length ≤ cap
    · have hr2 := run_append_room (P := Tryz.prog) w 32 ty 5 i Tryz.underlying32 hi g l.length cap cur hg a m.length c (bv m) hlm hnews (bv_one m) hroom (by rw [hsz, bv_len, hcs]; omega)
      have e := hr.symm.trans hr2
      injection e with e1 e2
      subst e1
      exact .inl ⟨rfl, Grown.of h2 fun k _ e => e⟩
    · have holds : ∀ j u, (bv l)[j]? = some u → w.cell? ((⟨g, 0, none⟩ : Addr).add j) = some u := World.ownsRow.cells (g := g) hown rfl
      have hr2 := run_append_grow (P := Tryz.prog) w 32 ty 5 i (.int .u8 0) Tryz.underlying32 hi hz ⟨g, 0, none⟩ l.length cap (bv l) (by rw [bv_len, hsz]; omega) holds a m.length c (bv m) hlm hnews (by omega) (by omega) (by rw [hby]; exact growslice_fits (by omega) (by omega))
      have e := hr.symm.trans hr2
      injection e with e1 e2
      subst e1 e2
      exact .inr ⟨rfl, ⟨rfl, rfl, rfl, by simp, fun k hk => Below.heap_alloc w.drew _ k hk⟩⟩
theorem run_app_row (w : World) (ty : TypeId) (v vx : Value) (l m : List Int) (hown : Own w v l) (hrow : RowAt w vx m) (hb : l.length + m.length ≤ 140737488355328) :
    ∃ v' w', (Builtin.append_ #[32, 32] ty #[v, vx]).run Tryz.prog w = .ok v' w' ∧ AppPost w v (l ++ m) v' w' := by
  rcases hrow with ⟨rfl, rfl⟩ | ⟨ad, c, rfl, rfl⟩ | ⟨b, off, cap, rfl, hcap, hc⟩
  · obtain ⟨i, hi, _⟩ := Option.map_eq_some_iff.1 Tryz.info5
    have hrun := run_append_owned_none (P := Tryz.prog) (w := w) 0 32 ty 5 i 1 Tryz.underlying32 hi v l.length (bv l) hown
    exact ⟨v, w, hrun, by simpa using hown, .inl ⟨rfl, Grown.refl _ _⟩⟩
  · exact run_app_cells w ty v l hown ad c [] (fun j u hu => by simp [bv] at hu) hb
  · refine run_app_cells w ty v l hown ⟨b, off, none⟩ cap m (fun j u hu => ?_) hb
    have hj : j < m.length := by have := (List.getElem?_eq_some_iff.1 hu).1; rwa [bv_len] at this
    rw [bv_get m j hj] at hu
    rw [Addr.add_mid, hc j hj]; exact hu
theorem WL.app {ops : Array Oper} {rest : List Oper} {o : Oper} {a : Act} {w : World} {Q : Exit → Act → World → Prop} (hw : Region.wanted o (yielded ops a.tmps) = true) (s x : Operand)
    (ho : o.op = .call { callee := .builtin .append, args := #[s, x], argTypes := #[32, 32] }) (v vx : Value) (l m : List Int)
    (hs : a.eval s = v) (hx : a.eval x = vx) (hown : Own w v l) (hrow : RowAt w vx m) (hb : l.length + m.length ≤ 140737488355328)
    (h : ∀ v' w', AppPost w v (l ++ m) v' w' → WL Tryz.prog ops Q rest (a.put o.dst v') w') : WL Tryz.prog ops Q (o :: rest) a w :=
  ⟨wpList_wanted hw fun K hK => by
    obtain ⟨v', w', hr, h2⟩ := run_app_row w o.type v vx l m hown hrow hb
    unfold Oper.wp execOp
    simp only [ho, resolve, invoke, builtin, Sem.run_bind, Sem.run_pure, Result.andThen_ok, List.map_toArray, List.map_cons, List.map_nil, hs, hx, hr]
    exact hK _ _ (h v' w' h2).out⟩
theorem bsE (w : World) : (Instr.buildSlice 32 0 #[]).run Tryz.prog w = .ok (.slice (some ⟨w.heap.size, 0, none⟩) 0 0) (w.alloc (.cells #[] 5)) := by kernel_rfl
theorem eql_nn (w : World) : (binOp .eql 32 (.slice none 0 0) (.slice none 0 0)).run Tryz.prog w = .ok (.bool true) w := by kernel_rfl
set_option maxRecDepth 8000 in
theorem clo_some (w : World) (pa : Addr) (n pc : Nat) (b : List Int) (HB : Keep (RowAt w (.slice (some pa) n pc) b)) (HL : Keep (b.length ≤ 140737488355328)) : Calls Tryz.prog 38 #[.slice (some pa) n pc] w fun e w' => ∃ v, e = .returned v ∧ Own w' v b ∧ (∀ k, v.ownBlock = some k → w.heap.size ≤ k) ∧ Below w.heap.size w w' := by
  go_enter Tryz.func38, Tryz.ntmps38
  refine wp_seq_k fun K1 hK1 => ?_
  refine wp_region_list (WL.out ?_)
  refine WL.val (by kernel_rfl) (.slice none 0 0) (by go_simp) ?_
  simp only [Act.put, List.setIfInBounds_toArray, List.set_cons_zero, List.set_cons_succ]
  refine WL.nil ?_
  refine hK1 _ _ ?_
  refine wp_seq_k fun K2 hK2 => ?_
  refine wp_seq_k fun K3 hK3 => ?_
  refine wp_region_list (WL.out ?_)
  refine WL.val (by kernel_rfl) (.slice (some pa) n pc) (by go_simp) ?_
  simp only [Act.put, List.setIfInBounds_toArray, List.set_cons_zero, List.set_cons_succ]
  refine WL.val (by kernel_rfl) (.bool false) (by have h := eql_nilA pa n pc w; go_simp) ?_
  simp only [Act.put, List.setIfInBounds_toArray, List.set_cons_zero, List.set_cons_succ]
  refine WL.nil ?_
  refine hK3 _ _ ?_
  refine wp_cond_false rfl ?_
  refine wp_skip ?_
  refine hK2 _ _ ?_
  refine wp_seq_k fun K4 hK4 => ?_
  refine wp_region_list (WL.out ?_)
  refine WL.bs (by kernel_rfl) 32 0 #[] rfl #[] (by simp) _ _ (bsE w) ?_
  have O1 := Keep.mk (own_done w [] (by simp))
  have b1 := Keep.mk (below_new w (.cells #[] 5))
  change Keep (Own (w.alloc (.cells #[] 5)) _ []) at O1
  have Y1 := Keep.mk (HB.out.below b1.out)
  generalize w.alloc (.cells #[] 5) = w1 at *
  obtain ⟨g, hg⟩ : ∃ z, Keep (z = w.heap.size) := ⟨_, ⟨rfl⟩⟩
  rw [← hg.out] at O1 ⊢
  simp only [Act.put, List.setIfInBounds_toArray, List.set_cons_zero, List.set_cons_succ]
  refine WL.val (by kernel_rfl) (.slice (some pa) n pc) (by go_simp) ?_
  simp only [Act.put, List.setIfInBounds_toArray, List.set_cons_zero, List.set_cons_succ]
  refine WL.app (by kernel_rfl) (.tmp 5) (.tmp 6) rfl (.slice (some ⟨g, 0, none⟩) 0 0) (.slice (some pa) n pc) [] b rfl rfl O1.out Y1.out (by simpa using HL.out) ?_
  intro v2 w2 hp
  have O2 : Keep (Own w2 v2 b) := ⟨by simpa using hp.1⟩
  have B2 : Keep (Below w.heap.size w w2) := ⟨b1.out.trans (hp.grown.to_below (fun k hk e => by simp [Value.ownBlock] at e; have := hg.out; omega) b1.out.size)⟩
  have F2 : Keep (∀ k, v2.ownBlock = some k → w.heap.size ≤ k) := ⟨fun k hk => by
    rcases hp.moved with e | ⟨m, e, h2⟩
    · rw [e] at hk; simp [Value.ownBlock] at hk; have := hg.out; omega
    · rw [e] at hk; injection hk with hk; subst hk; have := b1.out.size; omega⟩
  clear hp
  simp only [Act.put, List.setIfInBounds_toArray, List.set_cons_zero, List.set_cons_succ]
  refine WL.val (by kernel_rfl) (v2) (by go_simp) ?_
  simp only [Act.put, List.setIfInBounds_toArray, List.set_cons_zero, List.set_cons_succ]
  refine WL.nil ?_
  refine hK4 _ _ ?_
  refine wp_ret ?_
  go_ret
  exact ⟨v2, rfl, O2.out, F2.out, B2.out⟩

theorem Tryz.in148 (w : World) (vs : Array Value) : (callFunc 148 vs).run Tryz.prog w = .ok (.enter 148 vs) w := by kernel_rfl
theorem Tryz.in22 (w : World) (vs : Array Value) : (callFunc 22 vs).run Tryz.prog w = .ok (.enter 22 vs) w := by kernel_rfl
theorem Tryz.in38 (w : World) (vs : Array Value) : (callFunc 38 vs).run Tryz.prog w = .ok (.enter 38 vs) w := by kernel_rfl
theorem wp_callI {Q : Exit → Act → World → Prop} {o : Oper} {a : Act} {w : World} {K : Act → World → Prop} (f : FuncId) (vs : Array Value) (hr : (execOp a.eval o).run Tryz.prog w = .ok (.enter f vs) w)
    (R : Value → World → Prop) (hc : Calls Tryz.prog f vs w fun e w' => ∃ v, e = .returned v ∧ R v w') (h : ∀ v w', R v w' → K (a.put o.dst v) w') : o.wp Tryz.prog a w K Q := by
  unfold Oper.wp
  rw [hr, Oper.upon_enter]
  refine hc.mono ?_
  rintro e w' ⟨v, rfl, hr⟩
  exact h v w' hr
set_option maxRecDepth 8000 in
theorem nokeep (v : Value) (w : World) : Calls Tryz.prog 148 #[.agg #[], v] w fun e w' => e = .returned (.int .i64 0) ∧ Below w.heap.size w w' := by
  go_enter Tryz.func148, Tryz.ntmps148
  refine wp_seq_k fun K1 hK1 => ?_
  refine wp_region_list (WL.out ?_)
  refine WL.box (by kernel_rfl) 41 (.tmp 0) rfl #[] rfl ?_
  have H2 := Keep.mk (Blk.new w 41 #[])
  have b_b2 := Keep.mk (below_new w (.cells #[] 41))
  change WL _ _ _ _ _ (w.alloc (.cells #[] 41))
  generalize w.alloc (.cells #[] 41) = w1 at *
  obtain ⟨b2, hb2⟩ : ∃ z, Keep (z = w.heap.size) := ⟨_, ⟨rfl⟩⟩
  rw [← hb2.out] at H2 ⊢
  simp only [Act.put, List.setIfInBounds_toArray, List.set_cons_zero, List.set_cons_succ]
  refine WL.val (by kernel_rfl) (.int .i64 0) (by go_simp) ?_
  simp only [Act.put, List.setIfInBounds_toArray, List.set_cons_zero, List.set_cons_succ]
  refine WL.nil ?_
  refine hK1 _ _ ?_
  refine wp_seq_k fun K2 hK2 => ?_
  refine wp_region_list (WL.out ?_)
  refine WL.val (by kernel_rfl) (.int .i64 0) (by go_simp) ?_
  simp only [Act.put, List.setIfInBounds_toArray, List.set_cons_zero, List.set_cons_succ]
  refine WL.nil ?_
  refine hK2 _ _ ?_
  refine wp_ret ?_
  go_ret
  exact ⟨rfl, b_b2.out⟩
theorem row_form {w : World} {v : Value} {l : List Int} (h : RowAt w v l) : ∃ a c, v = .slice a l.length c := by
  rcases h with ⟨rfl, rfl⟩ | ⟨a, c, rfl, rfl⟩ | ⟨q, off, cap, rfl, h1, h2⟩
  · exact ⟨_, _, rfl⟩
  · exact ⟨_, _, rfl⟩
  · exact ⟨_, _, rfl⟩
theorem Nd_sl {w : World} {v : Value} {l : List Int} (h : Own w v l) : ∃ a n c, v = .slice a n c := by
  obtain ⟨a, c, hv⟩ := row_form h.row
  exact ⟨a, _, c, hv⟩
set_option maxRecDepth 8000 in
set_option maxHeartbeats 1000000 in
theorem keep_ok (s d mb : Nat) (g : DG) (Av : Nat → Prop) (w : World) (HS : Keep (ShAt w s d mb g Av)) (ad : Addr) (n c : Nat) (l : List Int) (HR : Keep (RowAt w (.slice (some ad) n c) l)) (HL : Keep (l.length ≤ 140737488355328)) : Calls Tryz.prog 22 #[.pointer (some ⟨s, 0, none⟩), .slice (some ad) n c] w fun e w' => e = .returned (.int .i64 0) ∧ Below w.heap.size w w' := by
  go_enter Tryz.func22, Tryz.ntmps22
  refine wp_seq_k fun K1 hK1 => ?_
  refine wp_region_list (WL.out ?_)
  refine WL.val (by kernel_rfl) (.int .i64 0) (by go_simp) ?_
  simp only [Act.put, List.setIfInBounds_toArray, List.set_cons_zero, List.set_cons_succ]
  refine WL.nil ?_
  refine hK1 _ _ ?_
  refine wp_seq_k fun K2 hK2 => ?_
  refine wp_region_held_drew (S := fun wx => wx.cell? ⟨s, 0, none⟩ = some (.iface 41 (.agg #[]))) (by kernel_rfl) (HS.out.bl.drew.c 0 rfl) (fun hHeld => ?_)
  have HS1 := Keep.mk (HS.out.below (Below.refl w.heap.size w).drew)
  have HR1 := Keep.mk (HR.out.below (Below.refl w.heap.size w).drew)
  have b1 := Keep.mk ((Below.refl w.heap.size w).drew)
  generalize w.drew = w1 at *
  refine wpAnyH_take (i := 0) (oi := ⟨some 6, Op.move (Operand.tmp 0), 23, _, _, none⟩) (v := .pointer (some ⟨s, 0, none⟩)) rfl (by kernel_rfl) (by kernel_rfl) (by kernel_rfl) (fun _ _ _ h => h) (Or.inl ⟨by rfl, fun w hS => by have cS := hS; go_simp⟩) hHeld ?_
  simp only [Act.put, List.setIfInBounds_toArray, List.set_cons_zero, List.set_cons_succ]
  refine wpAnyH_take (i := 1) (oi := ⟨some 7, Op.nilCheck (Operand.tmp 6), 0, _, _, none⟩) (v := .pointer (some ⟨s, 0, none⟩)) rfl (by kernel_rfl) (by kernel_rfl) (by kernel_rfl) (fun _ _ _ h => h) (Or.inl ⟨by rfl, fun w hS => by have cS := hS; go_simp⟩) hHeld ?_
  simp only [Act.put, List.setIfInBounds_toArray, List.set_cons_zero, List.set_cons_succ]
  refine wpAnyH_take (i := 2) (oi := ⟨some 8, Op.fieldAddr 48 (Operand.tmp 7) 0, 0, _, _, none⟩) (v := .pointer (some ⟨s, 0, none⟩)) rfl (by kernel_rfl) (by kernel_rfl) (by kernel_rfl) (fun _ _ _ h => h) (Or.inl ⟨by rfl, fun w hS => by have cS := hS; go_simp⟩) hHeld ?_
  simp only [Act.put, List.setIfInBounds_toArray, List.set_cons_zero, List.set_cons_succ]
  refine wpAnyH_take (i := 3) (oi := ⟨some 9, Op.load 39 (Operand.tmp 8), 39, _, _, none⟩) (v := .iface 41 (.agg #[])) rfl (by kernel_rfl) (by kernel_rfl) (by kernel_rfl) (fun _ _ _ h => h) (Or.inl ⟨by rfl, fun w hS => by have cS := hS; go_simp⟩) hHeld ?_
  simp only [Act.put, List.setIfInBounds_toArray, List.set_cons_zero, List.set_cons_succ]
  refine wpAnyH_take (i := 6) (oi := ⟨some 12, Op.nilCheck (Operand.tmp 9), 39, _, _, none⟩) (v := .iface 41 (.agg #[])) rfl (by kernel_rfl) (by kernel_rfl) (by kernel_rfl) (fun _ _ _ h => h) (Or.inl ⟨by rfl, fun w hS => by have cS := hS; go_simp⟩) hHeld ?_
  simp only [Act.put, List.setIfInBounds_toArray, List.set_cons_zero, List.set_cons_succ]
  refine wpAnyH_take (i := 7) (oi := ⟨some 13, Op.move (Operand.tmp 9), 39, _, _, none⟩) (v := .iface 41 (.agg #[])) rfl (by kernel_rfl) (by kernel_rfl) (by kernel_rfl) (fun _ _ _ h => h) (Or.inl ⟨by rfl, fun w hS => by have cS := hS; go_simp⟩) hHeld ?_
  simp only [Act.put, List.setIfInBounds_toArray, List.set_cons_zero, List.set_cons_succ]
  refine wpAnyH_take (i := 4) (oi := ⟨some 10, Op.move (Operand.tmp 1), 32, _, _, none⟩) (v := .slice (some ad) n c) rfl (by kernel_rfl) (by kernel_rfl) (by kernel_rfl) (fun _ _ _ h => h) (Or.inl ⟨by rfl, fun w hS => by have cS := hS; go_simp⟩) hHeld ?_
  simp only [Act.put, List.setIfInBounds_toArray, List.set_cons_zero, List.set_cons_succ]
  refine wpAnyH_ready (rs := [5]) (by kernel_rfl) (by simp) ?_
  refine AllReadyH.cons (o := ⟨some 11, Op.call { callee := Callee.value (Operand.func 38), args := #[Operand.tmp 10], argTypes := #[32] }, 32, _, _, none⟩) rfl (fun K hK => ?_) AllReadyH.nil
  rw [if_pos (by rfl)]
  refine wp_callF 38 _ _ rfl Tryz.in38 #[.slice (some ad) n c] (by simp [Act.eval]) (fun vz wz => ∃ v, vz = v ∧ Below w1.heap.size w1 wz ∧ ∃ ua un uc, v = .slice ua un uc) ?_ ?_
  · refine (clo_some w1 ad n c l HR1 HL).mono ?_
    rintro e wz ⟨v, rfl, k1, k2, k3⟩
    exact ⟨_, rfl, v, rfl, k3, Nd_sl k1⟩
  rintro vz wa ⟨u, rfl, k1, ua, un, uc, rfl⟩
  have ba := Keep.mk k1
  clear k1
  refine hK _ _ (by rw [ba.out.cell (p := ⟨s, 0, none⟩) HS1.out.bl.lt]; exact HS1.out.bl.c 0 rfl) fun hHa => ?_
  clear hK
  simp only [Act.put, List.setIfInBounds_toArray, List.set_cons_zero, List.set_cons_succ]
  refine wpAnyH_ready (rs := [8]) (by kernel_rfl) (by simp) ?_
  refine AllReadyH.cons (o := ⟨some 14, Op.call { callee := Callee.invoke (Operand.tmp 13) "Keep", args := #[Operand.tmp 11], argTypes := #[32] }, 43, _, _, none⟩) rfl (fun K hK => ?_) AllReadyH.nil
  rw [if_pos (by rfl)]
  refine wp_callI 148 #[.agg #[], .slice ua un uc] (by kernel_rfl) (fun vz wz => vz = .int .i64 0 ∧ Below wa.heap.size wa wz) ?_ ?_
  · refine (nokeep (.slice ua un uc) wa).mono ?_
    rintro e wz ⟨rfl, k1⟩
    exact ⟨_, rfl, rfl, k1⟩
  rintro vz wb ⟨rfl, k1⟩
  have bb : Keep (Below w1.heap.size w1 wb) := ⟨ba.out.trans (k1.mono ba.out.size)⟩
  clear k1
  refine hK _ _ (by rw [bb.out.cell (p := ⟨s, 0, none⟩) HS1.out.bl.lt]; exact HS1.out.bl.c 0 rfl) fun hHb => ?_
  clear hK
  simp only [Act.put, List.setIfInBounds_toArray, List.set_cons_zero, List.set_cons_succ]
  refine wpAnyH_take (i := 9) (oi := ⟨some 5, Op.assign (Operand.tmp 14), 43, _, _, none⟩) (v := .int .i64 0) rfl (by kernel_rfl) (by kernel_rfl) (by kernel_rfl) (fun _ _ _ h => h) (Or.inl ⟨by rfl, fun w hS => by have cS := hS; go_simp⟩) hHb ?_
  simp only [Act.put, List.setIfInBounds_toArray, List.set_cons_zero, List.set_cons_succ]
  refine wpAnyH_done (by kernel_rfl) ?_ _
  refine hK2 _ _ ?_
  refine wp_seq_k fun K3 hK3 => ?_
  refine wp_seq_k fun K4 hK4 => ?_
  refine wp_region_list (WL.out ?_)
  refine WL.val (by kernel_rfl) (.int .i64 0) (by go_simp) ?_
  simp only [Act.put, List.setIfInBounds_toArray, List.set_cons_zero, List.set_cons_succ]
  refine WL.val (by kernel_rfl) (.bool false) (by go_simp) ?_
  simp only [Act.put, List.setIfInBounds_toArray, List.set_cons_zero, List.set_cons_succ]
  refine WL.nil ?_
  refine hK4 _ _ ?_
  refine wp_cond_false rfl ?_
  refine wp_skip ?_
  refine hK3 _ _ ?_
  refine wp_seq_k fun K5 hK5 => ?_
  refine wp_region_list (WL.out ?_)
  refine WL.val (by kernel_rfl) (.int .i64 0) (by go_simp) ?_
  simp only [Act.put, List.setIfInBounds_toArray, List.set_cons_zero, List.set_cons_succ]
  refine WL.val (by kernel_rfl) (.int .i64 0) (by go_simp) ?_
  simp only [Act.put, List.setIfInBounds_toArray, List.set_cons_zero, List.set_cons_succ]
  refine WL.nil ?_
  refine hK5 _ _ ?_
  refine wp_ret ?_
  go_ret
  exact ⟨rfl, b1.out.trans (bb.out.mono b1.out.size)⟩

theorem Tryz.in40 (w : World) (vs : Array Value) : (callFunc 40 vs).run Tryz.prog w = .ok (.enter 40 vs) w := by kernel_rfl
theorem Tryz.in24 (w : World) (vs : Array Value) : (callFunc 24 vs).run Tryz.prog w = .ok (.enter 24 vs) w := by kernel_rfl
theorem bldV0 : Tryz.prog.built 62 [] = some (vtx (fun _ => 0) 0 (.slice none 0 0)) := by kernel_rfl
set_option maxRecDepth 8000 in
theorem next_none (d : Nat) (g : DG) (Av : Nat → Prop) (w : World) (HD : Keep (DagAt w Av d g)) (HQ : Keep (g.queue = [])) : Calls Tryz.prog 40 #[.pointer (some ⟨d, 0, none⟩)] w fun e w' => e = .returned (.tuple #[.agg (vtx (fun _ => 0) 0 (.slice none 0 0)), .bool false]) ∧ Below w.heap.size w w' := by
  go_enter Tryz.func40, Tryz.ntmps40
  refine wp_seq_k fun K1 hK1 => ?_
  refine wp_region_list (WL.out ?_)
  refine WL.new (by kernel_rfl) 62 rfl _ Tryz.new62v ?_
  have H2 := Keep.mk (Blk.new w 62 (vtx (fun _ => 0) 0 (.slice none 0 0)))
  have b_b2 := Keep.mk (below_new w (.cells (vtx (fun _ => 0) 0 (.slice none 0 0)) 62))
  generalize w.alloc (.cells (vtx (fun _ => 0) 0 (.slice none 0 0)) 62) = w1 at *
  obtain ⟨b2, hb2⟩ : ∃ z, Keep (z = w.heap.size) := ⟨_, ⟨rfl⟩⟩
  rw [← hb2.out] at H2 ⊢
  have HD1 := Keep.mk (HD.out.below b_b2.out)
  obtain ⟨_, _, _, _, qa, qc, _, _, hq⟩ := HD1.out.form
  have cq : w1.cell? ⟨d, 5, none⟩ = some (.slice qa 0 qc) := by
    have h : w1.cell? ⟨d, 5, none⟩ = some g.qv := HD1.out.blk.c 5 rfl
    rw [hq, HQ.out] at h
    exact h
  simp only [Act.put, List.setIfInBounds_toArray, List.set_cons_zero, List.set_cons_succ]
  refine WL.val (by kernel_rfl) (.bool false) (by go_simp) ?_
  simp only [Act.put, List.setIfInBounds_toArray, List.set_cons_zero, List.set_cons_succ]
  refine WL.nil ?_
  refine hK1 _ _ ?_
  refine wp_seq_k fun K2 hK2 => ?_
  refine wp_seq_k fun K3 hK3 => ?_
  refine wp_region_list (WL.out ?_)
  refine WL.val (by kernel_rfl) (.pointer (some ⟨d, 0, none⟩)) (by go_simp) ?_
  simp only [Act.put, List.setIfInBounds_toArray, List.set_cons_zero, List.set_cons_succ]
  refine WL.val (by kernel_rfl) (.pointer (some ⟨d, 0, none⟩)) (by go_simp) ?_
  simp only [Act.put, List.setIfInBounds_toArray, List.set_cons_zero, List.set_cons_succ]
  refine WL.val (by kernel_rfl) (.pointer (some ⟨d, 5, none⟩)) (by go_simp) ?_
  simp only [Act.put, List.setIfInBounds_toArray, List.set_cons_zero, List.set_cons_succ]
  refine WL.val (by kernel_rfl) (.slice qa 0 qc) (by go_simp) ?_
  simp only [Act.put, List.setIfInBounds_toArray, List.set_cons_zero, List.set_cons_succ]
  refine WL.val (by kernel_rfl) (.int .i64 0) (by go_simp) ?_
  simp only [Act.put, List.setIfInBounds_toArray, List.set_cons_zero, List.set_cons_succ]
  refine WL.val (by kernel_rfl) (.int .i64 0) (by go_simp) ?_
  simp only [Act.put, List.setIfInBounds_toArray, List.set_cons_zero, List.set_cons_succ]
  refine WL.nil ?_
  refine hK3 _ _ ?_
  refine wp_block ?_
  refine wp_loop_rounds 1 ?_
  rw [rounds_succ]
  refine wp_seq_k fun K4 hK4 => ?_
  refine wp_region_list (WL.out ?_)
  refine WL.val (by kernel_rfl) (.bool false) (by go_simp) ?_
  simp only [Act.put, List.setIfInBounds_toArray, List.set_cons_zero, List.set_cons_succ]
  refine WL.nil ?_
  refine hK4 _ _ ?_
  refine wp_seq_k fun K5 hK5 => ?_
  refine wp_cond_false rfl ?_
  refine wp_exit ?_
  refine hK2 _ _ ?_
  refine wp_seq_k fun K6 hK6 => ?_
  refine wp_region_list (WL.out ?_)
  refine WL.bld (by kernel_rfl) 62 _ rfl [] (by simp) (vtx (fun _ => 0) 0 (.slice none 0 0)) bldV0 ?_
  simp only [Act.put, List.setIfInBounds_toArray, List.set_cons_zero, List.set_cons_succ]
  refine WL.storeR (by kernel_rfl) 62 (.tmp 2) (.tmp 29) rfl b2 (vtx (fun _ => 0) 0 (.slice none 0 0)) rfl rfl 62 (vtx (fun _ => 0) 0 (.slice none 0 0)) H2.out (sizeV62 _ _ _) rfl (vtx_one _ _ _ (slice_one _ _ _)) ?_
  have H3 := Keep.mk (H2.out.setRow (vtx (fun _ => 0) 0 (.slice none 0 0)))
  have g_w2 : Keep (Grown w1 (w1.setRow b2 (vtx (fun _ => 0) 0 (.slice none 0 0))) fun k => k = b2) := ⟨Grown.setRow w1 b2 _ fun _ => rfl⟩
  clear H2
  generalize w1.setRow b2 (vtx (fun _ => 0) 0 (.slice none 0 0)) = w2 at *
  clear cq
  simp only [Act.put]
  refine WL.val (by kernel_rfl) (.bool false) (by go_simp) ?_
  simp only [Act.put, List.setIfInBounds_toArray, List.set_cons_zero, List.set_cons_succ]
  refine WL.nil ?_
  refine hK6 _ _ ?_
  refine wp_ret ?_
  have k1 := hb2.out
  exact bodyPost_ret (Nd.results_cell_row2 Tryz.results40 _ _ b2 62 _ (0, 0) _ _ rfl rfl H3.out Tryz.underlying62 rfl (sizeV62 _ _ _)) rfl ⟨rfl, b_b2.out.trans (g_w2.out.to_below (fun k hk e => by omega) b_b2.out.size)⟩
set_option maxRecDepth 8000 in
theorem follow_none (s d mb : Nat) (g : DG) (Av : Nat → Prop) (w : World) (HS : Keep (ShAt w s d mb g Av)) (HQ : Keep (g.queue = [])) : Calls Tryz.prog 24 #[.pointer (some ⟨s, 0, none⟩)] w fun e w' => e = .returned (.tuple #[.slice none 0 0, .slice none 0 0]) ∧ Below w.heap.size w w' := by
  go_enter Tryz.func24, Tryz.ntmps24
  refine wp_seq_k fun K1 hK1 => ?_
  refine wp_region_list (WL.out ?_)
  refine WL.val (by kernel_rfl) (.slice none 0 0) (by go_simp) ?_
  simp only [Act.put, List.setIfInBounds_toArray, List.set_cons_zero, List.set_cons_succ]
  refine WL.val (by kernel_rfl) (.slice none 0 0) (by go_simp) ?_
  simp only [Act.put, List.setIfInBounds_toArray, List.set_cons_zero, List.set_cons_succ]
  refine WL.nil ?_
  refine hK1 _ _ ?_
  refine wp_block ?_
  refine wp_loop_rounds 1 ?_
  rw [rounds_succ]
  refine wp_block ?_
  refine wp_seq_k fun K2 hK2 => ?_
  refine wp_region_list (WL.out ?_)
  refine WL.val (by kernel_rfl) (.pointer (some ⟨s, 0, none⟩)) (by go_simp) ?_
  simp only [Act.put, List.setIfInBounds_toArray, List.set_cons_zero, List.set_cons_succ]
  refine WL.val (by kernel_rfl) (.pointer (some ⟨s, 0, none⟩)) (by go_simp) ?_
  simp only [Act.put, List.setIfInBounds_toArray, List.set_cons_zero, List.set_cons_succ]
  refine WL.val (by kernel_rfl) (.pointer (some ⟨s, 1, none⟩)) (by go_simp) ?_
  simp only [Act.put, List.setIfInBounds_toArray, List.set_cons_zero, List.set_cons_succ]
  have cs := HS.out.bl.c 1 rfl
  refine WL.val (by kernel_rfl) (.pointer (some ⟨d, 0, none⟩)) (by go_simp) ?_
  clear cs
  simp only [Act.put, List.setIfInBounds_toArray, List.set_cons_zero, List.set_cons_succ]
  refine WL.callF (by kernel_rfl) 40 _ _ rfl Tryz.in40 #[.pointer (some ⟨d, 0, none⟩)] (by simp [Act.eval]) ?_
  refine (next_none d g Av w ⟨HS.out.dg⟩ HQ).mono ?_
  rintro e w1 ⟨rfl, hb⟩
  refine ⟨_, rfl, ?_⟩
  have B1 := Keep.mk hb
  clear hb
  simp only [Act.put, List.setIfInBounds_toArray, List.set_cons_zero, List.set_cons_succ]
  refine WL.val (by kernel_rfl) (.tuple #[.agg (vtx (fun _ => 0) 0 (.slice none 0 0)), .bool false]) (by go_simp) ?_
  simp only [Act.put, List.setIfInBounds_toArray, List.set_cons_zero, List.set_cons_succ]
  refine WL.val (by kernel_rfl) (.agg (vtx (fun _ => 0) 0 (.slice none 0 0))) (by go_simp) ?_
  simp only [Act.put, List.setIfInBounds_toArray, List.set_cons_zero, List.set_cons_succ]
  refine WL.val (by kernel_rfl) (.bool false) (by go_simp) ?_
  simp only [Act.put, List.setIfInBounds_toArray, List.set_cons_zero, List.set_cons_succ]
  refine WL.new (by kernel_rfl) 62 rfl _ Tryz.new62v ?_
  have H4 := Keep.mk (Blk.new w1 62 (vtx (fun _ => 0) 0 (.slice none 0 0)))
  have b_b4 := Keep.mk (below_new w1 (.cells (vtx (fun _ => 0) 0 (.slice none 0 0)) 62))
  generalize w1.alloc (.cells (vtx (fun _ => 0) 0 (.slice none 0 0)) 62) = w2 at *
  obtain ⟨b4, hb4⟩ : ∃ z, Keep (z = w1.heap.size) := ⟨_, ⟨rfl⟩⟩
  rw [← hb4.out] at H4 ⊢
  simp only [Act.put, List.setIfInBounds_toArray, List.set_cons_zero, List.set_cons_succ]
  refine WL.storeR (by kernel_rfl) 62 (.tmp 4) (.tmp 12) rfl b4 (vtx (fun _ => 0) 0 (.slice none 0 0)) rfl rfl 62 (vtx (fun _ => 0) 0 (.slice none 0 0)) H4.out (sizeV62 _ _ _) rfl (vtx_one _ _ _ (slice_one _ _ _)) ?_
  have H5 := Keep.mk (H4.out.setRow (vtx (fun _ => 0) 0 (.slice none 0 0)))
  have g_w3 : Keep (Grown w2 (w2.setRow b4 (vtx (fun _ => 0) 0 (.slice none 0 0))) fun k => k = b4) := ⟨Grown.setRow w2 b4 _ fun _ => rfl⟩
  clear H4
  generalize w2.setRow b4 (vtx (fun _ => 0) 0 (.slice none 0 0)) = w3 at *
  simp only [Act.put]
  refine WL.val (by kernel_rfl) (.bool false) (by go_simp) ?_
  simp only [Act.put, List.setIfInBounds_toArray, List.set_cons_zero, List.set_cons_succ]
  refine WL.nil ?_
  refine hK2 _ _ ?_
  refine wp_seq_k fun K3 hK3 => ?_
  refine wp_seq_k fun K4 hK4 => ?_
  refine wp_region_list (WL.out ?_)
  refine WL.val (by kernel_rfl) (.bool false) (by go_simp) ?_
  simp only [Act.put, List.setIfInBounds_toArray, List.set_cons_zero, List.set_cons_succ]
  refine WL.val (by kernel_rfl) (.bool true) (by go_simp) ?_
  simp only [Act.put, List.setIfInBounds_toArray, List.set_cons_zero, List.set_cons_succ]
  refine WL.nil ?_
  refine hK4 _ _ ?_
  refine wp_cond_true rfl ?_
  refine wp_seq_k fun K5 hK5 => ?_
  refine wp_region_list (WL.out ?_)
  refine WL.val (by kernel_rfl) (.slice none 0 0) (by go_simp) ?_
  simp only [Act.put, List.setIfInBounds_toArray, List.set_cons_zero, List.set_cons_succ]
  refine WL.val (by kernel_rfl) (.slice none 0 0) (by go_simp) ?_
  simp only [Act.put, List.setIfInBounds_toArray, List.set_cons_zero, List.set_cons_succ]
  refine WL.val (by kernel_rfl) (.slice none 0 0) (by go_simp) ?_
  simp only [Act.put, List.setIfInBounds_toArray, List.set_cons_zero, List.set_cons_succ]
  refine WL.val (by kernel_rfl) (.slice none 0 0) (by go_simp) ?_
  simp only [Act.put, List.setIfInBounds_toArray, List.set_cons_zero, List.set_cons_succ]
  refine WL.nil ?_
  refine hK5 _ _ ?_
  refine wp_ret ?_
  have k1 := hb4.out
  have k2 := B1.out.size
  try simp only [Exit.inBlock, Exit.then]
  exact bodyPost_ret (results_tmp2 (fn := Tryz.f24) rfl _ _ _) rfl ⟨rfl, B1.out.trans ((b_b4.out.mono k2).trans (g_w3.out.to_below (fun k hk e => by omega) (Nat.le_trans k2 b_b4.out.size)))⟩

end Go.Proofs.YtibaindbnemlcaaGreatDoor
