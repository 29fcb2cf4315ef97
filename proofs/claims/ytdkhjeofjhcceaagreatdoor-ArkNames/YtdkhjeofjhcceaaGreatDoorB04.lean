import Derived.Test.YtdkhjeofjhcceaaGreatDoorB03
import Derived.Test.YtdkhjeofjhcceaaGreatDoorChecked
import Derived.WalkKit
import Derived.WalkSpells
import Derived.WalkLawsBesides
import Derived.BigQuiet
import Derived.BigRegion
import Derived.Deep.WholeRow
import Derived.Deep.MidRow
import Derived.Deep.RegionWith
import Derived.Deep.DeepCutAuto
import Derived.Deep.RegionHeld3
import Derived.Deep.QuietTactic
import Derived.Laws.OwnMore
import Derived.Laws.BytesArg
import Derived.Lib.AppendStr
import Derived.Maps.AppendAt
import Derived.Deep.DeepAppendWide
import Derived.ChangeKeysEq
import Derived.Laws.StructEq
namespace Go.Proofs.YtdkhjeofjhcceaaGreatDoor
open Go.RowKit
set_option linter.unusedSimpArgs false
set_option linter.unusedVariables false

theorem Tryz.in91 (w : World) (vs : Array Value) : (callFunc 91 vs).run Tryz.prog w = .ok (.enter 91 vs) w := by kernel_rfl
def NewL (w w' : World) (v v' : Value) (l' : List Hs) : Prop := OwnH w' v' l' ∧ (Grown w w' fun k => v.ownBlock = some k) ∧ Moved w v v'
def InsOk (l : List Hs) (i : Nat) (y : Hs) (l' : List Hs) : Prop := ∀ (v : Value) (gx : Nat) (w : World), OwnH w v l → Blk w gx 50 (bytesA 32 y.f) → v.ownBlock ≠ some gx → Calls Tryz.prog 81 #[v, .int .i64 (i : Int), .slice (some ⟨gx, 0, none⟩) 1 1] w fun e w' => ∃ v', e = .returned v' ∧ NewL w w' v v' l'
def DelOk (l : List Hs) (x : VX) (l' : List Hs) : Prop := ∀ (v p : Value) (b : Nat) (w : World), OwnH w v l → Blk w b 61 (vtx x.id.f x.ck p) → HRow w p x.ps → (∀ k, v.ownBlock = some k → p.ownBlock ≠ some k) → Calls Tryz.prog 113 #[v, .func (.func 114) #[] #[ptr b]] w fun e w' => ∃ v', e = .returned v' ∧ NewL w w' v v' l'
structure Ste (w w' : World) (Av : Nat → Prop) (d : Nat) (g g' : DG) : Prop where
  at' : DagAt w' (fun k => Av k ∨ DgS d g' k) d g'
  grown : Grown w w' (DgS d g)
  sub : ∀ k, DgS d g' k → DgS d g k ∨ w.heap.size ≤ k
theorem wp_bs {P : Program} {Q : Exit → Act → World → Prop} {o : Oper} {a : Act} {w : World} {K : Act → World → Prop} (t : TypeId) (n : Nat) (parts : Array (Nat × Operand)) (ho : o.op = .buildSlice t n parts)
    (vs : Array (Nat × Value)) (hv : (parts.map fun (i, x) => (i, a.eval x)) = vs) (v : Value) (w' : World) (hrun : (Instr.buildSlice t n vs).run P w = .ok v w') (h : K (a.put o.dst v) w') : o.wp P a w K Q := by
  unfold Oper.wp execOp
  simp only [ho, hv, Sem.run_bind, hrun, Result.andThen_ok]
  exact h
theorem take_end {w w9 : World} {Av Av9 : Nat → Prop} {d : Nat} {g : DG} {v : VX} {v4 v6 v9 : Value} {o' h1 h2 : List Hs} (h : DagAt w Av d g) (h9 : DagAt w9 Av9 d { { { { g with held := g.held ++ [v] } with ov := v4, order := o' } with hv := v6, heads := h1 } with hv := v9, heads := h2 }) (hA : ∀ k, Av k → Av9 k) (hg : Grown w w9 (DgS d g)) (m4 : Moved w g.ov v4) (m6 : Moved w g.hv v6) (m8 : Moved w v6 v9) : Ste w w9 Av d g { { { { g with held := g.held ++ [v] } with ov := v4, order := o' } with hv := v6, heads := h1 } with hv := v9, heads := h2 } := by
  refine ⟨h9.avInto (fun k hk => hk.elim (hA k) (h9.av k)) (fun k hk => .inr hk), hg, ?_⟩
  rintro k (hk | hk | hk | hk | hk | hk)
  · exact .inl (.inl hk)
  · exact .inl (.inr (.inl hk))
  · exact .inl (.inr (.inr (.inl hk)))
  · have hk : v9.ownBlock = some k := hk
    rcases m8 with e | ⟨q, e, hq⟩
    · rw [e] at hk
      rcases m6 with e | ⟨q, e, hq⟩
      · rw [e] at hk; exact .inl (.inr (.inr (.inr (.inl hk))))
      · rw [hk] at e; have := Option.some.inj e; right; omega
    · rw [hk] at e; have := Option.some.inj e; right; omega
  · have hk : v4.ownBlock = some k := hk
    rcases m4 with e | ⟨q, e, hq⟩
    · rw [e] at hk; exact .inl (.inr (.inr (.inr (.inr (.inl hk)))))
    · rw [hk] at e; have := Option.some.inj e; right; omega
  · exact .inl (.inr (.inr (.inr (.inr (.inr hk)))))
set_option maxRecDepth 8000 in
set_option maxHeartbeats 2000000 in
theorem take_gen (d : Nat) (v : VX) (p : Value) (Av : Nat → Prop) (g : DG) (w : World) (at_ : Nat) (o' h1 h2 : List Hs) (hD : DagAt w Av d g) (hr : HRow w p v.ps) (hk : ∀ k, p.ownBlock = some k → k < w.heap.size ∧ ¬ Av k) (hF : g.held.find? (isV v.id) = none)
    (hP : ∀ (w1 : World) (Av1 : Nat → Prop) (p1 : Value) (g1 : DG), DagAt w1 Av1 d g1 → g1.order = g.order → HRow w1 p1 v.ps → Calls Tryz.prog 112 #[ptr d, .agg (vtx v.id.f v.ck p1)] w1 fun e w' => e = .returned (.int .i64 (at_ : Int)) ∧ Below w1.heap.size w1 w')
    (hI1 : InsOk g.order at_ v.id o') (hDf : DelOk g.heads v h1) (hInc : Inc h1) (hIl : h1.length ≤ 1000000000000) (hI2 : ∀ i, i ≤ h1.length → (∀ k, k < i → Lt (h1.getD k default) v.id) → (∀ k, i ≤ k → k < h1.length → ¬ Lt (h1.getD k default) v.id) → InsOk h1 i v.id h2) :
    Calls Tryz.prog 91 #[ptr d, .agg (vtx v.id.f v.ck p)] w fun e w' => e = .returned (.tuple #[]) ∧ ∃ g', Ste w w' Av d g g' ∧ g'.room = g.room ∧ g'.held = g.held ++ [v] ∧ g'.wait = g.wait ∧ g'.queue = g.queue ∧ g'.order = o' ∧ g'.heads = h2 := by
  obtain ⟨pa, pc, rfl⟩ := hr.form
  obtain ⟨vv, hvv⟩ : ∃ a : Array Value, Keep (a = vtx v.id.f v.ck (.slice pa v.ps.length pc)) := ⟨_, ⟨rfl⟩⟩
  rw [← hvv.out]
  have HD := Keep.mk hD
  have HR := Keep.mk hr
  have HK := Keep.mk hk
  have HF := Keep.mk hF
  have HP := Keep.mk hP
  have HI1 := Keep.mk hI1
  have HDf := Keep.mk hDf
  have HInc := Keep.mk hInc
  have HIl := Keep.mk hIl
  have HI2 := Keep.mk hI2
  clear hD hr hk hF hP hI1 hDf hInc hIl hI2
  go_enter Tryz.func91, Tryz.ntmps91
  refine wp_seq_k fun K1 hK1 => ?_
  refine wp_region_list (WL.out ?_)
  refine WL.box (by kernel_rfl) 61 (.tmp 1) rfl (vv) rfl ?_
  obtain ⟨w1, hwn⟩ : ∃ wx, Keep (wx = w.alloc (.cells (vv) 61)) := ⟨_, ⟨rfl⟩⟩
  rw [← hwn.out]
  have HX1 : Keep (Blk w1 w.heap.size 61 (vv)) := ⟨by rw [hwn.out]; exact Blk.new _ _ _⟩
  have LB1 : Keep (Below w.heap.size w w1) := ⟨by rw [hwn.out]; exact below_new _ _⟩
  clear hwn
  have HD1 := Keep.mk (HD.out.below LB1.out)
  have HR1 := Keep.mk (HR.out.below LB1.out)
  have HK1 : Keep (∀ k, (Value.slice pa v.ps.length pc).ownBlock = some k → k < w1.heap.size ∧ ¬ Av k) := ⟨fun k hk => ⟨Nat.lt_of_lt_of_le (HK.out k hk).1 LB1.out.size, (HK.out k hk).2⟩⟩
  clear HR
  simp only [Act.put, List.setIfInBounds_toArray, List.set_cons_zero, List.set_cons_succ]
  refine WL.nil ?_
  refine hK1 _ _ ?_
  refine wp_seq_k fun K2 hK2 => ?_
  have hS0 : Keep ((fun wx => wx.cell? ⟨d, 1, none⟩ = some (.map (some g.hb)) ∧ wx.rangeAt w.heap.size 0 (bytesA 32 v.id.f).toList ∧ wx.rangeAt w.heap.size 0 vv.toList) w1.drew) := ⟨⟨HD1.out.blk.drew.c 1 rfl, vtx_rng (hvv.out ▸ HX1.out.drew), blk_rng HX1.out.drew⟩⟩
  obtain ⟨w2, hr2, hm2, hg2⟩ := upd_new (HD1.out.drew).held (HD1.out.av _ (.inr (.inl rfl))) v HF.out _ (HR1.out.below (Below.refl _ _).drew) HK1.out
  rw [← hvv.out] at hr2
  refine wp_region_held_drew (S := fun wx => wx.cell? ⟨d, 1, none⟩ = some (.map (some g.hb)) ∧ wx.rangeAt w.heap.size 0 (bytesA 32 v.id.f).toList ∧ wx.rangeAt w.heap.size 0 vv.toList) (by kernel_rfl) (hS0.out) (fun hHeld => ?_)
  refine wpAnyH_take (i := 0) (oi := ⟨some 6, Op.move (Operand.tmp 0), 41, _, _, none⟩) (v := .pointer (some ⟨d, 0, none⟩)) rfl (by kernel_rfl) (by kernel_rfl) (by kernel_rfl) (fun _ _ _ h => h) (Or.inl ⟨by rfl, fun w hS => by obtain ⟨hS1, hS2, hS3⟩ := hS; go_simp⟩) hHeld ?_
  simp only [Act.put, List.setIfInBounds_toArray, List.set_cons_zero, List.set_cons_succ]
  refine wpAnyH_take (i := 1) (oi := ⟨some 7, Op.nilCheck (Operand.tmp 6), 0, _, _, none⟩) (v := .pointer (some ⟨d, 0, none⟩)) rfl (by kernel_rfl) (by kernel_rfl) (by kernel_rfl) (fun _ _ _ h => h) (Or.inl ⟨by rfl, fun w hS => by obtain ⟨hS1, hS2, hS3⟩ := hS; go_simp⟩) hHeld ?_
  simp only [Act.put, List.setIfInBounds_toArray, List.set_cons_zero, List.set_cons_succ]
  refine wpAnyH_take (i := 2) (oi := ⟨some 8, Op.fieldAddr 82 (Operand.tmp 7) 1, 0, _, _, none⟩) (v := .pointer (some ⟨d, 1, none⟩)) rfl (by kernel_rfl) (by kernel_rfl) (by kernel_rfl) (fun _ _ _ h => h) (Or.inl ⟨by rfl, fun w hS => by obtain ⟨hS1, hS2, hS3⟩ := hS; go_simp⟩) hHeld ?_
  simp only [Act.put, List.setIfInBounds_toArray, List.set_cons_zero, List.set_cons_succ]
  refine wpAnyH_take (i := 3) (oi := ⟨some 9, Op.load 80 (Operand.tmp 8), 80, _, _, none⟩) (v := .map (some g.hb)) rfl (by kernel_rfl) (by kernel_rfl) (by kernel_rfl) (fun _ _ _ h => h) (Or.inl ⟨by rfl, fun w hS => by obtain ⟨hS1, hS2, hS3⟩ := hS; go_simp⟩) hHeld ?_
  simp only [Act.put, List.setIfInBounds_toArray, List.set_cons_zero, List.set_cons_succ]
  refine wpAnyH_take (i := 4) (oi := ⟨some 10, Op.fieldAddr 61 (Operand.tmp 3) 0, 0, _, _, none⟩) (v := .pointer (some ⟨w.heap.size, 0, none⟩)) rfl (by kernel_rfl) (by kernel_rfl) (by kernel_rfl) (fun _ _ _ h => h) (Or.inl ⟨by rfl, fun w hS => by obtain ⟨hS1, hS2, hS3⟩ := hS; go_simp⟩) hHeld ?_
  simp only [Act.put, List.setIfInBounds_toArray, List.set_cons_zero, List.set_cons_succ]
  refine wpAnyH_take (i := 5) (oi := ⟨some 11, Op.load 50 (Operand.tmp 10), 50, _, _, none⟩) (v := .agg (bytesA 32 v.id.f)) rfl (by kernel_rfl) (by kernel_rfl) (by kernel_rfl) (fun _ _ _ h => h) (yieldsIf_ld (by rfl) (Operand.tmp 10) 50 rfl w.heap.size 0 rfl (bytesA 32 v.id.f) _ Tryz.underlying50 rfl (size36A _) fun w hS => hS.2.1) hHeld ?_
  simp only [Act.put, List.setIfInBounds_toArray, List.set_cons_zero, List.set_cons_succ]
  refine wpAnyH_take (i := 6) (oi := ⟨some 12, Op.load 61 (Operand.tmp 3), 61, _, _, none⟩) (v := .agg vv) rfl (by kernel_rfl) (by kernel_rfl) (by kernel_rfl) (fun _ _ _ h => h) (yieldsIf_ld (by rfl) (Operand.tmp 3) 61 rfl w.heap.size 0 rfl vv _ Tryz.underlying61 rfl (by rw [hvv.out]; exact Tryz.info61s _ _ _) fun w hS => hS.2.2) hHeld ?_
  simp only [Act.put, List.setIfInBounds_toArray, List.set_cons_zero, List.set_cons_succ]
  refine wpAnyH_ready (rs := [7]) (by kernel_rfl) (by simp) ?_
  refine AllReadyH.cons (o := ⟨none, Op.mapUpdate 80 (Operand.tmp 9) (Operand.tmp 11) (Operand.tmp 12), 0, _, _, none⟩) rfl (fun K hK => ?_) AllReadyH.nil
  rw [if_pos (by rfl)]
  refine wp_upd (Operand.tmp 9) (Operand.tmp 11) (Operand.tmp 12) rfl _ _ _ rfl rfl rfl w2 hr2 ?_
  have HX2 := Keep.mk (hg2.blk HX1.out.drew fun e => HD1.out.held.ne HX1.out e)
  have HD2 := Keep.mk (HD1.out.drew.addHeld hm2 hg2)
  have HR2 := Keep.mk ((HR1.out.below (Below.refl _ _).drew).grown hg2 fun b o n c e hb => by subst hb; exact (HK1.out _ (by rw [e]; rfl)).2 (HD1.out.av _ (.inr (.inl rfl))))
  have G2 : Keep (Grown w w2 (DgS d g)) := ⟨(Grown.below (S := DgS d g) LB1.out).next (T := fun k => k = g.hb) ((Grown.refl w1 _).drew.trans hg2) fun i _ e => e ▸ .inr (.inl rfl)⟩
  have HK2 : Keep (∀ k, (Value.slice pa v.ps.length pc).ownBlock = some k → k < w2.heap.size ∧ ¬ Av k) := ⟨fun k hk => ⟨Nat.lt_of_lt_of_le (HK1.out k hk).1 hg2.size, (HK1.out k hk).2⟩⟩
  refine hK _ _ ⟨HD2.out.blk.c 1 rfl, vtx_rng (hvv.out ▸ HX2.out), blk_rng HX2.out⟩ fun hH1 => ?_
  clear hK hr2 hm2 hg2 hS0 HX1 HD1 HR1 HK1
  simp only [Act.put, List.setIfInBounds_toArray, List.set_cons_zero, List.set_cons_succ]
  refine wpAnyH_done (by kernel_rfl) ?_ _
  refine hK2 _ _ ?_
  refine wp_seq_k fun K3 hK3 => ?_
  obtain ⟨oa, oc, hov⟩ := HD2.out.oo.sl
  change g.ov = .slice oa g.order.length oc at hov
  have Hov := Keep.mk hov
  clear hov
  have c3 : Keep (∀ wx, Below w2.heap.size w2 wx → (fun wx => True ∧ wx.rangeAt w.heap.size 0 (bytesA 32 v.id.f).toList ∧ wx.rangeAt w.heap.size 0 vv.toList) wx) := ⟨fun wx hb => ⟨trivial, vtx_rng (hvv.out ▸ HX2.out.below hb HX2.out.lt), blk_rng (HX2.out.below hb HX2.out.lt)⟩⟩
  have B2 : Keep (Below w2.heap.size w2 w2.drew) := ⟨(Below.refl _ _).drew⟩
  refine wp_region_held_drew (S := fun wx => True ∧ wx.rangeAt w.heap.size 0 (bytesA 32 v.id.f).toList ∧ wx.rangeAt w.heap.size 0 vv.toList) (by kernel_rfl) (c3.out _ B2.out) (fun hHeld => ?_)
  refine wpAnyH_take (i := 0) (oi := ⟨some 13, Op.move (Operand.tmp 0), 41, _, _, none⟩) (v := .pointer (some ⟨d, 0, none⟩)) rfl (by kernel_rfl) (by kernel_rfl) (by kernel_rfl) (fun _ _ _ h => h) (Or.inl ⟨by rfl, fun w hS => by obtain ⟨hS1, hS2, hS3⟩ := hS; go_simp⟩) hHeld ?_
  simp only [Act.put, List.setIfInBounds_toArray, List.set_cons_zero, List.set_cons_succ]
  refine wpAnyH_take (i := 1) (oi := ⟨some 14, Op.move (Operand.tmp 0), 41, _, _, none⟩) (v := .pointer (some ⟨d, 0, none⟩)) rfl (by kernel_rfl) (by kernel_rfl) (by kernel_rfl) (fun _ _ _ h => h) (Or.inl ⟨by rfl, fun w hS => by obtain ⟨hS1, hS2, hS3⟩ := hS; go_simp⟩) hHeld ?_
  simp only [Act.put, List.setIfInBounds_toArray, List.set_cons_zero, List.set_cons_succ]
  refine wpAnyH_take (i := 2) (oi := ⟨some 15, Op.nilCheck (Operand.tmp 14), 0, _, _, none⟩) (v := .pointer (some ⟨d, 0, none⟩)) rfl (by kernel_rfl) (by kernel_rfl) (by kernel_rfl) (fun _ _ _ h => h) (Or.inl ⟨by rfl, fun w hS => by obtain ⟨hS1, hS2, hS3⟩ := hS; go_simp⟩) hHeld ?_
  simp only [Act.put, List.setIfInBounds_toArray, List.set_cons_zero, List.set_cons_succ]
  refine wpAnyH_take (i := 3) (oi := ⟨some 16, Op.fieldAddr 82 (Operand.tmp 15) 3, 0, _, _, none⟩) (v := .pointer (some ⟨d, 3, none⟩)) rfl (by kernel_rfl) (by kernel_rfl) (by kernel_rfl) (fun _ _ _ h => h) (Or.inl ⟨by rfl, fun w hS => by obtain ⟨hS1, hS2, hS3⟩ := hS; go_simp⟩) hHeld ?_
  simp only [Act.put, List.setIfInBounds_toArray, List.set_cons_zero, List.set_cons_succ]
  refine wpAnyH_take (i := 5) (oi := ⟨some 18, Op.move (Operand.tmp 0), 41, _, _, none⟩) (v := .pointer (some ⟨d, 0, none⟩)) rfl (by kernel_rfl) (by kernel_rfl) (by kernel_rfl) (fun _ _ _ h => h) (Or.inl ⟨by rfl, fun w hS => by obtain ⟨hS1, hS2, hS3⟩ := hS; go_simp⟩) hHeld ?_
  simp only [Act.put, List.setIfInBounds_toArray, List.set_cons_zero, List.set_cons_succ]
  refine wpAnyH_take (i := 6) (oi := ⟨some 19, Op.load 61 (Operand.tmp 3), 61, _, _, none⟩) (v := .agg vv) rfl (by kernel_rfl) (by kernel_rfl) (by kernel_rfl) (fun _ _ _ h => h) (yieldsIf_ld (by rfl) (Operand.tmp 3) 61 rfl w.heap.size 0 rfl vv _ Tryz.underlying61 rfl (by rw [hvv.out]; exact Tryz.info61s _ _ _) fun w hS => hS.2.2) hHeld ?_
  simp only [Act.put, List.setIfInBounds_toArray, List.set_cons_zero, List.set_cons_succ]
  refine wpAnyH_take (i := 8) (oi := ⟨some 21, Op.fieldAddr 61 (Operand.tmp 3) 0, 0, _, _, none⟩) (v := .pointer (some ⟨w.heap.size, 0, none⟩)) rfl (by kernel_rfl) (by kernel_rfl) (by kernel_rfl) (fun _ _ _ h => h) (Or.inl ⟨by rfl, fun w hS => by obtain ⟨hS1, hS2, hS3⟩ := hS; go_simp⟩) hHeld ?_
  simp only [Act.put, List.setIfInBounds_toArray, List.set_cons_zero, List.set_cons_succ]
  refine wpAnyH_take (i := 9) (oi := ⟨some 22, Op.load 50 (Operand.tmp 21), 50, _, _, none⟩) (v := .agg (bytesA 32 v.id.f)) rfl (by kernel_rfl) (by kernel_rfl) (by kernel_rfl) (fun _ _ _ h => h) (yieldsIf_ld (by rfl) (Operand.tmp 21) 50 rfl w.heap.size 0 rfl (bytesA 32 v.id.f) _ Tryz.underlying50 rfl (size36A _) fun w hS => hS.2.1) hHeld ?_
  simp only [Act.put, List.setIfInBounds_toArray, List.set_cons_zero, List.set_cons_succ]
  refine wpAnyH_ready (rs := [4, 7, 10]) (by kernel_rfl) (by simp) ?_
  refine AllReadyH.cons (o := ⟨some 17, Op.load 25 (Operand.tmp 16), 25, _, _, none⟩) rfl (fun K hK => ?_) (AllReadyH.cons (o := ⟨some 20, Op.call { callee := Callee.value (Operand.func 112), args := #[Operand.tmp 18, Operand.tmp 19], argTypes := #[41, 61] }, 3, _, _, none⟩) rfl (fun K hK => ?_) (AllReadyH.cons (o := ⟨some 23, Op.buildSlice 25 1 #[(0, Operand.tmp 22)], 25, _, _, none⟩) rfl (fun K hK => ?_) AllReadyH.nil))
  rw [if_pos (by rfl)]
  have c_o : w2.drew.cell? ⟨d, 3, none⟩ = some (.slice oa g.order.length oc) := by have h := (HD2.out.blk.below B2.out HD2.out.blk.lt).c 3 (by rfl : (dgA { g with held := g.held ++ [v] })[3]? = some g.ov); rw [Hov.out] at h; exact h
  refine wp_val (.slice oa g.order.length oc) (by go_simp) ?_
  clear c_o
  refine hK _ _ (c3.out _ B2.out) fun hQ1 => ?_
  clear hK
  simp only [Act.put, List.setIfInBounds_toArray, List.set_cons_zero, List.set_cons_succ]
  refine wpAnyH_ready (rs := [7, 10]) (by kernel_rfl) (by simp) ?_
  refine AllReadyH.cons (o := ⟨some 20, Op.call { callee := Callee.value (Operand.func 112), args := #[Operand.tmp 18, Operand.tmp 19], argTypes := #[41, 61] }, 3, _, _, none⟩) rfl (fun K hK => ?_) (AllReadyH.cons (o := ⟨some 23, Op.buildSlice 25 1 #[(0, Operand.tmp 22)], 25, _, _, none⟩) rfl (fun K hK => ?_) AllReadyH.nil)
  rw [if_pos (by rfl)]
  refine wp_callF 112 _ _ rfl Tryz.in112 #[ptr d, .agg vv] (by simp [Act.eval]) (fun u wx => u = .int .i64 (at_ : Int) ∧ Below w2.drew.heap.size w2.drew wx) (by have h := HP.out w2.drew _ (.slice pa v.ps.length pc) _ (HD2.out.below B2.out) rfl (HR2.out.below B2.out); rw [← hvv.out] at h; exact h.mono fun e w' h => ⟨_, h.1, rfl, h.2⟩) ?_
  rintro _ wa2 ⟨rfl, hb_⟩
  have BA2 := Keep.mk (belowT B2.out hb_)
  refine hK _ _ (c3.out _ BA2.out) fun hQ2 => ?_
  clear hK hb_
  simp only [Act.put, List.setIfInBounds_toArray, List.set_cons_zero, List.set_cons_succ]
  refine wpAnyH_ready (rs := [10]) (by kernel_rfl) (by simp) ?_
  refine AllReadyH.cons (o := ⟨some 23, Op.buildSlice 25 1 #[(0, Operand.tmp 22)], 25, _, _, none⟩) rfl (fun K hK => ?_) AllReadyH.nil
  rw [if_pos (by rfl)]
  refine wp_bs 25 1 _ rfl #[(0, .agg (bytesA 32 v.id.f))] (by simp [Act.eval]) _ _ (bsH v.id _) ?_
  have HGx := Keep.mk (Blk.new wa2 50 (bytesA 32 v.id.f))
  have BA3 := Keep.mk (belowT BA2.out (below_new wa2 (.cells (bytesA 32 v.id.f) 50)))
  have Lgx : Keep (w2.heap.size ≤ wa2.heap.size) := ⟨BA2.out.size⟩
  generalize wa2.alloc (.cells (bytesA 32 v.id.f) 50) = wa3 at *
  generalize wa2.heap.size = gx at *
  refine hK _ _ (c3.out _ BA3.out) fun hQ3 => ?_
  clear hK
  simp only [Act.put, List.setIfInBounds_toArray, List.set_cons_zero, List.set_cons_succ]
  refine wpAnyH_ready (rs := [11]) (by kernel_rfl) (by simp) ?_
  refine AllReadyH.cons (o := ⟨some 24, Op.call { callee := Callee.value (Operand.func 81), args := #[Operand.tmp 17, Operand.tmp 20, Operand.tmp 23], argTypes := #[25, 3, 25] }, 25, _, _, none⟩) rfl (fun K hK => ?_) AllReadyH.nil
  rw [if_pos (by rfl)]
  refine wp_callF 81 _ _ rfl Tryz.in81 #[.slice oa g.order.length oc, .int .i64 (at_ : Int), .slice (some ⟨gx, 0, none⟩) 1 1] (by simp [Act.eval]) (fun u wx => NewL wa3 wx (.slice oa g.order.length oc) u o') ((HI1.out _ gx wa3 (Hov.out ▸ (HD2.out.below BA3.out).oo) HGx.out fun e => by have := (HD2.out.oo).lt gx (by show g.ov.ownBlock = _; rw [Hov.out]; exact e); have := Lgx.out; omega)) ?_
  rintro v3 w3 h3
  have HN := Keep.mk h3
  have HX3 := Keep.mk (h3.2.1.blk (HX2.out.below BA3.out HX2.out.lt) fun e => by have := (((HD2.out.below BA3.out).oo).typ (by show g.ov.ownBlock = _; rw [Hov.out]; exact e)).one (HX2.out.below BA3.out HX2.out.lt).typ; revert this; decide)
  have HB3 := Keep.mk (h3.2.1.blk (HD2.out.below BA3.out).blk fun e => by have := (((HD2.out.below BA3.out).oo).typ (by show g.ov.ownBlock = _; rw [Hov.out]; exact e)).one (HD2.out.below BA3.out).blk.typ; revert this; decide)
  refine hK _ _ ⟨trivial, vtx_rng (hvv.out ▸ HX3.out), blk_rng HX3.out⟩ fun hH5 => ?_
  obtain ⟨a3, c3', e3⟩ := h3.1.sl
  subst e3
  clear hK h3
  simp only [Act.put, List.setIfInBounds_toArray, List.set_cons_zero, List.set_cons_succ]
  refine wpAnyH_take (i := 12) (oi := ⟨some 25, Op.nilCheck (Operand.tmp 13), 0, _, _, none⟩) (v := .pointer (some ⟨d, 0, none⟩)) rfl (by kernel_rfl) (by kernel_rfl) (by kernel_rfl) (fun _ _ _ h => h) (Or.inl ⟨by rfl, fun w hS => by obtain ⟨hS1, hS2, hS3⟩ := hS; go_simp⟩) hH5 ?_
  simp only [Act.put, List.setIfInBounds_toArray, List.set_cons_zero, List.set_cons_succ]
  refine wpAnyH_take (i := 13) (oi := ⟨some 26, Op.fieldAddr 82 (Operand.tmp 25) 3, 0, _, _, none⟩) (v := .pointer (some ⟨d, 3, none⟩)) rfl (by kernel_rfl) (by kernel_rfl) (by kernel_rfl) (fun _ _ _ h => h) (Or.inl ⟨by rfl, fun w hS => by obtain ⟨hS1, hS2, hS3⟩ := hS; go_simp⟩) hH5 ?_
  simp only [Act.put, List.setIfInBounds_toArray, List.set_cons_zero, List.set_cons_succ]
  refine wpAnyH_ready (rs := [14]) (by kernel_rfl) (by simp) ?_
  refine AllReadyH.cons (o := ⟨none, Op.store 25 (Operand.tmp 26) (Operand.tmp 24), 0, _, _, none⟩) rfl (fun K hK => ?_) AllReadyH.nil
  rw [if_pos (by rfl)]
  have f_o := HB3.out.frozen 3
  have c_o : w3.cell? ⟨d, 3, none⟩ = some (.slice oa g.order.length oc) := by have h := HB3.out.c 3 (by rfl : (dgA { g with held := g.held ++ [v] })[3]? = some g.ov); rw [Hov.out] at h; exact h
  refine wp_cellS (w3.setCell ⟨d, 3, none⟩ (.slice a3 o'.length c3')) (by go_simp) ?_
  clear f_o c_o
  have HD4 := Keep.mk ((HD2.out.below BA3.out).setO HN.out.1 (by show Grown _ _ fun k => g.ov.ownBlock = some k; rw [Hov.out]; exact HN.out.2.1) (by show Moved _ g.ov _; rw [Hov.out]; exact HN.out.2.2))
  have HX4 := Keep.mk (HX3.out.set_ne (b' := d) (j := 3) (fun e => by subst e; have := HX3.out.typ.one HB3.out.typ; revert this; decide) (.slice a3 o'.length c3'))
  have G4 : Keep (Grown w (w3.setCell ⟨d, 3, none⟩ (.slice a3 o'.length c3')) (DgS d g)) := ⟨((G2.out.trans (Grown.below BA3.out)).next HN.out.2.1 fun i _ e => .inr (.inr (.inr (.inr (.inl (by rw [Hov.out]; exact e)))))).next (Grown.setCell w3 d 3 _ (S := fun k => k = d) fun _ => rfl) fun i _ e => .inl e⟩
  have GS4 : Keep (Grown w2 (w3.setCell ⟨d, 3, none⟩ (.slice a3 o'.length c3')) (fun k => g.ov.ownBlock = some k ∨ k = d)) := ⟨((Grown.below (S := fun k => g.ov.ownBlock = some k ∨ k = d) BA3.out).next HN.out.2.1 fun i _ e => .inl (by rw [Hov.out]; exact e)).next (Grown.setCell w3 d 3 _ (S := fun k => k = d) fun _ => rfl) fun i _ e => .inr e⟩
  have M4 : Keep (Moved w g.ov (.slice a3 o'.length c3')) := ⟨by rw [Hov.out]; exact HN.out.2.2.imp id fun ⟨q, e, h⟩ => ⟨q, e, Nat.le_trans G2.out.size (Nat.le_trans BA3.out.size h)⟩⟩
  generalize w3.setCell ⟨d, 3, none⟩ (.slice a3 o'.length c3') = w4 at *
  obtain ⟨v4, hv4⟩ : ∃ u : Value, u = .slice a3 o'.length c3' := ⟨_, rfl⟩
  rw [← hv4] at HD4 M4 ⊢
  refine hK _ _ ⟨trivial, vtx_rng (hvv.out ▸ HX4.out), blk_rng HX4.out⟩ fun hH6 => ?_
  clear hK hH5 hH6 HB3 HX3 HN c3 hv4
  simp only [Act.put, List.setIfInBounds_toArray, List.set_cons_zero, List.set_cons_succ]
  refine wpAnyH_done (by kernel_rfl) ?_ _
  rotate_left
  rw [if_pos (by rfl)]
  refine wp_bs 25 1 _ rfl #[(0, .agg (bytesA 32 v.id.f))] (by simp [Act.eval]) _ _ (bsH v.id _) ?_
  have HGx := Keep.mk (Blk.new w2.drew 50 (bytesA 32 v.id.f))
  have BA2 := Keep.mk (belowT B2.out (below_new w2.drew (.cells (bytesA 32 v.id.f) 50)))
  have Lgx : Keep (w2.heap.size ≤ w2.drew.heap.size) := ⟨B2.out.size⟩
  generalize w2.drew.alloc (.cells (bytesA 32 v.id.f) 50) = wa2 at *
  generalize w2.drew.heap.size = gx at *
  refine hK _ _ (c3.out _ BA2.out) fun hQ2 => ?_
  clear hK
  simp only [Act.put, List.setIfInBounds_toArray, List.set_cons_zero, List.set_cons_succ]
  refine wpAnyH_ready (rs := [7]) (by kernel_rfl) (by simp) ?_
  refine AllReadyH.cons (o := ⟨some 20, Op.call { callee := Callee.value (Operand.func 112), args := #[Operand.tmp 18, Operand.tmp 19], argTypes := #[41, 61] }, 3, _, _, none⟩) rfl (fun K hK => ?_) AllReadyH.nil
  rw [if_pos (by rfl)]
  refine wp_callF 112 _ _ rfl Tryz.in112 #[ptr d, .agg vv] (by simp [Act.eval]) (fun u wx => u = .int .i64 (at_ : Int) ∧ Below wa2.heap.size wa2 wx) (by have h := HP.out wa2 _ (.slice pa v.ps.length pc) _ (HD2.out.below BA2.out) rfl (HR2.out.below BA2.out); rw [← hvv.out] at h; exact h.mono fun e w' h => ⟨_, h.1, rfl, h.2⟩) ?_
  rintro _ wa3 ⟨rfl, hb_⟩
  have BA3 := Keep.mk (belowT BA2.out hb_)
  have HGx := Keep.mk (HGx.out.below hb_ HGx.out.lt)
  refine hK _ _ (c3.out _ BA3.out) fun hQ3 => ?_
  clear hK hb_
  simp only [Act.put, List.setIfInBounds_toArray, List.set_cons_zero, List.set_cons_succ]
  refine wpAnyH_ready (rs := [11]) (by kernel_rfl) (by simp) ?_
  refine AllReadyH.cons (o := ⟨some 24, Op.call { callee := Callee.value (Operand.func 81), args := #[Operand.tmp 17, Operand.tmp 20, Operand.tmp 23], argTypes := #[25, 3, 25] }, 25, _, _, none⟩) rfl (fun K hK => ?_) AllReadyH.nil
  rw [if_pos (by rfl)]
  refine wp_callF 81 _ _ rfl Tryz.in81 #[.slice oa g.order.length oc, .int .i64 (at_ : Int), .slice (some ⟨gx, 0, none⟩) 1 1] (by simp [Act.eval]) (fun u wx => NewL wa3 wx (.slice oa g.order.length oc) u o') ((HI1.out _ gx wa3 (Hov.out ▸ (HD2.out.below BA3.out).oo) HGx.out fun e => by have := (HD2.out.oo).lt gx (by show g.ov.ownBlock = _; rw [Hov.out]; exact e); have := Lgx.out; omega)) ?_
  rintro v3 w3 h3
  have HN := Keep.mk h3
  have HX3 := Keep.mk (h3.2.1.blk (HX2.out.below BA3.out HX2.out.lt) fun e => by have := (((HD2.out.below BA3.out).oo).typ (by show g.ov.ownBlock = _; rw [Hov.out]; exact e)).one (HX2.out.below BA3.out HX2.out.lt).typ; revert this; decide)
  have HB3 := Keep.mk (h3.2.1.blk (HD2.out.below BA3.out).blk fun e => by have := (((HD2.out.below BA3.out).oo).typ (by show g.ov.ownBlock = _; rw [Hov.out]; exact e)).one (HD2.out.below BA3.out).blk.typ; revert this; decide)
  refine hK _ _ ⟨trivial, vtx_rng (hvv.out ▸ HX3.out), blk_rng HX3.out⟩ fun hH5 => ?_
  obtain ⟨a3, c3', e3⟩ := h3.1.sl
  subst e3
  clear hK h3
  simp only [Act.put, List.setIfInBounds_toArray, List.set_cons_zero, List.set_cons_succ]
  refine wpAnyH_take (i := 12) (oi := ⟨some 25, Op.nilCheck (Operand.tmp 13), 0, _, _, none⟩) (v := .pointer (some ⟨d, 0, none⟩)) rfl (by kernel_rfl) (by kernel_rfl) (by kernel_rfl) (fun _ _ _ h => h) (Or.inl ⟨by rfl, fun w hS => by obtain ⟨hS1, hS2, hS3⟩ := hS; go_simp⟩) hH5 ?_
  simp only [Act.put, List.setIfInBounds_toArray, List.set_cons_zero, List.set_cons_succ]
  refine wpAnyH_take (i := 13) (oi := ⟨some 26, Op.fieldAddr 82 (Operand.tmp 25) 3, 0, _, _, none⟩) (v := .pointer (some ⟨d, 3, none⟩)) rfl (by kernel_rfl) (by kernel_rfl) (by kernel_rfl) (fun _ _ _ h => h) (Or.inl ⟨by rfl, fun w hS => by obtain ⟨hS1, hS2, hS3⟩ := hS; go_simp⟩) hH5 ?_
  simp only [Act.put, List.setIfInBounds_toArray, List.set_cons_zero, List.set_cons_succ]
  refine wpAnyH_ready (rs := [14]) (by kernel_rfl) (by simp) ?_
  refine AllReadyH.cons (o := ⟨none, Op.store 25 (Operand.tmp 26) (Operand.tmp 24), 0, _, _, none⟩) rfl (fun K hK => ?_) AllReadyH.nil
  rw [if_pos (by rfl)]
  have f_o := HB3.out.frozen 3
  have c_o : w3.cell? ⟨d, 3, none⟩ = some (.slice oa g.order.length oc) := by have h := HB3.out.c 3 (by rfl : (dgA { g with held := g.held ++ [v] })[3]? = some g.ov); rw [Hov.out] at h; exact h
  refine wp_cellS (w3.setCell ⟨d, 3, none⟩ (.slice a3 o'.length c3')) (by go_simp) ?_
  clear f_o c_o
  have HD4 := Keep.mk ((HD2.out.below BA3.out).setO HN.out.1 (by show Grown _ _ fun k => g.ov.ownBlock = some k; rw [Hov.out]; exact HN.out.2.1) (by show Moved _ g.ov _; rw [Hov.out]; exact HN.out.2.2))
  have HX4 := Keep.mk (HX3.out.set_ne (b' := d) (j := 3) (fun e => by subst e; have := HX3.out.typ.one HB3.out.typ; revert this; decide) (.slice a3 o'.length c3'))
  have G4 : Keep (Grown w (w3.setCell ⟨d, 3, none⟩ (.slice a3 o'.length c3')) (DgS d g)) := ⟨((G2.out.trans (Grown.below BA3.out)).next HN.out.2.1 fun i _ e => .inr (.inr (.inr (.inr (.inl (by rw [Hov.out]; exact e)))))).next (Grown.setCell w3 d 3 _ (S := fun k => k = d) fun _ => rfl) fun i _ e => .inl e⟩
  have GS4 : Keep (Grown w2 (w3.setCell ⟨d, 3, none⟩ (.slice a3 o'.length c3')) (fun k => g.ov.ownBlock = some k ∨ k = d)) := ⟨((Grown.below (S := fun k => g.ov.ownBlock = some k ∨ k = d) BA3.out).next HN.out.2.1 fun i _ e => .inl (by rw [Hov.out]; exact e)).next (Grown.setCell w3 d 3 _ (S := fun k => k = d) fun _ => rfl) fun i _ e => .inr e⟩
  have M4 : Keep (Moved w g.ov (.slice a3 o'.length c3')) := ⟨by rw [Hov.out]; exact HN.out.2.2.imp id fun ⟨q, e, h⟩ => ⟨q, e, Nat.le_trans G2.out.size (Nat.le_trans BA3.out.size h)⟩⟩
  generalize w3.setCell ⟨d, 3, none⟩ (.slice a3 o'.length c3') = w4 at *
  obtain ⟨v4, hv4⟩ : ∃ u : Value, u = .slice a3 o'.length c3' := ⟨_, rfl⟩
  rw [← hv4] at HD4 M4 ⊢
  refine hK _ _ ⟨trivial, vtx_rng (hvv.out ▸ HX4.out), blk_rng HX4.out⟩ fun hH6 => ?_
  clear hK hH5 hH6 HB3 HX3 HN c3 hv4
  simp only [Act.put, List.setIfInBounds_toArray, List.set_cons_zero, List.set_cons_succ]
  refine wpAnyH_done (by kernel_rfl) ?_ _
  rotate_left
  rw [if_pos (by rfl)]
  refine wp_callF 112 _ _ rfl Tryz.in112 #[ptr d, .agg vv] (by simp [Act.eval]) (fun u wx => u = .int .i64 (at_ : Int) ∧ Below w2.drew.heap.size w2.drew wx) (by have h := HP.out w2.drew _ (.slice pa v.ps.length pc) _ (HD2.out.below B2.out) rfl (HR2.out.below B2.out); rw [← hvv.out] at h; exact h.mono fun e w' h => ⟨_, h.1, rfl, h.2⟩) ?_
  rintro _ wa1 ⟨rfl, hb_⟩
  have BA1 := Keep.mk (belowT B2.out hb_)
  refine hK _ _ (c3.out _ BA1.out) fun hQ1 => ?_
  clear hK hb_
  simp only [Act.put, List.setIfInBounds_toArray, List.set_cons_zero, List.set_cons_succ]
  refine wpAnyH_ready (rs := [4, 10]) (by kernel_rfl) (by simp) ?_
  refine AllReadyH.cons (o := ⟨some 17, Op.load 25 (Operand.tmp 16), 25, _, _, none⟩) rfl (fun K hK => ?_) (AllReadyH.cons (o := ⟨some 23, Op.buildSlice 25 1 #[(0, Operand.tmp 22)], 25, _, _, none⟩) rfl (fun K hK => ?_) AllReadyH.nil)
  rw [if_pos (by rfl)]
  have c_o : wa1.cell? ⟨d, 3, none⟩ = some (.slice oa g.order.length oc) := by have h := (HD2.out.blk.below BA1.out HD2.out.blk.lt).c 3 (by rfl : (dgA { g with held := g.held ++ [v] })[3]? = some g.ov); rw [Hov.out] at h; exact h
  refine wp_val (.slice oa g.order.length oc) (by go_simp) ?_
  clear c_o
  refine hK _ _ (c3.out _ BA1.out) fun hQ2 => ?_
  clear hK
  simp only [Act.put, List.setIfInBounds_toArray, List.set_cons_zero, List.set_cons_succ]
  refine wpAnyH_ready (rs := [10]) (by kernel_rfl) (by simp) ?_
  refine AllReadyH.cons (o := ⟨some 23, Op.buildSlice 25 1 #[(0, Operand.tmp 22)], 25, _, _, none⟩) rfl (fun K hK => ?_) AllReadyH.nil
  rw [if_pos (by rfl)]
  refine wp_bs 25 1 _ rfl #[(0, .agg (bytesA 32 v.id.f))] (by simp [Act.eval]) _ _ (bsH v.id _) ?_
  have HGx := Keep.mk (Blk.new wa1 50 (bytesA 32 v.id.f))
  have BA3 := Keep.mk (belowT BA1.out (below_new wa1 (.cells (bytesA 32 v.id.f) 50)))
  have Lgx : Keep (w2.heap.size ≤ wa1.heap.size) := ⟨BA1.out.size⟩
  generalize wa1.alloc (.cells (bytesA 32 v.id.f) 50) = wa3 at *
  generalize wa1.heap.size = gx at *
  refine hK _ _ (c3.out _ BA3.out) fun hQ3 => ?_
  clear hK
  simp only [Act.put, List.setIfInBounds_toArray, List.set_cons_zero, List.set_cons_succ]
  refine wpAnyH_ready (rs := [11]) (by kernel_rfl) (by simp) ?_
  refine AllReadyH.cons (o := ⟨some 24, Op.call { callee := Callee.value (Operand.func 81), args := #[Operand.tmp 17, Operand.tmp 20, Operand.tmp 23], argTypes := #[25, 3, 25] }, 25, _, _, none⟩) rfl (fun K hK => ?_) AllReadyH.nil
  rw [if_pos (by rfl)]
  refine wp_callF 81 _ _ rfl Tryz.in81 #[.slice oa g.order.length oc, .int .i64 (at_ : Int), .slice (some ⟨gx, 0, none⟩) 1 1] (by simp [Act.eval]) (fun u wx => NewL wa3 wx (.slice oa g.order.length oc) u o') ((HI1.out _ gx wa3 (Hov.out ▸ (HD2.out.below BA3.out).oo) HGx.out fun e => by have := (HD2.out.oo).lt gx (by show g.ov.ownBlock = _; rw [Hov.out]; exact e); have := Lgx.out; omega)) ?_
  rintro v3 w3 h3
  have HN := Keep.mk h3
  have HX3 := Keep.mk (h3.2.1.blk (HX2.out.below BA3.out HX2.out.lt) fun e => by have := (((HD2.out.below BA3.out).oo).typ (by show g.ov.ownBlock = _; rw [Hov.out]; exact e)).one (HX2.out.below BA3.out HX2.out.lt).typ; revert this; decide)
  have HB3 := Keep.mk (h3.2.1.blk (HD2.out.below BA3.out).blk fun e => by have := (((HD2.out.below BA3.out).oo).typ (by show g.ov.ownBlock = _; rw [Hov.out]; exact e)).one (HD2.out.below BA3.out).blk.typ; revert this; decide)
  refine hK _ _ ⟨trivial, vtx_rng (hvv.out ▸ HX3.out), blk_rng HX3.out⟩ fun hH5 => ?_
  obtain ⟨a3, c3', e3⟩ := h3.1.sl
  subst e3
  clear hK h3
  simp only [Act.put, List.setIfInBounds_toArray, List.set_cons_zero, List.set_cons_succ]
  refine wpAnyH_take (i := 12) (oi := ⟨some 25, Op.nilCheck (Operand.tmp 13), 0, _, _, none⟩) (v := .pointer (some ⟨d, 0, none⟩)) rfl (by kernel_rfl) (by kernel_rfl) (by kernel_rfl) (fun _ _ _ h => h) (Or.inl ⟨by rfl, fun w hS => by obtain ⟨hS1, hS2, hS3⟩ := hS; go_simp⟩) hH5 ?_
  simp only [Act.put, List.setIfInBounds_toArray, List.set_cons_zero, List.set_cons_succ]
  refine wpAnyH_take (i := 13) (oi := ⟨some 26, Op.fieldAddr 82 (Operand.tmp 25) 3, 0, _, _, none⟩) (v := .pointer (some ⟨d, 3, none⟩)) rfl (by kernel_rfl) (by kernel_rfl) (by kernel_rfl) (fun _ _ _ h => h) (Or.inl ⟨by rfl, fun w hS => by obtain ⟨hS1, hS2, hS3⟩ := hS; go_simp⟩) hH5 ?_
  simp only [Act.put, List.setIfInBounds_toArray, List.set_cons_zero, List.set_cons_succ]
  refine wpAnyH_ready (rs := [14]) (by kernel_rfl) (by simp) ?_
  refine AllReadyH.cons (o := ⟨none, Op.store 25 (Operand.tmp 26) (Operand.tmp 24), 0, _, _, none⟩) rfl (fun K hK => ?_) AllReadyH.nil
  rw [if_pos (by rfl)]
  have f_o := HB3.out.frozen 3
  have c_o : w3.cell? ⟨d, 3, none⟩ = some (.slice oa g.order.length oc) := by have h := HB3.out.c 3 (by rfl : (dgA { g with held := g.held ++ [v] })[3]? = some g.ov); rw [Hov.out] at h; exact h
  refine wp_cellS (w3.setCell ⟨d, 3, none⟩ (.slice a3 o'.length c3')) (by go_simp) ?_
  clear f_o c_o
  have HD4 := Keep.mk ((HD2.out.below BA3.out).setO HN.out.1 (by show Grown _ _ fun k => g.ov.ownBlock = some k; rw [Hov.out]; exact HN.out.2.1) (by show Moved _ g.ov _; rw [Hov.out]; exact HN.out.2.2))
  have HX4 := Keep.mk (HX3.out.set_ne (b' := d) (j := 3) (fun e => by subst e; have := HX3.out.typ.one HB3.out.typ; revert this; decide) (.slice a3 o'.length c3'))
  have G4 : Keep (Grown w (w3.setCell ⟨d, 3, none⟩ (.slice a3 o'.length c3')) (DgS d g)) := ⟨((G2.out.trans (Grown.below BA3.out)).next HN.out.2.1 fun i _ e => .inr (.inr (.inr (.inr (.inl (by rw [Hov.out]; exact e)))))).next (Grown.setCell w3 d 3 _ (S := fun k => k = d) fun _ => rfl) fun i _ e => .inl e⟩
  have GS4 : Keep (Grown w2 (w3.setCell ⟨d, 3, none⟩ (.slice a3 o'.length c3')) (fun k => g.ov.ownBlock = some k ∨ k = d)) := ⟨((Grown.below (S := fun k => g.ov.ownBlock = some k ∨ k = d) BA3.out).next HN.out.2.1 fun i _ e => .inl (by rw [Hov.out]; exact e)).next (Grown.setCell w3 d 3 _ (S := fun k => k = d) fun _ => rfl) fun i _ e => .inr e⟩
  have M4 : Keep (Moved w g.ov (.slice a3 o'.length c3')) := ⟨by rw [Hov.out]; exact HN.out.2.2.imp id fun ⟨q, e, h⟩ => ⟨q, e, Nat.le_trans G2.out.size (Nat.le_trans BA3.out.size h)⟩⟩
  generalize w3.setCell ⟨d, 3, none⟩ (.slice a3 o'.length c3') = w4 at *
  obtain ⟨v4, hv4⟩ : ∃ u : Value, u = .slice a3 o'.length c3' := ⟨_, rfl⟩
  rw [← hv4] at HD4 M4 ⊢
  refine hK _ _ ⟨trivial, vtx_rng (hvv.out ▸ HX4.out), blk_rng HX4.out⟩ fun hH6 => ?_
  clear hK hH5 hH6 HB3 HX3 HN c3 hv4
  simp only [Act.put, List.setIfInBounds_toArray, List.set_cons_zero, List.set_cons_succ]
  refine wpAnyH_done (by kernel_rfl) ?_ _
  rotate_left
  rw [if_pos (by rfl)]
  refine wp_bs 25 1 _ rfl #[(0, .agg (bytesA 32 v.id.f))] (by simp [Act.eval]) _ _ (bsH v.id _) ?_
  have HGx := Keep.mk (Blk.new wa1 50 (bytesA 32 v.id.f))
  have BA2 := Keep.mk (belowT BA1.out (below_new wa1 (.cells (bytesA 32 v.id.f) 50)))
  have Lgx : Keep (w2.heap.size ≤ wa1.heap.size) := ⟨BA1.out.size⟩
  generalize wa1.alloc (.cells (bytesA 32 v.id.f) 50) = wa2 at *
  generalize wa1.heap.size = gx at *
  refine hK _ _ (c3.out _ BA2.out) fun hQ2 => ?_
  clear hK
  simp only [Act.put, List.setIfInBounds_toArray, List.set_cons_zero, List.set_cons_succ]
  refine wpAnyH_ready (rs := [4]) (by kernel_rfl) (by simp) ?_
  refine AllReadyH.cons (o := ⟨some 17, Op.load 25 (Operand.tmp 16), 25, _, _, none⟩) rfl (fun K hK => ?_) AllReadyH.nil
  rw [if_pos (by rfl)]
  have c_o : wa2.cell? ⟨d, 3, none⟩ = some (.slice oa g.order.length oc) := by have h := (HD2.out.blk.below BA2.out HD2.out.blk.lt).c 3 (by rfl : (dgA { g with held := g.held ++ [v] })[3]? = some g.ov); rw [Hov.out] at h; exact h
  refine wp_val (.slice oa g.order.length oc) (by go_simp) ?_
  clear c_o
  refine hK _ _ (c3.out _ BA2.out) fun hQ3 => ?_
  clear hK
  simp only [Act.put, List.setIfInBounds_toArray, List.set_cons_zero, List.set_cons_succ]
  refine wpAnyH_ready (rs := [11]) (by kernel_rfl) (by simp) ?_
  refine AllReadyH.cons (o := ⟨some 24, Op.call { callee := Callee.value (Operand.func 81), args := #[Operand.tmp 17, Operand.tmp 20, Operand.tmp 23], argTypes := #[25, 3, 25] }, 25, _, _, none⟩) rfl (fun K hK => ?_) AllReadyH.nil
  rw [if_pos (by rfl)]
  refine wp_callF 81 _ _ rfl Tryz.in81 #[.slice oa g.order.length oc, .int .i64 (at_ : Int), .slice (some ⟨gx, 0, none⟩) 1 1] (by simp [Act.eval]) (fun u wx => NewL wa2 wx (.slice oa g.order.length oc) u o') ((HI1.out _ gx wa2 (Hov.out ▸ (HD2.out.below BA2.out).oo) HGx.out fun e => by have := (HD2.out.oo).lt gx (by show g.ov.ownBlock = _; rw [Hov.out]; exact e); have := Lgx.out; omega)) ?_
  rintro v3 w3 h3
  have HN := Keep.mk h3
  have HX3 := Keep.mk (h3.2.1.blk (HX2.out.below BA2.out HX2.out.lt) fun e => by have := (((HD2.out.below BA2.out).oo).typ (by show g.ov.ownBlock = _; rw [Hov.out]; exact e)).one (HX2.out.below BA2.out HX2.out.lt).typ; revert this; decide)
  have HB3 := Keep.mk (h3.2.1.blk (HD2.out.below BA2.out).blk fun e => by have := (((HD2.out.below BA2.out).oo).typ (by show g.ov.ownBlock = _; rw [Hov.out]; exact e)).one (HD2.out.below BA2.out).blk.typ; revert this; decide)
  refine hK _ _ ⟨trivial, vtx_rng (hvv.out ▸ HX3.out), blk_rng HX3.out⟩ fun hH5 => ?_
  obtain ⟨a3, c3', e3⟩ := h3.1.sl
  subst e3
  clear hK h3
  simp only [Act.put, List.setIfInBounds_toArray, List.set_cons_zero, List.set_cons_succ]
  refine wpAnyH_take (i := 12) (oi := ⟨some 25, Op.nilCheck (Operand.tmp 13), 0, _, _, none⟩) (v := .pointer (some ⟨d, 0, none⟩)) rfl (by kernel_rfl) (by kernel_rfl) (by kernel_rfl) (fun _ _ _ h => h) (Or.inl ⟨by rfl, fun w hS => by obtain ⟨hS1, hS2, hS3⟩ := hS; go_simp⟩) hH5 ?_
  simp only [Act.put, List.setIfInBounds_toArray, List.set_cons_zero, List.set_cons_succ]
  refine wpAnyH_take (i := 13) (oi := ⟨some 26, Op.fieldAddr 82 (Operand.tmp 25) 3, 0, _, _, none⟩) (v := .pointer (some ⟨d, 3, none⟩)) rfl (by kernel_rfl) (by kernel_rfl) (by kernel_rfl) (fun _ _ _ h => h) (Or.inl ⟨by rfl, fun w hS => by obtain ⟨hS1, hS2, hS3⟩ := hS; go_simp⟩) hH5 ?_
  simp only [Act.put, List.setIfInBounds_toArray, List.set_cons_zero, List.set_cons_succ]
  refine wpAnyH_ready (rs := [14]) (by kernel_rfl) (by simp) ?_
  refine AllReadyH.cons (o := ⟨none, Op.store 25 (Operand.tmp 26) (Operand.tmp 24), 0, _, _, none⟩) rfl (fun K hK => ?_) AllReadyH.nil
  rw [if_pos (by rfl)]
  have f_o := HB3.out.frozen 3
  have c_o : w3.cell? ⟨d, 3, none⟩ = some (.slice oa g.order.length oc) := by have h := HB3.out.c 3 (by rfl : (dgA { g with held := g.held ++ [v] })[3]? = some g.ov); rw [Hov.out] at h; exact h
  refine wp_cellS (w3.setCell ⟨d, 3, none⟩ (.slice a3 o'.length c3')) (by go_simp) ?_
  clear f_o c_o
  have HD4 := Keep.mk ((HD2.out.below BA2.out).setO HN.out.1 (by show Grown _ _ fun k => g.ov.ownBlock = some k; rw [Hov.out]; exact HN.out.2.1) (by show Moved _ g.ov _; rw [Hov.out]; exact HN.out.2.2))
  have HX4 := Keep.mk (HX3.out.set_ne (b' := d) (j := 3) (fun e => by subst e; have := HX3.out.typ.one HB3.out.typ; revert this; decide) (.slice a3 o'.length c3'))
  have G4 : Keep (Grown w (w3.setCell ⟨d, 3, none⟩ (.slice a3 o'.length c3')) (DgS d g)) := ⟨((G2.out.trans (Grown.below BA2.out)).next HN.out.2.1 fun i _ e => .inr (.inr (.inr (.inr (.inl (by rw [Hov.out]; exact e)))))).next (Grown.setCell w3 d 3 _ (S := fun k => k = d) fun _ => rfl) fun i _ e => .inl e⟩
  have GS4 : Keep (Grown w2 (w3.setCell ⟨d, 3, none⟩ (.slice a3 o'.length c3')) (fun k => g.ov.ownBlock = some k ∨ k = d)) := ⟨((Grown.below (S := fun k => g.ov.ownBlock = some k ∨ k = d) BA2.out).next HN.out.2.1 fun i _ e => .inl (by rw [Hov.out]; exact e)).next (Grown.setCell w3 d 3 _ (S := fun k => k = d) fun _ => rfl) fun i _ e => .inr e⟩
  have M4 : Keep (Moved w g.ov (.slice a3 o'.length c3')) := ⟨by rw [Hov.out]; exact HN.out.2.2.imp id fun ⟨q, e, h⟩ => ⟨q, e, Nat.le_trans G2.out.size (Nat.le_trans BA2.out.size h)⟩⟩
  generalize w3.setCell ⟨d, 3, none⟩ (.slice a3 o'.length c3') = w4 at *
  obtain ⟨v4, hv4⟩ : ∃ u : Value, u = .slice a3 o'.length c3' := ⟨_, rfl⟩
  rw [← hv4] at HD4 M4 ⊢
  refine hK _ _ ⟨trivial, vtx_rng (hvv.out ▸ HX4.out), blk_rng HX4.out⟩ fun hH6 => ?_
  clear hK hH5 hH6 HB3 HX3 HN c3 hv4
  simp only [Act.put, List.setIfInBounds_toArray, List.set_cons_zero, List.set_cons_succ]
  refine wpAnyH_done (by kernel_rfl) ?_ _
  rotate_left
  rw [if_pos (by rfl)]
  refine wp_bs 25 1 _ rfl #[(0, .agg (bytesA 32 v.id.f))] (by simp [Act.eval]) _ _ (bsH v.id _) ?_
  have HGx := Keep.mk (Blk.new w2.drew 50 (bytesA 32 v.id.f))
  have BA1 := Keep.mk (belowT B2.out (below_new w2.drew (.cells (bytesA 32 v.id.f) 50)))
  have Lgx : Keep (w2.heap.size ≤ w2.drew.heap.size) := ⟨B2.out.size⟩
  generalize w2.drew.alloc (.cells (bytesA 32 v.id.f) 50) = wa1 at *
  generalize w2.drew.heap.size = gx at *
  refine hK _ _ (c3.out _ BA1.out) fun hQ1 => ?_
  clear hK
  simp only [Act.put, List.setIfInBounds_toArray, List.set_cons_zero, List.set_cons_succ]
  refine wpAnyH_ready (rs := [4, 7]) (by kernel_rfl) (by simp) ?_
  refine AllReadyH.cons (o := ⟨some 17, Op.load 25 (Operand.tmp 16), 25, _, _, none⟩) rfl (fun K hK => ?_) (AllReadyH.cons (o := ⟨some 20, Op.call { callee := Callee.value (Operand.func 112), args := #[Operand.tmp 18, Operand.tmp 19], argTypes := #[41, 61] }, 3, _, _, none⟩) rfl (fun K hK => ?_) AllReadyH.nil)
  rw [if_pos (by rfl)]
  have c_o : wa1.cell? ⟨d, 3, none⟩ = some (.slice oa g.order.length oc) := by have h := (HD2.out.blk.below BA1.out HD2.out.blk.lt).c 3 (by rfl : (dgA { g with held := g.held ++ [v] })[3]? = some g.ov); rw [Hov.out] at h; exact h
  refine wp_val (.slice oa g.order.length oc) (by go_simp) ?_
  clear c_o
  refine hK _ _ (c3.out _ BA1.out) fun hQ2 => ?_
  clear hK
  simp only [Act.put, List.setIfInBounds_toArray, List.set_cons_zero, List.set_cons_succ]
  refine wpAnyH_ready (rs := [7]) (by kernel_rfl) (by simp) ?_
  refine AllReadyH.cons (o := ⟨some 20, Op.call { callee := Callee.value (Operand.func 112), args := #[Operand.tmp 18, Operand.tmp 19], argTypes := #[41, 61] }, 3, _, _, none⟩) rfl (fun K hK => ?_) AllReadyH.nil
  rw [if_pos (by rfl)]
  refine wp_callF 112 _ _ rfl Tryz.in112 #[ptr d, .agg vv] (by simp [Act.eval]) (fun u wx => u = .int .i64 (at_ : Int) ∧ Below wa1.heap.size wa1 wx) (by have h := HP.out wa1 _ (.slice pa v.ps.length pc) _ (HD2.out.below BA1.out) rfl (HR2.out.below BA1.out); rw [← hvv.out] at h; exact h.mono fun e w' h => ⟨_, h.1, rfl, h.2⟩) ?_
  rintro _ wa3 ⟨rfl, hb_⟩
  have BA3 := Keep.mk (belowT BA1.out hb_)
  have HGx := Keep.mk (HGx.out.below hb_ HGx.out.lt)
  refine hK _ _ (c3.out _ BA3.out) fun hQ3 => ?_
  clear hK hb_
  simp only [Act.put, List.setIfInBounds_toArray, List.set_cons_zero, List.set_cons_succ]
  refine wpAnyH_ready (rs := [11]) (by kernel_rfl) (by simp) ?_
  refine AllReadyH.cons (o := ⟨some 24, Op.call { callee := Callee.value (Operand.func 81), args := #[Operand.tmp 17, Operand.tmp 20, Operand.tmp 23], argTypes := #[25, 3, 25] }, 25, _, _, none⟩) rfl (fun K hK => ?_) AllReadyH.nil
  rw [if_pos (by rfl)]
  refine wp_callF 81 _ _ rfl Tryz.in81 #[.slice oa g.order.length oc, .int .i64 (at_ : Int), .slice (some ⟨gx, 0, none⟩) 1 1] (by simp [Act.eval]) (fun u wx => NewL wa3 wx (.slice oa g.order.length oc) u o') ((HI1.out _ gx wa3 (Hov.out ▸ (HD2.out.below BA3.out).oo) HGx.out fun e => by have := (HD2.out.oo).lt gx (by show g.ov.ownBlock = _; rw [Hov.out]; exact e); have := Lgx.out; omega)) ?_
  rintro v3 w3 h3
  have HN := Keep.mk h3
  have HX3 := Keep.mk (h3.2.1.blk (HX2.out.below BA3.out HX2.out.lt) fun e => by have := (((HD2.out.below BA3.out).oo).typ (by show g.ov.ownBlock = _; rw [Hov.out]; exact e)).one (HX2.out.below BA3.out HX2.out.lt).typ; revert this; decide)
  have HB3 := Keep.mk (h3.2.1.blk (HD2.out.below BA3.out).blk fun e => by have := (((HD2.out.below BA3.out).oo).typ (by show g.ov.ownBlock = _; rw [Hov.out]; exact e)).one (HD2.out.below BA3.out).blk.typ; revert this; decide)
  refine hK _ _ ⟨trivial, vtx_rng (hvv.out ▸ HX3.out), blk_rng HX3.out⟩ fun hH5 => ?_
  obtain ⟨a3, c3', e3⟩ := h3.1.sl
  subst e3
  clear hK h3
  simp only [Act.put, List.setIfInBounds_toArray, List.set_cons_zero, List.set_cons_succ]
  refine wpAnyH_take (i := 12) (oi := ⟨some 25, Op.nilCheck (Operand.tmp 13), 0, _, _, none⟩) (v := .pointer (some ⟨d, 0, none⟩)) rfl (by kernel_rfl) (by kernel_rfl) (by kernel_rfl) (fun _ _ _ h => h) (Or.inl ⟨by rfl, fun w hS => by obtain ⟨hS1, hS2, hS3⟩ := hS; go_simp⟩) hH5 ?_
  simp only [Act.put, List.setIfInBounds_toArray, List.set_cons_zero, List.set_cons_succ]
  refine wpAnyH_take (i := 13) (oi := ⟨some 26, Op.fieldAddr 82 (Operand.tmp 25) 3, 0, _, _, none⟩) (v := .pointer (some ⟨d, 3, none⟩)) rfl (by kernel_rfl) (by kernel_rfl) (by kernel_rfl) (fun _ _ _ h => h) (Or.inl ⟨by rfl, fun w hS => by obtain ⟨hS1, hS2, hS3⟩ := hS; go_simp⟩) hH5 ?_
  simp only [Act.put, List.setIfInBounds_toArray, List.set_cons_zero, List.set_cons_succ]
  refine wpAnyH_ready (rs := [14]) (by kernel_rfl) (by simp) ?_
  refine AllReadyH.cons (o := ⟨none, Op.store 25 (Operand.tmp 26) (Operand.tmp 24), 0, _, _, none⟩) rfl (fun K hK => ?_) AllReadyH.nil
  rw [if_pos (by rfl)]
  have f_o := HB3.out.frozen 3
  have c_o : w3.cell? ⟨d, 3, none⟩ = some (.slice oa g.order.length oc) := by have h := HB3.out.c 3 (by rfl : (dgA { g with held := g.held ++ [v] })[3]? = some g.ov); rw [Hov.out] at h; exact h
  refine wp_cellS (w3.setCell ⟨d, 3, none⟩ (.slice a3 o'.length c3')) (by go_simp) ?_
  clear f_o c_o
  have HD4 := Keep.mk ((HD2.out.below BA3.out).setO HN.out.1 (by show Grown _ _ fun k => g.ov.ownBlock = some k; rw [Hov.out]; exact HN.out.2.1) (by show Moved _ g.ov _; rw [Hov.out]; exact HN.out.2.2))
  have HX4 := Keep.mk (HX3.out.set_ne (b' := d) (j := 3) (fun e => by subst e; have := HX3.out.typ.one HB3.out.typ; revert this; decide) (.slice a3 o'.length c3'))
  have G4 : Keep (Grown w (w3.setCell ⟨d, 3, none⟩ (.slice a3 o'.length c3')) (DgS d g)) := ⟨((G2.out.trans (Grown.below BA3.out)).next HN.out.2.1 fun i _ e => .inr (.inr (.inr (.inr (.inl (by rw [Hov.out]; exact e)))))).next (Grown.setCell w3 d 3 _ (S := fun k => k = d) fun _ => rfl) fun i _ e => .inl e⟩
  have GS4 : Keep (Grown w2 (w3.setCell ⟨d, 3, none⟩ (.slice a3 o'.length c3')) (fun k => g.ov.ownBlock = some k ∨ k = d)) := ⟨((Grown.below (S := fun k => g.ov.ownBlock = some k ∨ k = d) BA3.out).next HN.out.2.1 fun i _ e => .inl (by rw [Hov.out]; exact e)).next (Grown.setCell w3 d 3 _ (S := fun k => k = d) fun _ => rfl) fun i _ e => .inr e⟩
  have M4 : Keep (Moved w g.ov (.slice a3 o'.length c3')) := ⟨by rw [Hov.out]; exact HN.out.2.2.imp id fun ⟨q, e, h⟩ => ⟨q, e, Nat.le_trans G2.out.size (Nat.le_trans BA3.out.size h)⟩⟩
  generalize w3.setCell ⟨d, 3, none⟩ (.slice a3 o'.length c3') = w4 at *
  obtain ⟨v4, hv4⟩ : ∃ u : Value, u = .slice a3 o'.length c3' := ⟨_, rfl⟩
  rw [← hv4] at HD4 M4 ⊢
  refine hK _ _ ⟨trivial, vtx_rng (hvv.out ▸ HX4.out), blk_rng HX4.out⟩ fun hH6 => ?_
  clear hK hH5 hH6 HB3 HX3 HN c3 hv4
  simp only [Act.put, List.setIfInBounds_toArray, List.set_cons_zero, List.set_cons_succ]
  refine wpAnyH_done (by kernel_rfl) ?_ _
  rotate_left
  rw [if_pos (by rfl)]
  refine wp_callF 112 _ _ rfl Tryz.in112 #[ptr d, .agg vv] (by simp [Act.eval]) (fun u wx => u = .int .i64 (at_ : Int) ∧ Below wa1.heap.size wa1 wx) (by have h := HP.out wa1 _ (.slice pa v.ps.length pc) _ (HD2.out.below BA1.out) rfl (HR2.out.below BA1.out); rw [← hvv.out] at h; exact h.mono fun e w' h => ⟨_, h.1, rfl, h.2⟩) ?_
  rintro _ wa2 ⟨rfl, hb_⟩
  have BA2 := Keep.mk (belowT BA1.out hb_)
  have HGx := Keep.mk (HGx.out.below hb_ HGx.out.lt)
  refine hK _ _ (c3.out _ BA2.out) fun hQ2 => ?_
  clear hK hb_
  simp only [Act.put, List.setIfInBounds_toArray, List.set_cons_zero, List.set_cons_succ]
  refine wpAnyH_ready (rs := [4]) (by kernel_rfl) (by simp) ?_
  refine AllReadyH.cons (o := ⟨some 17, Op.load 25 (Operand.tmp 16), 25, _, _, none⟩) rfl (fun K hK => ?_) AllReadyH.nil
  rw [if_pos (by rfl)]
  have c_o : wa2.cell? ⟨d, 3, none⟩ = some (.slice oa g.order.length oc) := by have h := (HD2.out.blk.below BA2.out HD2.out.blk.lt).c 3 (by rfl : (dgA { g with held := g.held ++ [v] })[3]? = some g.ov); rw [Hov.out] at h; exact h
  refine wp_val (.slice oa g.order.length oc) (by go_simp) ?_
  clear c_o
  refine hK _ _ (c3.out _ BA2.out) fun hQ3 => ?_
  clear hK
  simp only [Act.put, List.setIfInBounds_toArray, List.set_cons_zero, List.set_cons_succ]
  refine wpAnyH_ready (rs := [11]) (by kernel_rfl) (by simp) ?_
  refine AllReadyH.cons (o := ⟨some 24, Op.call { callee := Callee.value (Operand.func 81), args := #[Operand.tmp 17, Operand.tmp 20, Operand.tmp 23], argTypes := #[25, 3, 25] }, 25, _, _, none⟩) rfl (fun K hK => ?_) AllReadyH.nil
  rw [if_pos (by rfl)]
  refine wp_callF 81 _ _ rfl Tryz.in81 #[.slice oa g.order.length oc, .int .i64 (at_ : Int), .slice (some ⟨gx, 0, none⟩) 1 1] (by simp [Act.eval]) (fun u wx => NewL wa2 wx (.slice oa g.order.length oc) u o') ((HI1.out _ gx wa2 (Hov.out ▸ (HD2.out.below BA2.out).oo) HGx.out fun e => by have := (HD2.out.oo).lt gx (by show g.ov.ownBlock = _; rw [Hov.out]; exact e); have := Lgx.out; omega)) ?_
  rintro v3 w3 h3
  have HN := Keep.mk h3
  have HX3 := Keep.mk (h3.2.1.blk (HX2.out.below BA2.out HX2.out.lt) fun e => by have := (((HD2.out.below BA2.out).oo).typ (by show g.ov.ownBlock = _; rw [Hov.out]; exact e)).one (HX2.out.below BA2.out HX2.out.lt).typ; revert this; decide)
  have HB3 := Keep.mk (h3.2.1.blk (HD2.out.below BA2.out).blk fun e => by have := (((HD2.out.below BA2.out).oo).typ (by show g.ov.ownBlock = _; rw [Hov.out]; exact e)).one (HD2.out.below BA2.out).blk.typ; revert this; decide)
  refine hK _ _ ⟨trivial, vtx_rng (hvv.out ▸ HX3.out), blk_rng HX3.out⟩ fun hH5 => ?_
  obtain ⟨a3, c3', e3⟩ := h3.1.sl
  subst e3
  clear hK h3
  simp only [Act.put, List.setIfInBounds_toArray, List.set_cons_zero, List.set_cons_succ]
  refine wpAnyH_take (i := 12) (oi := ⟨some 25, Op.nilCheck (Operand.tmp 13), 0, _, _, none⟩) (v := .pointer (some ⟨d, 0, none⟩)) rfl (by kernel_rfl) (by kernel_rfl) (by kernel_rfl) (fun _ _ _ h => h) (Or.inl ⟨by rfl, fun w hS => by obtain ⟨hS1, hS2, hS3⟩ := hS; go_simp⟩) hH5 ?_
  simp only [Act.put, List.setIfInBounds_toArray, List.set_cons_zero, List.set_cons_succ]
  refine wpAnyH_take (i := 13) (oi := ⟨some 26, Op.fieldAddr 82 (Operand.tmp 25) 3, 0, _, _, none⟩) (v := .pointer (some ⟨d, 3, none⟩)) rfl (by kernel_rfl) (by kernel_rfl) (by kernel_rfl) (fun _ _ _ h => h) (Or.inl ⟨by rfl, fun w hS => by obtain ⟨hS1, hS2, hS3⟩ := hS; go_simp⟩) hH5 ?_
  simp only [Act.put, List.setIfInBounds_toArray, List.set_cons_zero, List.set_cons_succ]
  refine wpAnyH_ready (rs := [14]) (by kernel_rfl) (by simp) ?_
  refine AllReadyH.cons (o := ⟨none, Op.store 25 (Operand.tmp 26) (Operand.tmp 24), 0, _, _, none⟩) rfl (fun K hK => ?_) AllReadyH.nil
  rw [if_pos (by rfl)]
  have f_o := HB3.out.frozen 3
  have c_o : w3.cell? ⟨d, 3, none⟩ = some (.slice oa g.order.length oc) := by have h := HB3.out.c 3 (by rfl : (dgA { g with held := g.held ++ [v] })[3]? = some g.ov); rw [Hov.out] at h; exact h
  refine wp_cellS (w3.setCell ⟨d, 3, none⟩ (.slice a3 o'.length c3')) (by go_simp) ?_
  clear f_o c_o
  have HD4 := Keep.mk ((HD2.out.below BA2.out).setO HN.out.1 (by show Grown _ _ fun k => g.ov.ownBlock = some k; rw [Hov.out]; exact HN.out.2.1) (by show Moved _ g.ov _; rw [Hov.out]; exact HN.out.2.2))
  have HX4 := Keep.mk (HX3.out.set_ne (b' := d) (j := 3) (fun e => by subst e; have := HX3.out.typ.one HB3.out.typ; revert this; decide) (.slice a3 o'.length c3'))
  have G4 : Keep (Grown w (w3.setCell ⟨d, 3, none⟩ (.slice a3 o'.length c3')) (DgS d g)) := ⟨((G2.out.trans (Grown.below BA2.out)).next HN.out.2.1 fun i _ e => .inr (.inr (.inr (.inr (.inl (by rw [Hov.out]; exact e)))))).next (Grown.setCell w3 d 3 _ (S := fun k => k = d) fun _ => rfl) fun i _ e => .inl e⟩
  have GS4 : Keep (Grown w2 (w3.setCell ⟨d, 3, none⟩ (.slice a3 o'.length c3')) (fun k => g.ov.ownBlock = some k ∨ k = d)) := ⟨((Grown.below (S := fun k => g.ov.ownBlock = some k ∨ k = d) BA2.out).next HN.out.2.1 fun i _ e => .inl (by rw [Hov.out]; exact e)).next (Grown.setCell w3 d 3 _ (S := fun k => k = d) fun _ => rfl) fun i _ e => .inr e⟩
  have M4 : Keep (Moved w g.ov (.slice a3 o'.length c3')) := ⟨by rw [Hov.out]; exact HN.out.2.2.imp id fun ⟨q, e, h⟩ => ⟨q, e, Nat.le_trans G2.out.size (Nat.le_trans BA2.out.size h)⟩⟩
  generalize w3.setCell ⟨d, 3, none⟩ (.slice a3 o'.length c3') = w4 at *
  obtain ⟨v4, hv4⟩ : ∃ u : Value, u = .slice a3 o'.length c3' := ⟨_, rfl⟩
  rw [← hv4] at HD4 M4 ⊢
  refine hK _ _ ⟨trivial, vtx_rng (hvv.out ▸ HX4.out), blk_rng HX4.out⟩ fun hH6 => ?_
  clear hK hH5 hH6 HB3 HX3 HN c3 hv4
  simp only [Act.put, List.setIfInBounds_toArray, List.set_cons_zero, List.set_cons_succ]
  refine wpAnyH_done (by kernel_rfl) ?_ _
  rotate_left
  all_goals
    refine hK3 _ _ ?_
    refine wp_seq_k fun K6 hK6 => ?_
    obtain ⟨ha, hc, hhv⟩ := HD4.out.oh.sl
    change g.hv = .slice ha g.heads.length hc at hhv
    have Hhv := Keep.mk hhv
    clear hhv
    have c2 : w4.cell? ⟨d, 2, none⟩ = some (.slice ha g.heads.length hc) := by have h := HD4.out.blk.c 2 (by rfl : (dgA { { g with held := g.held ++ [v] } with ov := v4, order := o' })[2]? = some g.hv); rw [Hhv.out] at h; exact h
    have HR4 := Keep.mk (HR2.out.grown GS4.out fun b o n c e hb => (HK2.out b (by rw [e]; rfl)).2 (hb.elim (fun h => HD2.out.av _ (.inr (.inr (.inr (.inr (.inl h)))))) fun h => HD2.out.av _ (.inl h)))
    have HK4 : Keep (∀ k, (Value.slice pa v.ps.length pc).ownBlock = some k → k < w4.heap.size ∧ ¬ Av k) := ⟨fun k hk => ⟨Nat.lt_of_lt_of_le (HK2.out k hk).1 GS4.out.size, (HK2.out k hk).2⟩⟩
    have AP : Keep (∀ k, (.slice ha g.heads.length hc : Value).ownBlock = some k → (Value.slice pa v.ps.length pc).ownBlock ≠ some k) := ⟨fun k hk e => (HK4.out k e).2 (HD2.out.av _ (.inr (.inr (.inr (.inl (by show g.hv.ownBlock = _; rw [Hhv.out]; exact hk))))))⟩
    refine wp_region_list (WL.out ?_)
    refine WL.val (by kernel_rfl) (.pointer (some ⟨d, 0, none⟩)) (by go_simp) ?_
    simp only [Act.put, List.setIfInBounds_toArray, List.set_cons_zero, List.set_cons_succ]
    refine WL.val (by kernel_rfl) (.pointer (some ⟨d, 0, none⟩)) (by go_simp) ?_
    simp only [Act.put, List.setIfInBounds_toArray, List.set_cons_zero, List.set_cons_succ]
    refine WL.val (by kernel_rfl) (.pointer (some ⟨d, 0, none⟩)) (by go_simp) ?_
    simp only [Act.put, List.setIfInBounds_toArray, List.set_cons_zero, List.set_cons_succ]
    refine WL.val (by kernel_rfl) (.pointer (some ⟨d, 2, none⟩)) (by go_simp) ?_
    simp only [Act.put, List.setIfInBounds_toArray, List.set_cons_zero, List.set_cons_succ]
    refine WL.val (by kernel_rfl) (.slice ha g.heads.length hc) (by go_simp) ?_
    simp only [Act.put, List.setIfInBounds_toArray, List.set_cons_zero, List.set_cons_succ]
    refine WL.val (by kernel_rfl) (.func (.func 114) #[] #[.pointer (some ⟨w.heap.size, 0, none⟩)]) (by go_simp) ?_
    simp only [Act.put, List.setIfInBounds_toArray, List.set_cons_zero, List.set_cons_succ]
    clear c2
    refine WL.callF (by kernel_rfl) 113 _ _ rfl Tryz.in113 #[.slice ha g.heads.length hc, .func (.func 114) #[] #[.pointer (some ⟨w.heap.size, 0, none⟩)]] (by simp [Act.eval]) ?_
    refine (HDf.out _ (.slice pa v.ps.length pc) w.heap.size w4 (Hhv.out ▸ HD4.out.oh) (hvv.out ▸ HX4.out) HR4.out AP.out).mono ?_
    rintro e w5 ⟨v5, rfl, h5⟩
    refine ⟨_, rfl, ?_⟩
    have HN5 := Keep.mk h5
    have HX5 := Keep.mk (h5.2.1.blk HX4.out fun e => by have := ((Hhv.out ▸ HD4.out.oh : OwnH w4 (.slice ha g.heads.length hc) g.heads).typ e).one HX4.out.typ; revert this; decide)
    have HB5 := Keep.mk (h5.2.1.blk HD4.out.blk fun e => by have := ((Hhv.out ▸ HD4.out.oh : OwnH w4 (.slice ha g.heads.length hc) g.heads).typ e).one HD4.out.blk.typ; revert this; decide)
    obtain ⟨a5, c5, e5⟩ := h5.1.sl
    subst e5
    clear h5
    simp only [Act.put, List.setIfInBounds_toArray, List.set_cons_zero, List.set_cons_succ]
    refine WL.val (by kernel_rfl) (.pointer (some ⟨d, 0, none⟩)) (by go_simp) ?_
    simp only [Act.put, List.setIfInBounds_toArray, List.set_cons_zero, List.set_cons_succ]
    refine WL.val (by kernel_rfl) (.pointer (some ⟨d, 2, none⟩)) (by go_simp) ?_
    simp only [Act.put, List.setIfInBounds_toArray, List.set_cons_zero, List.set_cons_succ]
    have f_o := HB5.out.frozen 2
    have c_o : w5.cell? ⟨d, 2, none⟩ = some (.slice ha g.heads.length hc) := by have h := HB5.out.c 2 (by rfl : (dgA { { g with held := g.held ++ [v] } with ov := v4, order := o' })[2]? = some g.hv); rw [Hhv.out] at h; exact h
    refine WL.cell (by kernel_rfl) (w5.setCell ⟨d, 2, none⟩ (.slice a5 h1.length c5)) (by go_simp) ?_
    clear f_o c_o
    have HD6 := Keep.mk (HD4.out.setH HN5.out.1 (by show Grown _ _ fun k => g.hv.ownBlock = some k; rw [Hhv.out]; exact HN5.out.2.1) (by show Moved _ g.hv _; rw [Hhv.out]; exact HN5.out.2.2))
    have HX6 := Keep.mk (HX5.out.set_ne (b' := d) (j := 2) (fun e => by subst e; have := HX5.out.typ.one HB5.out.typ; revert this; decide) (.slice a5 h1.length c5))
    have G6 : Keep (Grown w (w5.setCell ⟨d, 2, none⟩ (.slice a5 h1.length c5)) (DgS d g)) := ⟨(G4.out.next HN5.out.2.1 fun i _ e => .inr (.inr (.inr (.inl (by rw [Hhv.out]; exact e))))).next (Grown.setCell w5 d 2 _ (S := fun k => k = d) fun _ => rfl) fun i _ e => .inl e⟩
    have M6 : Keep (Moved w g.hv (.slice a5 h1.length c5)) := ⟨by rw [Hhv.out]; exact HN5.out.2.2.imp id fun ⟨q, e, h⟩ => ⟨q, e, Nat.le_trans G4.out.size h⟩⟩
    generalize w5.setCell ⟨d, 2, none⟩ (.slice a5 h1.length c5) = w6 at *
    obtain ⟨v6, hv6⟩ : ∃ u : Value, u = .slice a5 h1.length c5 := ⟨_, rfl⟩
    rw [← hv6] at HD6 M6
    have Hv6 := Keep.mk hv6
    clear hv6 HB5 HX5 HN5 HX4 HR4 AP HK4
    simp only [Act.put]
    refine WL.nil ?_
    refine hK6 _ _ ?_
    refine wp_seq_k fun K7 hK7 => ?_
    have hS0 : Keep ((fun wx => wx.cell? ⟨d, 2, none⟩ = some (.slice a5 h1.length c5) ∧ wx.rangeAt w.heap.size 0 (bytesA 32 v.id.f).toList ∧ wx.rangeAt w.heap.size 0 vv.toList) w6.drew) := ⟨⟨by have h := HD6.out.blk.drew.c 2 (by rfl : (dgA { { { g with held := g.held ++ [v] } with ov := v4, order := o' } with hv := v6, heads := h1 })[2]? = some v6); rw [Hv6.out] at h; exact h, vtx_rng (hvv.out ▸ HX6.out.drew), blk_rng HX6.out.drew⟩⟩
    refine wp_region_held_drew (S := fun wx => wx.cell? ⟨d, 2, none⟩ = some (.slice a5 h1.length c5) ∧ wx.rangeAt w.heap.size 0 (bytesA 32 v.id.f).toList ∧ wx.rangeAt w.heap.size 0 vv.toList) (by kernel_rfl) (hS0.out) (fun hHeld => ?_)
    refine wpAnyH_take (i := 0) (oi := ⟨some 37, Op.move (Operand.tmp 0), 41, _, _, none⟩) (v := .pointer (some ⟨d, 0, none⟩)) rfl (by kernel_rfl) (by kernel_rfl) (by kernel_rfl) (fun _ _ _ h => h) (Or.inl ⟨by rfl, fun w hS => by obtain ⟨hS1, hS2, hS3⟩ := hS; go_simp⟩) hHeld ?_
    simp only [Act.put, List.setIfInBounds_toArray, List.set_cons_zero, List.set_cons_succ]
    refine wpAnyH_take (i := 1) (oi := ⟨some 38, Op.nilCheck (Operand.tmp 37), 0, _, _, none⟩) (v := .pointer (some ⟨d, 0, none⟩)) rfl (by kernel_rfl) (by kernel_rfl) (by kernel_rfl) (fun _ _ _ h => h) (Or.inl ⟨by rfl, fun w hS => by obtain ⟨hS1, hS2, hS3⟩ := hS; go_simp⟩) hHeld ?_
    simp only [Act.put, List.setIfInBounds_toArray, List.set_cons_zero, List.set_cons_succ]
    refine wpAnyH_take (i := 2) (oi := ⟨some 39, Op.fieldAddr 82 (Operand.tmp 38) 2, 0, _, _, none⟩) (v := .pointer (some ⟨d, 2, none⟩)) rfl (by kernel_rfl) (by kernel_rfl) (by kernel_rfl) (fun _ _ _ h => h) (Or.inl ⟨by rfl, fun w hS => by obtain ⟨hS1, hS2, hS3⟩ := hS; go_simp⟩) hHeld ?_
    simp only [Act.put, List.setIfInBounds_toArray, List.set_cons_zero, List.set_cons_succ]
    refine wpAnyH_take (i := 3) (oi := ⟨some 40, Op.load 25 (Operand.tmp 39), 25, _, _, none⟩) (v := .slice a5 h1.length c5) rfl (by kernel_rfl) (by kernel_rfl) (by kernel_rfl) (fun _ _ _ h => h) (Or.inl ⟨by rfl, fun w hS => by obtain ⟨hS1, hS2, hS3⟩ := hS; go_simp⟩) hHeld ?_
    simp only [Act.put, List.setIfInBounds_toArray, List.set_cons_zero, List.set_cons_succ]
    refine wpAnyH_take (i := 4) (oi := ⟨some 41, Op.fieldAddr 61 (Operand.tmp 3) 0, 0, _, _, none⟩) (v := .pointer (some ⟨w.heap.size, 0, none⟩)) rfl (by kernel_rfl) (by kernel_rfl) (by kernel_rfl) (fun _ _ _ h => h) (Or.inl ⟨by rfl, fun w hS => by obtain ⟨hS1, hS2, hS3⟩ := hS; go_simp⟩) hHeld ?_
    simp only [Act.put, List.setIfInBounds_toArray, List.set_cons_zero, List.set_cons_succ]
    refine wpAnyH_take (i := 5) (oi := ⟨some 42, Op.load 50 (Operand.tmp 41), 50, _, _, none⟩) (v := .agg (bytesA 32 v.id.f)) rfl (by kernel_rfl) (by kernel_rfl) (by kernel_rfl) (fun _ _ _ h => h) (yieldsIf_ld (by rfl) (Operand.tmp 41) 50 rfl w.heap.size 0 rfl (bytesA 32 v.id.f) _ Tryz.underlying50 rfl (size36A _) fun w hS => hS.2.1) hHeld ?_
    simp only [Act.put, List.setIfInBounds_toArray, List.set_cons_zero, List.set_cons_succ]
    refine wpAnyH_ready (rs := [6]) (by kernel_rfl) (by simp) ?_
    refine AllReadyH.cons (o := ⟨some 43, Op.call { callee := Callee.value (Operand.func 79), args := #[Operand.tmp 40, Operand.tmp 42, Operand.func 80], argTypes := #[25, 50, 149] }, 147, _, _, none⟩) rfl (fun K hK => ?_) AllReadyH.nil
    rw [if_pos (by rfl)]
    have hrw : HRow w6.drew (.slice a5 h1.length c5) h1 := Hv6.out ▸ (HD6.out.drew.oh.row : HRow w6.drew v6 h1)
    have hbs := bsearch_any _ h1 v.id w6.drew hrw HInc.out (by have := HIl.out; omega)
    clear hrw
    refine wp_callF 79 _ _ rfl Tryz.in79 #[.slice a5 h1.length c5, .agg (bytesA 32 v.id.f), .func (.func 80) #[] #[]] (by simp [Act.eval]) (fun u wx => ∃ (i : Nat) (fd : Bool), u = .tuple #[.int .i64 (i : Int), .bool fd] ∧ InsOk h1 i v.id h2 ∧ Below w6.drew.heap.size w6.drew wx) (hbs.mono fun e w' ⟨i, fd, h1, h2, h3, h4, _, h6⟩ => ⟨_, h1, i, fd, rfl, HI2.out i h2 h3 h4, h6⟩) ?_
    clear hbs
    rintro _ w7 ⟨i2, fd, rfl, hi2, hb7⟩
    have HI2' := Keep.mk hi2
    have B7 : Keep (Below w6.heap.size w6 w7) := ⟨belowT (Below.refl _ w6).drew hb7⟩
    have HX7 := Keep.mk (HX6.out.below B7.out HX6.out.lt)
    have HD7 := Keep.mk (HD6.out.below B7.out)
    have G7 : Keep (Grown w w7 (DgS d g)) := ⟨G6.out.trans (Grown.below B7.out)⟩
    refine hK _ _ ⟨by have h := HD7.out.blk.c 2 (by rfl : (dgA { { { g with held := g.held ++ [v] } with ov := v4, order := o' } with hv := v6, heads := h1 })[2]? = some v6); rw [Hv6.out] at h; exact h, vtx_rng (hvv.out ▸ HX7.out), blk_rng HX7.out⟩ fun hH1 => ?_
    clear hK hi2 hb7 HX6 HD6 G6 B7 hS0
    simp only [Act.put, List.setIfInBounds_toArray, List.set_cons_zero, List.set_cons_succ]
    refine wpAnyH_take (i := 7) (oi := ⟨some 36, Op.move (Operand.tmp 43), 147, _, _, none⟩) (v := .tuple #[.int .i64 (i2 : Int), .bool fd]) rfl (by kernel_rfl) (by kernel_rfl) (by kernel_rfl) (fun _ _ _ h => h) (Or.inl ⟨by rfl, fun w hS => by obtain ⟨hS1, hS2, hS3⟩ := hS; go_simp⟩) hH1 ?_
    simp only [Act.put, List.setIfInBounds_toArray, List.set_cons_zero, List.set_cons_succ]
    refine wpAnyH_take (i := 8) (oi := ⟨some 44, Op.extract (Operand.tmp 36) 0, 3, _, _, none⟩) (v := .int .i64 (i2 : Int)) rfl (by kernel_rfl) (by kernel_rfl) (by kernel_rfl) (fun _ _ _ h => h) (Or.inl ⟨by rfl, fun w hS => by obtain ⟨hS1, hS2, hS3⟩ := hS; go_simp⟩) hH1 ?_
    simp only [Act.put, List.setIfInBounds_toArray, List.set_cons_zero, List.set_cons_succ]
    refine wpAnyH_take (i := 9) (oi := ⟨some 45, Op.extract (Operand.tmp 36) 1, 4, _, _, none⟩) (v := .bool fd) rfl (by kernel_rfl) (by kernel_rfl) (by kernel_rfl) (fun _ _ _ h => h) (Or.inl ⟨by rfl, fun w hS => by obtain ⟨hS1, hS2, hS3⟩ := hS; go_simp⟩) hH1 ?_
    simp only [Act.put, List.setIfInBounds_toArray, List.set_cons_zero, List.set_cons_succ]
    refine wpAnyH_take (i := 10) (oi := ⟨some 4, Op.assign (Operand.tmp 44), 3, _, _, none⟩) (v := .int .i64 (i2 : Int)) rfl (by kernel_rfl) (by kernel_rfl) (by kernel_rfl) (fun _ _ _ h => h) (Or.inl ⟨by rfl, fun w hS => by obtain ⟨hS1, hS2, hS3⟩ := hS; go_simp⟩) hH1 ?_
    simp only [Act.put, List.setIfInBounds_toArray, List.set_cons_zero, List.set_cons_succ]
    refine wpAnyH_take (i := 11) (oi := ⟨some 5, Op.assign (Operand.tmp 45), 4, _, _, none⟩) (v := .bool fd) rfl (by kernel_rfl) (by kernel_rfl) (by kernel_rfl) (fun _ _ _ h => h) (Or.inl ⟨by rfl, fun w hS => by obtain ⟨hS1, hS2, hS3⟩ := hS; go_simp⟩) hH1 ?_
    simp only [Act.put, List.setIfInBounds_toArray, List.set_cons_zero, List.set_cons_succ]
    refine wpAnyH_done (by kernel_rfl) ?_ _
    refine hK7 _ _ ?_
    have c5k : Keep (∀ wx, Below w7.heap.size w7 wx → (fun wx => True ∧ wx.rangeAt w.heap.size 0 (bytesA 32 v.id.f).toList ∧ wx.rangeAt w.heap.size 0 vv.toList) wx) := ⟨fun wx hb => ⟨trivial, vtx_rng (hvv.out ▸ HX7.out.below hb HX7.out.lt), blk_rng (HX7.out.below hb HX7.out.lt)⟩⟩
    have B2 : Keep (Below w7.heap.size w7 w7.drew) := ⟨(Below.refl _ _).drew⟩
    refine wp_region_held_drew (S := fun wx => True ∧ wx.rangeAt w.heap.size 0 (bytesA 32 v.id.f).toList ∧ wx.rangeAt w.heap.size 0 vv.toList) (by kernel_rfl) (c5k.out _ B2.out) (fun hHeld => ?_)
    refine wpAnyH_take (i := 0) (oi := ⟨some 46, Op.move (Operand.tmp 0), 41, _, _, none⟩) (v := .pointer (some ⟨d, 0, none⟩)) rfl (by kernel_rfl) (by kernel_rfl) (by kernel_rfl) (fun _ _ _ h => h) (Or.inl ⟨by rfl, fun w hS => by obtain ⟨hS1, hS2, hS3⟩ := hS; go_simp⟩) hHeld ?_
    simp only [Act.put, List.setIfInBounds_toArray, List.set_cons_zero, List.set_cons_succ]
    refine wpAnyH_take (i := 1) (oi := ⟨some 47, Op.move (Operand.tmp 0), 41, _, _, none⟩) (v := .pointer (some ⟨d, 0, none⟩)) rfl (by kernel_rfl) (by kernel_rfl) (by kernel_rfl) (fun _ _ _ h => h) (Or.inl ⟨by rfl, fun w hS => by obtain ⟨hS1, hS2, hS3⟩ := hS; go_simp⟩) hHeld ?_
    simp only [Act.put, List.setIfInBounds_toArray, List.set_cons_zero, List.set_cons_succ]
    refine wpAnyH_take (i := 2) (oi := ⟨some 48, Op.nilCheck (Operand.tmp 47), 0, _, _, none⟩) (v := .pointer (some ⟨d, 0, none⟩)) rfl (by kernel_rfl) (by kernel_rfl) (by kernel_rfl) (fun _ _ _ h => h) (Or.inl ⟨by rfl, fun w hS => by obtain ⟨hS1, hS2, hS3⟩ := hS; go_simp⟩) hHeld ?_
    simp only [Act.put, List.setIfInBounds_toArray, List.set_cons_zero, List.set_cons_succ]
    refine wpAnyH_take (i := 3) (oi := ⟨some 49, Op.fieldAddr 82 (Operand.tmp 48) 2, 0, _, _, none⟩) (v := .pointer (some ⟨d, 2, none⟩)) rfl (by kernel_rfl) (by kernel_rfl) (by kernel_rfl) (fun _ _ _ h => h) (Or.inl ⟨by rfl, fun w hS => by obtain ⟨hS1, hS2, hS3⟩ := hS; go_simp⟩) hHeld ?_
    simp only [Act.put, List.setIfInBounds_toArray, List.set_cons_zero, List.set_cons_succ]
    refine wpAnyH_take (i := 5) (oi := ⟨some 51, Op.move (Operand.tmp 4), 3, _, _, none⟩) (v := .int .i64 (i2 : Int)) rfl (by kernel_rfl) (by kernel_rfl) (by kernel_rfl) (fun _ _ _ h => h) (Or.inl ⟨by rfl, fun w hS => by obtain ⟨hS1, hS2, hS3⟩ := hS; go_simp⟩) hHeld ?_
    simp only [Act.put, List.setIfInBounds_toArray, List.set_cons_zero, List.set_cons_succ]
    refine wpAnyH_take (i := 6) (oi := ⟨some 52, Op.fieldAddr 61 (Operand.tmp 3) 0, 0, _, _, none⟩) (v := .pointer (some ⟨w.heap.size, 0, none⟩)) rfl (by kernel_rfl) (by kernel_rfl) (by kernel_rfl) (fun _ _ _ h => h) (Or.inl ⟨by rfl, fun w hS => by obtain ⟨hS1, hS2, hS3⟩ := hS; go_simp⟩) hHeld ?_
    simp only [Act.put, List.setIfInBounds_toArray, List.set_cons_zero, List.set_cons_succ]
    refine wpAnyH_take (i := 7) (oi := ⟨some 53, Op.load 50 (Operand.tmp 52), 50, _, _, none⟩) (v := .agg (bytesA 32 v.id.f)) rfl (by kernel_rfl) (by kernel_rfl) (by kernel_rfl) (fun _ _ _ h => h) (yieldsIf_ld (by rfl) (Operand.tmp 52) 50 rfl w.heap.size 0 rfl (bytesA 32 v.id.f) _ Tryz.underlying50 rfl (size36A _) fun w hS => hS.2.1) hHeld ?_
    simp only [Act.put, List.setIfInBounds_toArray, List.set_cons_zero, List.set_cons_succ]
    refine wpAnyH_ready (rs := [4, 8]) (by kernel_rfl) (by simp) ?_
    refine AllReadyH.cons (o := ⟨some 50, Op.load 25 (Operand.tmp 49), 25, _, _, none⟩) rfl (fun K hK => ?_) (AllReadyH.cons (o := ⟨some 54, Op.buildSlice 25 1 #[(0, Operand.tmp 53)], 25, _, _, none⟩) rfl (fun K hK => ?_) AllReadyH.nil)
    rw [if_pos (by rfl)]
    have c_o : w7.drew.cell? ⟨d, 2, none⟩ = some (.slice a5 h1.length c5) := by have h := (HD7.out.blk.below B2.out HD7.out.blk.lt).c 2 (by rfl : (dgA { { { g with held := g.held ++ [v] } with ov := v4, order := o' } with hv := v6, heads := h1 })[2]? = some v6); rw [Hv6.out] at h; exact h
    refine wp_val (.slice a5 h1.length c5) (by go_simp) ?_
    clear c_o
    refine hK _ _ (c5k.out _ B2.out) fun hR1 => ?_
    clear hK
    simp only [Act.put, List.setIfInBounds_toArray, List.set_cons_zero, List.set_cons_succ]
    refine wpAnyH_ready (rs := [8]) (by kernel_rfl) (by simp) ?_
    refine AllReadyH.cons (o := ⟨some 54, Op.buildSlice 25 1 #[(0, Operand.tmp 53)], 25, _, _, none⟩) rfl (fun K hK => ?_) AllReadyH.nil
    rw [if_pos (by rfl)]
    refine wp_bs 25 1 _ rfl #[(0, .agg (bytesA 32 v.id.f))] (by simp [Act.eval]) _ _ (bsH v.id _) ?_
    have HGy := Keep.mk (Blk.new w7.drew 50 (bytesA 32 v.id.f))
    have BB2 := Keep.mk (belowT B2.out (below_new w7.drew (.cells (bytesA 32 v.id.f) 50)))
    have Lgy : Keep (w7.heap.size ≤ w7.drew.heap.size) := ⟨B2.out.size⟩
    generalize w7.drew.alloc (.cells (bytesA 32 v.id.f) 50) = wb2 at *
    generalize w7.drew.heap.size = gy at *
    refine hK _ _ (c5k.out _ BB2.out) fun hR2 => ?_
    clear hK
    simp only [Act.put, List.setIfInBounds_toArray, List.set_cons_zero, List.set_cons_succ]
    refine wpAnyH_ready (rs := [9]) (by kernel_rfl) (by simp) ?_
    refine AllReadyH.cons (o := ⟨some 55, Op.call { callee := Callee.value (Operand.func 81), args := #[Operand.tmp 50, Operand.tmp 51, Operand.tmp 54], argTypes := #[25, 3, 25] }, 25, _, _, none⟩) rfl (fun K hK => ?_) AllReadyH.nil
    rw [if_pos (by rfl)]
    refine wp_callF 81 _ _ rfl Tryz.in81 #[.slice a5 h1.length c5, .int .i64 (i2 : Int), .slice (some ⟨gy, 0, none⟩) 1 1] (by simp [Act.eval]) (fun u wx => NewL wb2 wx (.slice a5 h1.length c5) u h2) ((HI2'.out _ gy wb2 (Hv6.out ▸ (HD7.out.below BB2.out).oh) HGy.out fun e => by have := (HD7.out.oh).lt gy (by show v6.ownBlock = _; rw [Hv6.out]; exact e); have := Lgy.out; omega)) ?_
    rintro v8 w8 h8
    have HN8 := Keep.mk h8
    have HX8 := Keep.mk (h8.2.1.blk (HX7.out.below BB2.out HX7.out.lt) fun e => by have := (((HD7.out.below BB2.out).oh).typ (by show v6.ownBlock = _; rw [Hv6.out]; exact e)).one (HX7.out.below BB2.out HX7.out.lt).typ; revert this; decide)
    have HB8 := Keep.mk (h8.2.1.blk (HD7.out.below BB2.out).blk fun e => by have := (((HD7.out.below BB2.out).oh).typ (by show v6.ownBlock = _; rw [Hv6.out]; exact e)).one (HD7.out.below BB2.out).blk.typ; revert this; decide)
    refine hK _ _ ⟨trivial, vtx_rng (hvv.out ▸ HX8.out), blk_rng HX8.out⟩ fun hH5 => ?_
    obtain ⟨a8, c8, e8⟩ := h8.1.sl
    subst e8
    clear hK h8
    simp only [Act.put, List.setIfInBounds_toArray, List.set_cons_zero, List.set_cons_succ]
    refine wpAnyH_take (i := 10) (oi := ⟨some 56, Op.nilCheck (Operand.tmp 46), 0, _, _, none⟩) (v := .pointer (some ⟨d, 0, none⟩)) rfl (by kernel_rfl) (by kernel_rfl) (by kernel_rfl) (fun _ _ _ h => h) (Or.inl ⟨by rfl, fun w hS => by obtain ⟨hS1, hS2, hS3⟩ := hS; go_simp⟩) hH5 ?_
    simp only [Act.put, List.setIfInBounds_toArray, List.set_cons_zero, List.set_cons_succ]
    refine wpAnyH_take (i := 11) (oi := ⟨some 57, Op.fieldAddr 82 (Operand.tmp 56) 2, 0, _, _, none⟩) (v := .pointer (some ⟨d, 2, none⟩)) rfl (by kernel_rfl) (by kernel_rfl) (by kernel_rfl) (fun _ _ _ h => h) (Or.inl ⟨by rfl, fun w hS => by obtain ⟨hS1, hS2, hS3⟩ := hS; go_simp⟩) hH5 ?_
    simp only [Act.put, List.setIfInBounds_toArray, List.set_cons_zero, List.set_cons_succ]
    refine wpAnyH_ready (rs := [12]) (by kernel_rfl) (by simp) ?_
    refine AllReadyH.cons (o := ⟨none, Op.store 25 (Operand.tmp 57) (Operand.tmp 55), 0, _, _, none⟩) rfl (fun K hK => ?_) AllReadyH.nil
    rw [if_pos (by rfl)]
    have f_o := HB8.out.frozen 2
    have c_o : w8.cell? ⟨d, 2, none⟩ = some (.slice a5 h1.length c5) := by have h := HB8.out.c 2 (by rfl : (dgA { { { g with held := g.held ++ [v] } with ov := v4, order := o' } with hv := v6, heads := h1 })[2]? = some v6); rw [Hv6.out] at h; exact h
    refine wp_cellS (w8.setCell ⟨d, 2, none⟩ (.slice a8 h2.length c8)) (by go_simp) ?_
    clear f_o c_o
    have HD9 := Keep.mk ((HD7.out.below BB2.out).setH HN8.out.1 (by show Grown _ _ fun k => v6.ownBlock = some k; rw [Hv6.out]; exact HN8.out.2.1) (by show Moved _ v6 _; rw [Hv6.out]; exact HN8.out.2.2))
    have HX9 := Keep.mk (HX8.out.set_ne (b' := d) (j := 2) (fun e => by subst e; have := HX8.out.typ.one HB8.out.typ; revert this; decide) (.slice a8 h2.length c8))
    have G9 : Keep (Grown w (w8.setCell ⟨d, 2, none⟩ (.slice a8 h2.length c8)) (DgS d g)) := ⟨((G7.out.trans (Grown.below BB2.out)).next HN8.out.2.1 fun i hi e => by rw [← Hv6.out] at e; exact (M6.out.elim (fun h => .inr (.inr (.inr (.inl (by rw [← h]; exact e))))) fun ⟨q, h, hq⟩ => by rw [e] at h; have := Option.some.inj h; omega)).next (Grown.setCell w8 d 2 _ (S := fun k => k = d) fun _ => rfl) fun i _ e => .inl e⟩
    have M8 : Keep (Moved w v6 (.slice a8 h2.length c8)) := ⟨by rw [Hv6.out]; exact HN8.out.2.2.imp id fun ⟨q, e, h⟩ => ⟨q, e, Nat.le_trans G7.out.size (Nat.le_trans BB2.out.size h)⟩⟩
    generalize w8.setCell ⟨d, 2, none⟩ (.slice a8 h2.length c8) = w9 at *
    obtain ⟨v9, hv9⟩ : ∃ u : Value, u = .slice a8 h2.length c8 := ⟨_, rfl⟩
    rw [← hv9] at HD9 M8
    refine hK _ _ ⟨trivial, vtx_rng (hvv.out ▸ HX9.out), blk_rng HX9.out⟩ fun hH6 => ?_
    clear hK hH5 hH6 HB8 HX8 HN8 c5k hv9
    simp only [Act.put, List.setIfInBounds_toArray, List.set_cons_zero, List.set_cons_succ]
    refine wpAnyH_done (by kernel_rfl) ?_ _
    rotate_left
    rw [if_pos (by rfl)]
    refine wp_bs 25 1 _ rfl #[(0, .agg (bytesA 32 v.id.f))] (by simp [Act.eval]) _ _ (bsH v.id _) ?_
    have HGy := Keep.mk (Blk.new w7.drew 50 (bytesA 32 v.id.f))
    have BB1 := Keep.mk (belowT B2.out (below_new w7.drew (.cells (bytesA 32 v.id.f) 50)))
    have Lgy : Keep (w7.heap.size ≤ w7.drew.heap.size) := ⟨B2.out.size⟩
    generalize w7.drew.alloc (.cells (bytesA 32 v.id.f) 50) = wb1 at *
    generalize w7.drew.heap.size = gy at *
    refine hK _ _ (c5k.out _ BB1.out) fun hR1 => ?_
    clear hK
    simp only [Act.put, List.setIfInBounds_toArray, List.set_cons_zero, List.set_cons_succ]
    refine wpAnyH_ready (rs := [4]) (by kernel_rfl) (by simp) ?_
    refine AllReadyH.cons (o := ⟨some 50, Op.load 25 (Operand.tmp 49), 25, _, _, none⟩) rfl (fun K hK => ?_) AllReadyH.nil
    rw [if_pos (by rfl)]
    have c_o : wb1.cell? ⟨d, 2, none⟩ = some (.slice a5 h1.length c5) := by have h := (HD7.out.blk.below BB1.out HD7.out.blk.lt).c 2 (by rfl : (dgA { { { g with held := g.held ++ [v] } with ov := v4, order := o' } with hv := v6, heads := h1 })[2]? = some v6); rw [Hv6.out] at h; exact h
    refine wp_val (.slice a5 h1.length c5) (by go_simp) ?_
    clear c_o
    refine hK _ _ (c5k.out _ BB1.out) fun hR2 => ?_
    clear hK
    simp only [Act.put, List.setIfInBounds_toArray, List.set_cons_zero, List.set_cons_succ]
    refine wpAnyH_ready (rs := [9]) (by kernel_rfl) (by simp) ?_
    refine AllReadyH.cons (o := ⟨some 55, Op.call { callee := Callee.value (Operand.func 81), args := #[Operand.tmp 50, Operand.tmp 51, Operand.tmp 54], argTypes := #[25, 3, 25] }, 25, _, _, none⟩) rfl (fun K hK => ?_) AllReadyH.nil
    rw [if_pos (by rfl)]
    refine wp_callF 81 _ _ rfl Tryz.in81 #[.slice a5 h1.length c5, .int .i64 (i2 : Int), .slice (some ⟨gy, 0, none⟩) 1 1] (by simp [Act.eval]) (fun u wx => NewL wb1 wx (.slice a5 h1.length c5) u h2) ((HI2'.out _ gy wb1 (Hv6.out ▸ (HD7.out.below BB1.out).oh) HGy.out fun e => by have := (HD7.out.oh).lt gy (by show v6.ownBlock = _; rw [Hv6.out]; exact e); have := Lgy.out; omega)) ?_
    rintro v8 w8 h8
    have HN8 := Keep.mk h8
    have HX8 := Keep.mk (h8.2.1.blk (HX7.out.below BB1.out HX7.out.lt) fun e => by have := (((HD7.out.below BB1.out).oh).typ (by show v6.ownBlock = _; rw [Hv6.out]; exact e)).one (HX7.out.below BB1.out HX7.out.lt).typ; revert this; decide)
    have HB8 := Keep.mk (h8.2.1.blk (HD7.out.below BB1.out).blk fun e => by have := (((HD7.out.below BB1.out).oh).typ (by show v6.ownBlock = _; rw [Hv6.out]; exact e)).one (HD7.out.below BB1.out).blk.typ; revert this; decide)
    refine hK _ _ ⟨trivial, vtx_rng (hvv.out ▸ HX8.out), blk_rng HX8.out⟩ fun hH5 => ?_
    obtain ⟨a8, c8, e8⟩ := h8.1.sl
    subst e8
    clear hK h8
    simp only [Act.put, List.setIfInBounds_toArray, List.set_cons_zero, List.set_cons_succ]
    refine wpAnyH_take (i := 10) (oi := ⟨some 56, Op.nilCheck (Operand.tmp 46), 0, _, _, none⟩) (v := .pointer (some ⟨d, 0, none⟩)) rfl (by kernel_rfl) (by kernel_rfl) (by kernel_rfl) (fun _ _ _ h => h) (Or.inl ⟨by rfl, fun w hS => by obtain ⟨hS1, hS2, hS3⟩ := hS; go_simp⟩) hH5 ?_
    simp only [Act.put, List.setIfInBounds_toArray, List.set_cons_zero, List.set_cons_succ]
    refine wpAnyH_take (i := 11) (oi := ⟨some 57, Op.fieldAddr 82 (Operand.tmp 56) 2, 0, _, _, none⟩) (v := .pointer (some ⟨d, 2, none⟩)) rfl (by kernel_rfl) (by kernel_rfl) (by kernel_rfl) (fun _ _ _ h => h) (Or.inl ⟨by rfl, fun w hS => by obtain ⟨hS1, hS2, hS3⟩ := hS; go_simp⟩) hH5 ?_
    simp only [Act.put, List.setIfInBounds_toArray, List.set_cons_zero, List.set_cons_succ]
    refine wpAnyH_ready (rs := [12]) (by kernel_rfl) (by simp) ?_
    refine AllReadyH.cons (o := ⟨none, Op.store 25 (Operand.tmp 57) (Operand.tmp 55), 0, _, _, none⟩) rfl (fun K hK => ?_) AllReadyH.nil
    rw [if_pos (by rfl)]
    have f_o := HB8.out.frozen 2
    have c_o : w8.cell? ⟨d, 2, none⟩ = some (.slice a5 h1.length c5) := by have h := HB8.out.c 2 (by rfl : (dgA { { { g with held := g.held ++ [v] } with ov := v4, order := o' } with hv := v6, heads := h1 })[2]? = some v6); rw [Hv6.out] at h; exact h
    refine wp_cellS (w8.setCell ⟨d, 2, none⟩ (.slice a8 h2.length c8)) (by go_simp) ?_
    clear f_o c_o
    have HD9 := Keep.mk ((HD7.out.below BB1.out).setH HN8.out.1 (by show Grown _ _ fun k => v6.ownBlock = some k; rw [Hv6.out]; exact HN8.out.2.1) (by show Moved _ v6 _; rw [Hv6.out]; exact HN8.out.2.2))
    have HX9 := Keep.mk (HX8.out.set_ne (b' := d) (j := 2) (fun e => by subst e; have := HX8.out.typ.one HB8.out.typ; revert this; decide) (.slice a8 h2.length c8))
    have G9 : Keep (Grown w (w8.setCell ⟨d, 2, none⟩ (.slice a8 h2.length c8)) (DgS d g)) := ⟨((G7.out.trans (Grown.below BB1.out)).next HN8.out.2.1 fun i hi e => by rw [← Hv6.out] at e; exact (M6.out.elim (fun h => .inr (.inr (.inr (.inl (by rw [← h]; exact e))))) fun ⟨q, h, hq⟩ => by rw [e] at h; have := Option.some.inj h; omega)).next (Grown.setCell w8 d 2 _ (S := fun k => k = d) fun _ => rfl) fun i _ e => .inl e⟩
    have M8 : Keep (Moved w v6 (.slice a8 h2.length c8)) := ⟨by rw [Hv6.out]; exact HN8.out.2.2.imp id fun ⟨q, e, h⟩ => ⟨q, e, Nat.le_trans G7.out.size (Nat.le_trans BB1.out.size h)⟩⟩
    generalize w8.setCell ⟨d, 2, none⟩ (.slice a8 h2.length c8) = w9 at *
    obtain ⟨v9, hv9⟩ : ∃ u : Value, u = .slice a8 h2.length c8 := ⟨_, rfl⟩
    rw [← hv9] at HD9 M8
    refine hK _ _ ⟨trivial, vtx_rng (hvv.out ▸ HX9.out), blk_rng HX9.out⟩ fun hH6 => ?_
    clear hK hH5 hH6 HB8 HX8 HN8 c5k hv9
    simp only [Act.put, List.setIfInBounds_toArray, List.set_cons_zero, List.set_cons_succ]
    refine wpAnyH_done (by kernel_rfl) ?_ _
    rotate_left
    all_goals
      go_end0
      exact ⟨rfl, _, take_end HD.out HD9.out (fun k h => .inl (.inl (.inl h))) G9.out M4.out M6.out M8.out, rfl, rfl, rfl, rfl, rfl, rfl⟩
theorem insOk_end (l : List Hs) (y : Hs) (hL : l.length ≤ 1000000000000) : InsOk l l.length y (l ++ [y]) := fun v gx w h1 h2 _ => ins_end v l gx y w h1 h2 hL
theorem delOk_nil (x : VX) : DelOk [] x [] := fun v p b w h1 h2 h3 h4 => by
  obtain ⟨pa, pc, rfl⟩ := h1.sl
  refine (df_nil pa pc _ w).mono ?_
  rintro e w' ⟨rfl, rfl⟩
  exact ⟨_, rfl, h1, Grown.refl _ _, .inl rfl⟩
theorem take_nil (d : Nat) (v : VX) (p : Value) (Av : Nat → Prop) (g : DG) (w : World) (hD : DagAt w Av d g) (hr : HRow w p v.ps) (hk : ∀ k, p.ownBlock = some k → k < w.heap.size ∧ ¬ Av k) (hF : g.held = []) (ho : g.order = []) (hh : g.heads = []) :
    Calls Tryz.prog 91 #[ptr d, .agg (vtx v.id.f v.ck p)] w fun e w' => e = .returned (.tuple #[]) ∧ ∃ g', Ste w w' Av d g g' ∧ g'.room = g.room ∧ g'.held = g.held ++ [v] ∧ g'.wait = g.wait ∧ g'.queue = g.queue ∧ g'.order = [v.id] ∧ g'.heads = [v.id] := by
  refine take_gen d v p Av g w 0 [v.id] [] [v.id] hD hr hk (by rw [hF]; rfl) (fun w1 Av1 p1 g1 h1 h2 _ => place_nil d v p1 Av1 g1 w1 h1 (h2.trans ho)) (by rw [ho]; exact insOk_end [] v.id (by simp)) (by rw [hh]; exact delOk_nil v) (fun i j _ h => by simp at h) (by simp) fun i hi _ _ => ?_
  obtain rfl : i = 0 := by simpa using hi
  exact insOk_end [] v.id (by simp)
set_option maxRecDepth 8000 in
set_option maxHeartbeats 1000000 in
theorem add_took (d : Nat) (v : VX) (p : Value) (Av : Nat → Prop) (g : DG) (w : World) (X : DG → Prop) (hD : DagAt w Av d g) (hr : HRow w p v.ps) (hM : ∀ v ∈ g.held, 0 ≤ v.ck ∧ v.ck ≤ 4096) (hL : (v.ps.length : Int) ≤ 9223372036854775806) (hL2 : v.ps.length ≤ 4398046511104) (hFt : fitV g.held g.wait v = (2, 0))
    (hT : ∀ (w1 : World) (p1 : Value), DagAt w1 Av d g → HRow w1 p1 v.ps → (∀ k, p1.ownBlock = some k → k < w1.heap.size ∧ ¬ Av k) → Calls Tryz.prog 91 #[ptr d, .agg (vtx v.id.f v.ck p1)] w1 fun e w' => e = .returned (.tuple #[]) ∧ ∃ g', Ste w1 w' Av d g g' ∧ X g') :
    Calls Tryz.prog 62 #[ptr d, .agg (vtx v.id.f v.ck p)] w fun e w' => e = .returned (.tuple #[.int .i64 2, .slice none 0 0, .int .i64 0]) ∧ ∃ g', Ste w w' Av d g g' ∧ X g' := by
  obtain ⟨pa, pc, rfl⟩ := hr.form
  obtain ⟨vv, hvv⟩ : ∃ a : Array Value, Keep (a = vtx v.id.f v.ck (.slice pa v.ps.length pc)) := ⟨_, ⟨rfl⟩⟩
  rw [← hvv.out]
  have HD := Keep.mk hD
  have HR := Keep.mk hr
  have HM := Keep.mk hM
  have HL := Keep.mk hL
  have HL2 := Keep.mk hL2
  have HFt := Keep.mk hFt
  have HT := Keep.mk hT
  clear hD hr hM hL hL2 hFt hT
  go_enter Tryz.func62, Tryz.ntmps62
  refine wp_seq_k fun K1 hK1 => ?_
  refine wp_region_list (WL.out ?_)
  refine WL.box (by kernel_rfl) 61 (.tmp 1) rfl (vv) rfl ?_
  obtain ⟨w1, hwn⟩ : ∃ wx, Keep (wx = w.alloc (.cells (vv) 61)) := ⟨_, ⟨rfl⟩⟩
  rw [← hwn.out]
  have HX1 : Keep (Blk w1 w.heap.size 61 (vv)) := ⟨by rw [hwn.out]; exact Blk.new _ _ _⟩
  have LB1 : Keep (Below w.heap.size w w1) := ⟨by rw [hwn.out]; exact below_new _ _⟩
  clear hwn
  have HD1 := Keep.mk (HD.out.below LB1.out)
  have HR1 := Keep.mk (HR.out.below LB1.out)
  simp only [Act.put, List.setIfInBounds_toArray, List.set_cons_zero, List.set_cons_succ]
  refine WL.val (by kernel_rfl) (.int .i64 0) (by go_simp) ?_
  simp only [Act.put, List.setIfInBounds_toArray, List.set_cons_zero, List.set_cons_succ]
  refine WL.val (by kernel_rfl) (.slice none 0 0) (by go_simp) ?_
  simp only [Act.put, List.setIfInBounds_toArray, List.set_cons_zero, List.set_cons_succ]
  refine WL.val (by kernel_rfl) (.int .i64 0) (by go_simp) ?_
  simp only [Act.put, List.setIfInBounds_toArray, List.set_cons_zero, List.set_cons_succ]
  refine WL.nil ?_
  refine hK1 _ _ ?_
  refine wp_seq_k fun K2 hK2 => ?_
  refine wp_region_list (WL.out ?_)
  refine WL.val (by kernel_rfl) (.pointer (some ⟨d, 0, none⟩)) (by go_simp) ?_
  simp only [Act.put, List.setIfInBounds_toArray, List.set_cons_zero, List.set_cons_succ]
  refine WL.row (by kernel_rfl) 61 (.tmp 3) rfl w.heap.size rfl 61 vv _ HX1.out Tryz.underlying61 rfl (by rw [hvv.out]; exact Tryz.info61s _ _ _) ?_
  simp only [Act.put, List.setIfInBounds_toArray, List.set_cons_zero, List.set_cons_succ]
  have hft := fit_any d v _ Av g w1 HD1.out HR1.out HM.out HL.out
  rw [← hvv.out, HFt.out] at hft
  refine WL.callF (by kernel_rfl) 31 _ _ rfl Tryz.in31 #[ptr d, .agg vv] (by simp [Act.eval]) ?_
  refine (hft).mono ?_
  rintro e w2 ⟨rfl, hz⟩
  refine ⟨_, rfl, ?_⟩
  clear hft
  have HX2 := Keep.mk (HX1.out.below hz HX1.out.lt)
  have LB2 := Keep.mk (belowT LB1.out hz)
  have HD2 := Keep.mk (HD1.out.below hz)
  have HR2 := Keep.mk (HR1.out.below hz)
  clear hz HX1 HD1 HR1
  simp only [Act.put, List.setIfInBounds_toArray, List.set_cons_zero, List.set_cons_succ]
  refine WL.val (by kernel_rfl) (.tuple #[.int .i64 2, .int .i64 0]) (by go_simp) ?_
  simp only [Act.put, List.setIfInBounds_toArray, List.set_cons_zero, List.set_cons_succ]
  refine WL.val (by kernel_rfl) (.int .i64 2) (by go_simp) ?_
  simp only [Act.put, List.setIfInBounds_toArray, List.set_cons_zero, List.set_cons_succ]
  refine WL.val (by kernel_rfl) (.int .i64 0) (by go_simp) ?_
  simp only [Act.put, List.setIfInBounds_toArray, List.set_cons_zero, List.set_cons_succ]
  refine WL.val (by kernel_rfl) (.int .i64 2) (by go_simp) ?_
  simp only [Act.put, List.setIfInBounds_toArray, List.set_cons_zero, List.set_cons_succ]
  refine WL.val (by kernel_rfl) (.int .i64 0) (by go_simp) ?_
  simp only [Act.put, List.setIfInBounds_toArray, List.set_cons_zero, List.set_cons_succ]
  refine WL.nil ?_
  refine hK2 _ _ ?_
  refine wp_seq_k fun K3 hK3 => ?_
  refine wp_seq_k fun K4 hK4 => ?_
  refine wp_region_list (WL.out ?_)
  refine WL.val (by kernel_rfl) (.int .i64 2) (by go_simp) ?_
  simp only [Act.put, List.setIfInBounds_toArray, List.set_cons_zero, List.set_cons_succ]
  refine WL.nil ?_
  refine hK4 _ _ ?_
  refine wp_block ?_
  refine wp_seq_k fun K5 hK5 => ?_
  refine wp_region_list (WL.out ?_)
  refine WL.val (by kernel_rfl) (.bool true) (by go_simp) ?_
  simp only [Act.put, List.setIfInBounds_toArray, List.set_cons_zero, List.set_cons_succ]
  refine WL.val (by kernel_rfl) (.bool true) (by go_simp) ?_
  simp only [Act.put, List.setIfInBounds_toArray, List.set_cons_zero, List.set_cons_succ]
  refine WL.nil ?_
  refine hK5 _ _ ?_
  refine wp_cond_true rfl ?_
  refine wp_region_list (WL.out ?_)
  refine WL.val (by kernel_rfl) (.pointer (some ⟨d, 0, none⟩)) (by go_simp) ?_
  simp only [Act.put, List.setIfInBounds_toArray, List.set_cons_zero, List.set_cons_succ]
  refine WL.row (by kernel_rfl) 61 (.tmp 3) rfl w.heap.size rfl 61 vv _ HX2.out Tryz.underlying61 rfl (by rw [hvv.out]; exact Tryz.info61s _ _ _) ?_
  simp only [Act.put, List.setIfInBounds_toArray, List.set_cons_zero, List.set_cons_succ]
  have how := own_any v _ w2 HR2.out (by have := HL.out; have := HL2.out; omega)
  rw [← hvv.out] at how
  refine WL.callF (by kernel_rfl) 92 _ _ rfl Tryz.in92 #[.agg vv] (by simp [Act.eval]) ?_
  refine (how).mono ?_
  rintro e w3 ⟨p3, rfl, hf⟩
  refine ⟨_, rfl, ?_⟩
  clear how
  have HF3 := Keep.mk hf
  have HD3 := Keep.mk (HD2.out.below hf.bel)
  have LB3 := Keep.mk (belowT LB2.out hf.bel)
  obtain ⟨vq, hvq⟩ : ∃ a : Array Value, Keep (a = vtx v.id.f v.ck p3) := ⟨_, ⟨rfl⟩⟩
  rw [← hvq.out]
  clear hf HX2 HR2
  simp only [Act.put, List.setIfInBounds_toArray, List.set_cons_zero, List.set_cons_succ]
  have htk := HT.out w3 p3 HD3.out HF3.out.own.row fun k hk => ⟨HF3.out.own.lt k hk, fun ha => by have := HF3.out.new k hk; have := HD2.out.lt k ha; omega⟩
  rw [← hvq.out] at htk
  refine WL.callF (by kernel_rfl) 91 _ _ rfl Tryz.in91 #[ptr d, .agg vq] (by simp [Act.eval]) ?_
  refine (htk).mono ?_
  rintro e w4 ⟨rfl, g4, hs, hp⟩
  refine ⟨_, rfl, ?_⟩
  clear htk
  have HS4 := Keep.mk hs
  have HP4 := Keep.mk hp
  clear hs hp
  simp only [Act.put, List.setIfInBounds_toArray, List.set_cons_zero, List.set_cons_succ]
  refine WL.nil ?_
  refine hK3 _ _ ?_
  refine wp_seq_k fun K6 hK6 => ?_
  refine wp_region_list (WL.out ?_)
  refine WL.val (by kernel_rfl) (.int .i64 2) (by go_simp) ?_
  simp only [Act.put, List.setIfInBounds_toArray, List.set_cons_zero, List.set_cons_succ]
  refine WL.val (by kernel_rfl) (.slice none 0 0) (by go_simp) ?_
  simp only [Act.put, List.setIfInBounds_toArray, List.set_cons_zero, List.set_cons_succ]
  refine WL.val (by kernel_rfl) (.int .i64 0) (by go_simp) ?_
  simp only [Act.put, List.setIfInBounds_toArray, List.set_cons_zero, List.set_cons_succ]
  refine WL.val (by kernel_rfl) (.int .i64 2) (by go_simp) ?_
  simp only [Act.put, List.setIfInBounds_toArray, List.set_cons_zero, List.set_cons_succ]
  refine WL.val (by kernel_rfl) (.slice none 0 0) (by go_simp) ?_
  simp only [Act.put, List.setIfInBounds_toArray, List.set_cons_zero, List.set_cons_succ]
  refine WL.val (by kernel_rfl) (.int .i64 0) (by go_simp) ?_
  simp only [Act.put, List.setIfInBounds_toArray, List.set_cons_zero, List.set_cons_succ]
  refine WL.nil ?_
  refine hK6 _ _ ?_
  refine wp_ret ?_
  go_ret3
  exact ⟨rfl, g4, ⟨HS4.out.at', (Grown.below (S := DgS d g) LB3.out).trans HS4.out.grown, fun k hk => (HS4.out.sub k hk).imp id fun h => Nat.le_trans LB3.out.size h⟩, HP4.out⟩
end Go.Proofs.YtdkhjeofjhcceaaGreatDoor
namespace Go.Proofs.YtdkhjeofjhcceaaGreatDoor.Nd
open Go.RowKit

theorem hid_in {p : Prop} (h : p) : Hid p := h
structure Keep (p : Prop) : Prop where
  out : p

def Blk (w : World) (b : Nat) (T : TypeId) (cs : Array Value) : Prop := w.heap[b]? = some (.cells cs T (0, 0))

theorem Blk.lt {w : World} {b : Nat} {T : TypeId} {cs : Array Value} (h : Blk w b T cs) : b < w.heap.size := (Array.getElem?_eq_some_iff.1 h).1
theorem Blk.cell {w : World} {b : Nat} {T : TypeId} {cs : Array Value} (h : Blk w b T cs) (j : Nat) : w.cell? ⟨b, j, none⟩ = cs[j]? := cell_of_row w b j cs T (0, 0) h
theorem Blk.frozen {w : World} {b : Nat} {T : TypeId} {cs : Array Value} (h : Blk w b T cs) (j : Nat) : w.frozen? ⟨b, j, none⟩ = false := by
  unfold Blk at h; simp [World.frozen?, h]
theorem Blk.new (w : World) (T : TypeId) (cs : Array Value) : Blk (w.alloc (.cells cs T)) w.heap.size T cs := heap_alloc_new w _
theorem Blk.alloc {w : World} {b : Nat} {T : TypeId} {cs : Array Value} (h : Blk w b T cs) (o : Obj) : Blk (w.alloc o) b T cs := by
  unfold Blk; rw [Below.heap_alloc w o b h.lt]; exact h
theorem Blk.drew {w : World} {b : Nat} {T : TypeId} {cs : Array Value} (h : Blk w b T cs) : Blk w.drew b T cs := h
theorem Blk.drewN {w : World} {b : Nat} {T : TypeId} {cs : Array Value} (h : Blk w b T cs) (n : Nat) : Blk (w.drewN n) b T cs := h
theorem Blk.below {w w' : World} {B b : Nat} {T : TypeId} {cs : Array Value} (h : Blk w b T cs) (hb : Below B w w') (hlt : b < B) : Blk w' b T cs := by
  unfold Blk; rw [hb.block b hlt]; exact h
theorem Blk.set {w : World} {b : Nat} {T : TypeId} {cs : Array Value} (h : Blk w b T cs) (j : Nat) (v : Value) : Blk (w.setCell ⟨b, j, none⟩ v) b T (cs.setIfInBounds j v) := by
  unfold Blk; rw [setCell_eq_setRow w b j cs T (0, 0) v h]; exact setRow_heap w b cs _ T (0, 0) h
theorem Blk.set_ne {w : World} {b b' j : Nat} {T : TypeId} {cs : Array Value} (h : Blk w b T cs) (hne : b ≠ b') (v : Value) : Blk (w.setCell ⟨b', j, none⟩ v) b T cs := by
  unfold Blk; rw [Below.heap_setCell w _ v b hne]; exact h
theorem Blk.setRow {w : World} {b : Nat} {T : TypeId} {cs : Array Value} (h : Blk w b T cs) (cs' : Array Value) : Blk (w.setRow b cs') b T cs' := setRow_heap w b cs cs' T (0, 0) h
theorem Blk.setRow_ne {w : World} {b b' : Nat} {T : TypeId} {cs : Array Value} (h : Blk w b T cs) (hne : b ≠ b') (cs' : Array Value) : Blk (w.setRow b' cs') b T cs := by
  unfold Blk; rw [setRow_other w b' b cs' hne]; exact h
theorem below_setRow {B : Nat} {a w : World} (h : Below B a w) {b : Nat} (hb : B ≤ b) (cs : Array Value) : Below B a (w.setRow b cs) :=
  h.trans ⟨rfl, rfl, rfl, by simp, fun k hk => setRow_other w b k cs (by omega)⟩
theorem below_new (w : World) (o : Obj) : Below w.heap.size w (w.alloc o) := (Below.refl _ _).alloc (Nat.le_refl _) o
theorem blk_type {w : World} {k : Nat} {T T' : TypeId} {cs cs' : Array Value} (h : Blk w k T cs) (h' : Blk w k T' cs') : T = T' := by
  unfold Blk at h h'; rw [h] at h'; simp at h'; exact h'.2
theorem blk_ne {w : World} {k k' : Nat} {T T' : TypeId} {cs cs' : Array Value} (h : Blk w k T cs) (h' : Blk w k' T' cs') (ht : T ≠ T') : k ≠ k' := by
  rintro rfl; exact ht (blk_type h h')
theorem cell_lt {w : World} {h j : Nat} {v : Value} (hc : w.cell? ⟨h, j, none⟩ = some v) : h < w.heap.size := by
  apply Nat.lt_of_not_le; intro hle
  simp [World.cell?, Array.getElem?_eq_none hle] at hc

abbrev ptr (g : Nat) : Value := .pointer (some ⟨g, 0, none⟩)

theorem grownBy_refl (w : World) (o : Option Nat) : w.grownBy w o := ⟨rfl, rfl, rfl, Nat.le_refl _, fun _ _ _ => rfl⟩
theorem grownBy_setCell (w : World) (g j : Nat) (v : Value) : w.grownBy (w.setCell ⟨g, j, none⟩ v) (some g) :=
  ⟨rfl, rfl, rfl, by simp [World.setCell], fun i _ hn => Below.heap_setCell w _ v i (fun e => hn (by rw [e]))⟩
theorem grownBy_setRow (w : World) (g : Nat) (cs : Array Value) : w.grownBy (w.setRow g cs) (some g) :=
  ⟨rfl, rfl, rfl, by simp, fun i _ hn => setRow_other w g i cs (fun e => hn (by rw [e]))⟩
theorem grownBy_below {w w' : World} (h : Below w.heap.size w w') (o : Option Nat) : w.grownBy w' o := ⟨h.os, h.tape, h.output, h.size, fun i hi _ => h.block i hi⟩

structure Grown (w w' : World) (S : Nat → Prop) : Prop where
  os : w'.os = w.os
  tape : w'.tape = w.tape
  output : w'.output = w.output
  size : w.heap.size ≤ w'.heap.size
  block : ∀ k, k < w.heap.size → ¬ S k → w'.heap[k]? = w.heap[k]?
theorem Grown.refl (w : World) (S : Nat → Prop) : Grown w w S := ⟨rfl, rfl, rfl, Nat.le_refl _, fun _ _ _ => rfl⟩
theorem Grown.trans {a b c : World} {S : Nat → Prop} (h : Grown a b S) (k : Grown b c S) : Grown a c S :=
  ⟨k.os.trans h.os, k.tape.trans h.tape, k.output.trans h.output, Nat.le_trans h.size k.size, fun i hi hs => (k.block i (Nat.lt_of_lt_of_le hi h.size) hs).trans (h.block i hi hs)⟩
theorem Grown.next {a b c : World} {S T : Nat → Prop} (h : Grown a b S) (k : Grown b c T) (hT : ∀ i, i < a.heap.size → T i → S i) : Grown a c S :=
  ⟨k.os.trans h.os, k.tape.trans h.tape, k.output.trans h.output, Nat.le_trans h.size k.size, fun i hi hs => (k.block i (Nat.lt_of_lt_of_le hi h.size) (fun ht => hs (hT i hi ht))).trans (h.block i hi hs)⟩
theorem Grown.mono {a b : World} {S T : Nat → Prop} (h : Grown a b S) (hT : ∀ i, i < a.heap.size → S i → T i) : Grown a b T := (Grown.refl a T).next h hT
theorem Grown.of {a b : World} {S : Nat → Prop} {o : Option Nat} (h : a.grownBy b o) (ho : ∀ k, k < a.heap.size → o = some k → S k) : Grown a b S :=
  ⟨h.os, h.tape, h.output, h.size, fun i hi hs => h.block i hi (fun e => hs (ho i hi e.symm))⟩
theorem Grown.below {a b : World} {S : Nat → Prop} (h : Below a.heap.size a b) : Grown a b S := ⟨h.os, h.tape, h.output, h.size, fun i hi _ => h.block i hi⟩
theorem Grown.alloc (w : World) (o : Obj) (S : Nat → Prop) : Grown w (w.alloc o) S := Grown.below (below_new w o)
theorem Grown.drew {a b : World} {S : Nat → Prop} (h : Grown a b S) : Grown a b.drew S := ⟨h.os, h.tape, h.output, h.size, h.block⟩
theorem Grown.drewN {a b : World} {S : Nat → Prop} (h : Grown a b S) (n : Nat) : Grown a (b.drewN n) S := ⟨h.os, h.tape, h.output, h.size, h.block⟩
theorem Grown.setCell (w : World) (g j : Nat) (v : Value) {S : Nat → Prop} (hS : g < w.heap.size → S g) : Grown w (w.setCell ⟨g, j, none⟩ v) S :=
  Grown.of (grownBy_setCell w g j v) fun k hk e => by injection e with e; subst e; exact hS hk
theorem Grown.setRow (w : World) (g : Nat) (cs : Array Value) {S : Nat → Prop} (hS : g < w.heap.size → S g) : Grown w (w.setRow g cs) S :=
  Grown.of (grownBy_setRow w g cs) fun k hk e => by injection e with e; subst e; exact hS hk
theorem Grown.blk {a b : World} {S : Nat → Prop} (h : Grown a b S) {k : Nat} {T : TypeId} {cs : Array Value} (hk : Blk a k T cs) (hs : ¬ S k) : Blk b k T cs := by
  unfold Blk; rw [h.block k hk.lt hs]; exact hk
theorem Grown.cell {a b : World} {S : Nat → Prop} (h : Grown a b S) {k j : Nat} {v : Value} (hk : a.cell? ⟨k, j, none⟩ = some v) (hs : ¬ S k) : b.cell? ⟨k, j, none⟩ = some v := by
  rw [World.cell?_of_block (h.block k (cell_lt hk) hs)]; exact hk
theorem Grown.to_below {a b : World} {S : Nat → Prop} (h : Grown a b S) {B : Nat} (hs : ∀ k, k < B → ¬ S k) (hB : B ≤ a.heap.size) : Below B a b :=
  ⟨h.os, h.tape, h.output, h.size, fun i hi => h.block i (by omega) (hs i hi)⟩

def bv (l : List Int) : List Value := l.map fun c => .int .u8 c
theorem bv_len (l : List Int) : (bv l).length = l.length := by simp [bv]
theorem bv_get (l : List Int) (i : Nat) (h : i < l.length) : (bv l)[i]? = some (.int .u8 (l.getD i 0)) := by
  simp [bv, h, List.getD]
theorem bv_app (a b : List Int) : bv (a ++ b) = bv a ++ bv b := by simp [bv]
theorem bv_one (l : List Int) : ∀ u ∈ bv l, u.oneCell' = true := fun u hu => by simp [bv] at hu; obtain ⟨_, _, rfl⟩ := hu; rfl
def RowAt (w : World) (v : Value) (l : List Int) : Prop :=
  (v = .slice none 0 0 ∧ l = []) ∨ (∃ a c, v = .slice (some a) 0 c ∧ l = []) ∨ ∃ h off cap, v = .slice (some ⟨h, off, none⟩) l.length cap ∧ l.length ≤ cap ∧ ∀ i, i < l.length → w.cell? ⟨h, off + i, none⟩ = some (.int .u8 (l.getD i 0))
theorem row_form {w : World} {v : Value} {l : List Int} (h : RowAt w v l) : ∃ a c, v = .slice a l.length c := by
  rcases h with ⟨rfl, rfl⟩ | ⟨a, c, rfl, rfl⟩ | ⟨b, off, cap, rfl, _⟩
  · exact ⟨_, _, rfl⟩
  · exact ⟨_, _, rfl⟩
  · exact ⟨_, _, rfl⟩
theorem RowAt.grown {w w' : World} {v : Value} {l : List Int} {S : Nat → Prop} (h : RowAt w v l) (hg : Grown w w' S) (hs : ∀ b, v.ownBlock = some b → b < w.heap.size → ¬ S b) : RowAt w' v l := by
  rcases h with h | h | ⟨b, off, cap, h1, h2, h3⟩
  · exact .inl h
  · exact .inr (.inl h)
  · exact .inr (.inr ⟨b, off, cap, h1, h2, fun i hi => hg.cell (h3 i hi) (hs b (by rw [h1]; rfl) (cell_lt (h3 i hi)))⟩)
theorem RowAt.below {w w' : World} {v : Value} {l : List Int} (h : RowAt w v l) (hb : Below w.heap.size w w') : RowAt w' v l :=
  h.grown (Grown.below (S := fun _ => False) hb) fun _ _ _ h => h

def Own (w : World) (v : Value) (l : List Int) : Prop := w.ownsRow 0 5 1 v l.length (bv l)
theorem Own.row {w : World} {v : Value} {l : List Int} (h : Own w v l) : RowAt w v l := by
  have h' := h
  obtain ⟨_, h2⟩ := h
  rcases h2 with ⟨rfl, h0⟩ | ⟨g, cap, cur, rfl, hg, hh, hc, _⟩
  · exact .inl ⟨rfl, List.eq_nil_of_length_eq_zero (by omega)⟩
  · refine .inr <| .inr ⟨g, 0, cap, rfl, by omega, fun i hi => ?_⟩
    rw [Nat.zero_add, World.ownsRow.cellAt h' i (by omega), bv_get l i hi]
theorem Own.lt {w : World} {v : Value} {l : List Int} (h : Own w v l) : ∀ k, v.ownBlock = some k → k < w.heap.size := fun k hk => (World.ownsRow.lt h k hk).2
theorem Own.grown {w w' : World} {v : Value} {l : List Int} {S : Nat → Prop} (h : Own w v l) (hg : Grown w w' S) (hs : ∀ k, v.ownBlock = some k → ¬ S k) : Own w' v l := by
  refine ⟨h.1, ?_⟩
  rcases h.2 with h1 | ⟨g, cap, cur, rfl, h2, h3, h4⟩
  · exact .inl h1
  · exact .inr ⟨g, cap, cur, rfl, h2, hg.blk h3 (hs g rfl), h4⟩
theorem Own.ne {w : World} {v : Value} {l : List Int} {p : Nat} {T : TypeId} {cs : Array Value} (h : Own w v l) (hp : Blk w p T cs) (hT : T ≠ 5) : v.ownBlock ≠ some p := by
  intro e
  rcases h.2 with ⟨rfl, _⟩ | ⟨g, cap, cur, rfl, _, h3, _⟩
  · simp [Value.ownBlock] at e
  · simp [Value.ownBlock] at e
    subst e
    exact hT (blk_type hp h3)
theorem Own.form {w : World} {v : Value} {l : List Int} (h : Own w v l) : (v = .slice none 0 0 ∧ l = []) ∨ ∃ g cap cur, v = .slice (some ⟨g, 0, none⟩) l.length cap ∧ Blk w g 5 cur ∧ l.length ≤ cap ∧ cap ≤ maxLen ∧ cur.size = cap ∧ cur.toList.take l.length = bv l := by
  rcases h.2 with ⟨rfl, h0⟩ | ⟨g, cap, cur, rfl, _, h3, h4, h5, h6, h7⟩
  · exact .inl ⟨rfl, List.eq_nil_of_length_eq_zero h0⟩
  · exact .inr ⟨g, cap, cur, rfl, h3, h4, h5, by omega, by simpa using h7⟩
theorem Own.mk {w : World} {g cap : Nat} {cur : Array Value} {l : List Int} (h3 : Blk w g 5 cur) (h4 : l.length ≤ cap) (h5 : cap ≤ maxLen) (h6 : cur.size = cap) (h7 : cur.toList.take l.length = bv l) : Own w (.slice (some ⟨g, 0, none⟩) l.length cap) l :=
  ⟨by rw [bv_len]; omega, .inr ⟨g, cap, cur, rfl, Nat.zero_le _, h3, h4, h5, by omega, by simpa using h7⟩⟩
def Moved (w : World) (v v' : Value) : Prop := v'.ownBlock = v.ownBlock ∨ ∃ k, v'.ownBlock = some k ∧ w.heap.size ≤ k
theorem Moved.refl (w : World) (v : Value) : Moved w v v := .inl rfl
theorem Moved.trans {a b : World} {v v1 v2 : Value} (h : Moved a v v1) (hs : a.heap.size ≤ b.heap.size) (k : Moved b v1 v2) : Moved a v v2 := by
  rcases k with e | ⟨j, h1, h2⟩
  · rcases h with h | ⟨i, h1, h2⟩
    · exact .inl (e.trans h)
    · exact .inr ⟨i, e.trans h1, h2⟩
  · exact .inr ⟨j, h1, by omega⟩
theorem Moved.old {a : World} {v v1 : Value} (h : Moved a v v1) {k : Nat} (hk : k < a.heap.size) (e : v1.ownBlock = some k) : v.ownBlock = some k := by
  rcases h with h | ⟨i, h1, h2⟩
  · rw [← h]; exact e
  · rw [h1] at e; injection e with e; omega

theorem Tryz.info5 : (Tryz.prog.info? 5).map (fun i => (i.zero, i.size, i.bytes)) = some (some (.int .u8 0), 1, 1) := by kernel_rfl
theorem row_one (w : World) (c : Int) : RowAt (w.alloc (.cells #[.int .u8 c] 5)) (.slice (some ⟨w.heap.size, 0, none⟩) 1 1) [c] := by
  refine .inr <| .inr ⟨w.heap.size, 0, 1, rfl, by simp, fun i hi => ?_⟩
  have e : i = 0 := by simp at hi; exact hi
  subst e
  rw [(Blk.new w 5 #[.int .u8 c]).cell]; rfl

def AppPost (w : World) (v : Value) (l : List Int) (v' : Value) (w' : World) : Prop :=
  Own w' v' l ∧ ((v'.ownBlock = v.ownBlock ∧ Grown w w' fun k => v.ownBlock = some k) ∨ (v'.ownBlock = some w.heap.size ∧ Below w.heap.size w w'))
theorem AppPost.moved {w w' : World} {v v' : Value} {l : List Int} (h : AppPost w v l v' w') : Moved w v v' := by
  rcases h.2 with h | h
  · exact .inl h.1
  · exact .inr ⟨_, h.1, Nat.le_refl _⟩
theorem AppPost.grown {w w' : World} {v v' : Value} {l : List Int} (h : AppPost w v l v' w') : Grown w w' fun k => v.ownBlock = some k := by
  rcases h.2 with h | h
  · exact h.2
  · exact Grown.below h.2

section
theorem run_app_cells (w : World) (ty : TypeId) (v : Value) (l : List Int) (hown : Own w v l) (a : Addr) (c : Nat) (m : List Int) (hnews : ∀ j u, (bv m)[j]? = some u → w.cell? (a.add j) = some u) (hb : l.length + m.length ≤ 200000000000000) :
    ∃ v' w', (Builtin.append_ #[32, 32] ty #[v, .slice (some a) m.length c]).run Tryz.prog w = .ok v' w' ∧ AppPost w v (l ++ m) v' w' := by
  obtain ⟨i, hi, hzz⟩ := Option.map_eq_some_iff.1 Tryz.info5
  simp only [Prod.mk.injEq] at hzz
  obtain ⟨hz, hsz, hby⟩ := hzz
  have h63 : l.length + m.length ≤ maxLen := by unfold maxLen; omega
  have hlm : (bv m).length = m.length * i.size := by rw [bv_len, hsz]; omega
  obtain ⟨v', w', hr, h1, h2, h3⟩ := run_append_own_wide (P := Tryz.prog) w 0 32 ty 5 i (.int .u8 0) 1 1 Tryz.underlying32 hi hz hsz hby rfl (by omega) v l.length (bv l) hown a m.length c (bv m) (by rw [bv_len]; omega) hnews (bv_one m) h63 (by omega) (Nat.zero_le _)
  have hO : Own w' v' (l ++ m) := by unfold Own; rw [List.length_append, bv_app]; exact h1
  refine ⟨v', w', hr, hO, ?_⟩
  rcases hown.form with ⟨rfl, rfl⟩ | ⟨g, cap, cur, rfl, hg, hnc, hcm, hcs, htake⟩
  · by_cases hm : m.length = 0
    · have e := h3.2 ⟨rfl, hm⟩
      subst e
      exact .inl ⟨rfl, Grown.of h2 fun k _ e => by simp [Value.ownBlock] at e⟩
    · have hr2 := run_append_nil (P := Tryz.prog) w 32 ty 5 i (.int .u8 0) Tryz.underlying32 hi hz a m.length c (bv m) hlm hnews (by omega) (by omega) (by rw [hby]; omega)
      have e := hr.symm.trans hr2
      injection e with e1 e2
      subst e1 e2
      exact .inr ⟨rfl, ⟨rfl, rfl, rfl, by simp, fun k hk => Below.heap_alloc w.drew _ k hk⟩⟩
  · by_cases hroom : l.length + m.length ≤ cap
    · have hr2 := run_append_room (P := Tryz.prog) w 32 ty 5 i Tryz.underlying32 hi g l.length cap cur hg a m.length c (bv m) hlm hnews (bv_one m) hroom (by rw [hsz, bv_len, hcs]; omega)
      have e := hr.symm.trans hr2
      injection e with e1 e2
      subst e1
      exact .inl ⟨rfl, Grown.of h2 fun k _ e => e⟩
    · have holds : ∀ j u, (bv l)[j]? = some u → w.cell? ((⟨g, 0, none⟩ : Addr).add j) = some u := World.ownsRow.cells (g := g) hown rfl
      have hr2 := run_append_grow (P := Tryz.prog) w 32 ty 5 i (.int .u8 0) Tryz.underlying32 hi hz ⟨g, 0, none⟩ l.length cap (bv l) (by rw [bv_len, hsz]; omega) holds a m.length c (bv m) hlm hnews (by omega) (by omega) (by rw [hby]; exact growslice_fits_wide (by omega) (by omega))
      have e := hr.symm.trans hr2
      injection e with e1 e2
      subst e1 e2
      exact .inr ⟨rfl, ⟨rfl, rfl, rfl, by simp, fun k hk => Below.heap_alloc w.drew _ k hk⟩⟩
theorem run_app_row (w : World) (ty : TypeId) (v vx : Value) (l m : List Int) (hown : Own w v l) (hrow : RowAt w vx m) (hb : l.length + m.length ≤ 200000000000000) :
    ∃ v' w', (Builtin.append_ #[32, 32] ty #[v, vx]).run Tryz.prog w = .ok v' w' ∧ AppPost w v (l ++ m) v' w' := by
  rcases hrow with ⟨rfl, rfl⟩ | ⟨ad, c, rfl, rfl⟩ | ⟨b, off, cap, rfl, hcap, hc⟩
  · obtain ⟨i, hi, _⟩ := Option.map_eq_some_iff.1 Tryz.info5
    have hrun := run_append_owned_none (P := Tryz.prog) (w := w) 0 32 ty 5 i 1 Tryz.underlying32 hi v l.length (bv l) hown
    exact ⟨v, w, hrun, by simpa using hown, .inl ⟨rfl, Grown.refl _ _⟩⟩
  · exact run_app_cells w ty v l hown ad c [] (fun j u hu => by simp [bv] at hu) hb
  · refine run_app_cells w ty v l hown ⟨b, off, none⟩ cap m (fun j u hu => ?_) hb
    have hj : j < m.length := by have := (List.getElem?_eq_some_iff.1 hu).1; rwa [bv_len] at this
    rw [bv_get m j hj] at hu
    rw [Addr.add_mid, hc j hj]; exact hu
end
theorem wpList_app {ops : Array Oper} {rest : List Oper} {o : Oper} {a : Act} {w : World} {Q : Exit → Act → World → Prop} (hgd : o.guard = none) (s x : Operand)
    (ho : o.op = .call { callee := .builtin .append, args := #[s, x], argTypes := #[32, 32] }) (v vx : Value) (l m : List Int)
    (hs : a.eval s = v) (hx : a.eval x = vx) (hown : Own w v l) (hrow : RowAt w vx m) (hb : l.length + m.length ≤ 200000000000000)
    (h : ∀ v' w', AppPost w v (l ++ m) v' w' → wpList Tryz.prog ops Q rest (a.put o.dst v') w') : wpList Tryz.prog ops Q (o :: rest) a w := by
  refine wpList_plain hgd fun K hK => ?_
  obtain ⟨v', w', hr, h2⟩ := run_app_row w o.type v vx l m hown hrow hb
  unfold Oper.wp execOp
  simp only [ho, resolve, invoke, builtin, Sem.run_bind, Sem.run_pure, Result.andThen_ok, List.map_toArray, List.map_cons, List.map_nil, hs, hx, hr]
  exact hK _ _ (h v' w' h2)
end Go.Proofs.YtdkhjeofjhcceaaGreatDoor.Nd
namespace Go.Proofs.YtdkhjeofjhcceaaGreatDoor.Nd
open Go.RowKit

def numF : Nat → Nat → List Int
  | 0, x => [(x : Int)]
  | f + 1, x => if x < 128 then [(x : Int)] else ((x % 128 + 128 : Nat) : Int) :: numF f (x / 128)
def numL (x : Nat) : List Int := numF 9 x

theorem numF_more (f : Nat) : ∀ x, x < 128 ^ (f + 1) → numF (f + 1) x = numF f x := by
  induction f with
  | zero => intro x hx; simp only [numF]; rw [if_pos (by simpa using hx)]
  | succ f ih =>
    intro x hx
    by_cases h : x < 128
    · simp only [numF, if_pos h]
    · have h2 : x / 128 < 128 ^ (f + 1) := by rw [Nat.div_lt_iff_lt_mul (by omega)]; rw [Nat.pow_succ] at hx; exact hx
      rw [show numF (f + 1 + 1) x = ((x % 128 + 128 : Nat) : Int) :: numF (f + 1) (x / 128) by rw [numF, if_neg h]]
      rw [show numF (f + 1) x = ((x % 128 + 128 : Nat) : Int) :: numF f (x / 128) by rw [numF, if_neg h], ih _ h2]
theorem numL_small (x : Nat) (h : x < 128) : numL x = [(x : Int)] := by unfold numL; rw [numF, if_pos h]
theorem numL_step (x : Nat) (h : 128 ≤ x) (hx : x < 18446744073709551616) : numL x = ((x % 128 + 128 : Nat) : Int) :: numL (x / 128) := by
  unfold numL
  rw [numF, if_neg (by omega), numF_more 8 (x / 128) (by
    have : (128 : Nat) ^ (8 + 1) = 9223372036854775808 := by decide
    rw [this]; omega)]

def Byts (l : List Int) : Prop := ∀ c ∈ l, 0 ≤ c ∧ c < 256
theorem Byts.nil : Byts [] := fun _ h => by simp at h
theorem Byts.one {c : Int} (h : 0 ≤ c ∧ c < 256) : Byts [c] := fun x hx => by simp at hx; subst hx; exact h
theorem Byts.take {a : List Int} (h : Byts a) (n : Nat) : Byts (a.take n) := fun c hc => h c (List.mem_of_mem_take hc)
theorem Byts.drop {a : List Int} (h : Byts a) (n : Nat) : Byts (a.drop n) := fun c hc => h c (List.mem_of_mem_drop hc)
theorem Byts.getD {a : List Int} (h : Byts a) (n : Nat) : 0 ≤ a.getD n 0 ∧ a.getD n 0 < 256 := by
  rw [List.getD_eq_getElem?_getD]
  by_cases hn : n < a.length
  · rw [List.getElem?_eq_getElem hn]; exact h _ (List.getElem_mem hn)
  · rw [List.getElem?_eq_none (by omega)]; decide

def fstG : List Int → Nat → Int → Int × Int × Int
  | [], _, _ => (0, 0, 20)
  | c :: D, i, x => if i = 9 ∧ 1 < c then (0, 0, 22) else if c = 0 ∧ 0 < i then (0, 0, 21) else if c < 128 then (x + c % 128 * 2 ^ (7 * i), (i : Int) + 1, 0) else fstG D (i + 1) (x + c % 128 * 2 ^ (7 * i))
def fstM (D : List Int) (most : Int) : Int × Int × Int := if (fstG D 0 0).2.2 = 0 ∧ most < (fstG D 0 0).1 then (0, 0, 22) else fstG D 0 0

theorem pow7 (i : Nat) : (0 : Int) < 2 ^ (7 * i) := Int.pow_pos (by decide)

theorem fstG_inv (D : List Int) : ∀ (i : Nat) (y z k : Int), Byts D → i ≤ 9 → fstG D i y = (z, k, 0) →
    ∃ x : Nat, z = y + x * 2 ^ (7 * i) ∧ (x : Int) * 2 ^ (7 * i) < 18446744073709551616 ∧ (0 < i → 0 < x) ∧ k = (i : Int) + (numF (9 - i) x).length ∧ ∃ rest, D = numF (9 - i) x ++ rest := by
  induction D with
  | nil => intro i y z k _ _ h; simp [fstG] at h
  | cons c D ih =>
    intro i y z k hB hi h
    have hc := hB c (by simp)
    have hD : Byts D := fun x hx => hB x (by simp [hx])
    simp only [fstG] at h
    by_cases h1 : i = 9 ∧ 1 < c
    · rw [if_pos h1] at h; simp at h
    · rw [if_neg h1] at h
      by_cases h2 : c = 0 ∧ 0 < i
      · rw [if_pos h2] at h; simp at h
      · rw [if_neg h2] at h
        have hpp := pow7 i
        by_cases h3 : c < 128
        · rw [if_pos h3] at h
          simp only [Prod.mk.injEq] at h
          obtain ⟨rfl, rfl, _⟩ := h
          refine ⟨c.toNat, ?_, ?_, fun _ => by omega, ?_, D, ?_⟩
          · rw [show c % 128 = c by omega, Int.toNat_of_nonneg hc.1]
          · rw [Int.toNat_of_nonneg hc.1]
            by_cases h9 : i = 9
            · subst h9
              have : (2 : Int) ^ (7 * 9) = 9223372036854775808 := by decide
              rw [this]; omega
            · have hle : (2 : Int) ^ (7 * i) ≤ 2 ^ (7 * 8) := by
                have := Nat.pow_le_pow_right (n := 2) (by decide) (show 7 * i ≤ 7 * 8 by omega)
                exact_mod_cast this
              have h56 : (2 : Int) ^ (7 * 8) = 72057594037927936 := by decide
              have : c * 2 ^ (7 * i) ≤ 127 * 2 ^ (7 * i) := Int.mul_le_mul_of_nonneg_right (by omega) (by omega)
              omega
          · cases h9 : 9 - i with
            | zero => simp [numF]
            | succ f => rw [numF, if_pos (by omega)]; simp
          · cases h9 : 9 - i with
            | zero => simp [numF, Int.toNat_of_nonneg hc.1]
            | succ f => rw [numF, if_pos (by omega)]; simp [Int.toNat_of_nonneg hc.1]
        · rw [if_neg h3] at h
          obtain ⟨x, hz, hx, hx0, hk, rest, hr⟩ := ih (i + 1) _ z k hD (by omega) h
          have hp : (2 : Int) ^ (7 * (i + 1)) = 128 * 2 ^ (7 * i) := by
            rw [show 7 * (i + 1) = 7 * i + 7 by omega, Int.pow_add, Int.mul_comm]; rfl
          have hx1 := hx0 (by omega)
          have hc2 : c % 128 = c - 128 := by omega
          have e9 : 9 - i = (9 - (i + 1)) + 1 := by omega
          have hnum : numF (9 - i) ((c - 128).toNat + 128 * x) = c :: numF (9 - (i + 1)) x := by
            rw [e9, numF, if_neg (by omega), show ((c - 128).toNat + 128 * x) / 128 = x by omega, show ((c - 128).toNat + 128 * x) % 128 = (c - 128).toNat by omega]
            congr 1
            omega
          have hval : (((c - 128).toNat + 128 * x : Nat) : Int) * 2 ^ (7 * i) = (c - 128) * 2 ^ (7 * i) + x * 2 ^ (7 * (i + 1)) := by
            rw [hp, ← Int.mul_assoc, ← Int.add_mul]
            congr 1
            omega
          refine ⟨(c - 128).toNat + 128 * x, ?_, ?_, fun _ => by omega, ?_, rest, ?_⟩
          · rw [hval, hz, hc2]; omega
          · rw [hval]
            have a1 : (c - 128) * 2 ^ (7 * i) ≤ 127 * 2 ^ (7 * i) := Int.mul_le_mul_of_nonneg_right (by omega) (by omega)
            rw [hp] at hx
            by_cases h8 : i ≤ 8
            · -- the sum of what is below and of a multiple of the place
              have hq : (18446744073709551616 : Int) = 2 ^ (64 - 7 * (i + 1)) * (128 * 2 ^ (7 * i)) := by
                rw [← hp, ← Int.pow_add, show 64 - 7 * (i + 1) + 7 * (i + 1) = 64 by omega]; rfl
              rw [hq] at hx ⊢
              have hxl : (x : Int) < 2 ^ (64 - 7 * (i + 1)) := Int.lt_of_mul_lt_mul_right hx (by omega)
              have h2 : ((x : Int) + 1) * (128 * 2 ^ (7 * i)) ≤ 2 ^ (64 - 7 * (i + 1)) * (128 * 2 ^ (7 * i)) := Int.mul_le_mul_of_nonneg_right (by omega) (by omega)
              rw [hp]
              have h3 : ((x : Int) + 1) * (128 * 2 ^ (7 * i)) = x * (128 * 2 ^ (7 * i)) + 128 * 2 ^ (7 * i) := by rw [Int.add_mul, Int.one_mul]
              omega
            · omega
          · rw [hnum, hk]; simp; omega
          · rw [hnum, hr]; rfl
theorem fstG_form (D : List Int) (z k : Int) (hB : Byts D) (h : fstG D 0 0 = (z, k, 0)) :
    ∃ x : Nat, z = x ∧ x < 18446744073709551616 ∧ k = ((numL x).length : Int) ∧ ∃ rest, D = numL x ++ rest := by
  obtain ⟨x, h1, h2, _, h4, rest, h5⟩ := fstG_inv D 0 0 z k hB (by omega) h
  refine ⟨x, by simpa using h1, ?_, by simpa [numL] using h4, rest, by simpa [numL] using h5⟩
  simp at h2; omega
end Go.Proofs.YtdkhjeofjhcceaaGreatDoor.Nd
namespace Go.Proofs.YtdkhjeofjhcceaaGreatDoor.Nd
open Go.RowKit

structure OutAt (w : World) (p : Nat) (v : Value) (l : List Int) : Prop where
  blk : Blk w p 96 #[v]
  own : Own w v l
def OF (p : Nat) (v : Value) : Nat → Prop := fun k => k = p ∨ v.ownBlock = some k
def OutPost (p : Nat) (v : Value) (l : List Int) (w : World) (e : Ending) (w' : World) : Prop :=
  e = .returned (.tuple #[]) ∧ ∃ v', OutAt w' p v' l ∧ Moved w v v' ∧ Grown w w' (OF p v)
theorem OutAt.grown {w w' : World} {p : Nat} {v : Value} {l : List Int} {S : Nat → Prop} (h : OutAt w p v l) (hg : Grown w w' S) (hs : ∀ k, OF p v k → ¬ S k) : OutAt w' p v l :=
  ⟨hg.blk h.blk (hs p (.inl rfl)), h.own.grown hg fun k hk => hs k (.inr hk)⟩
theorem OutAt.lt {w : World} {p : Nat} {v : Value} {l : List Int} (h : OutAt w p v l) {k : Nat} (hk : OF p v k) : k < w.heap.size := by
  rcases hk with rfl | hk
  · exact h.blk.lt
  · exact h.own.lt k hk
theorem OutPost.trans {p : Nat} {v v1 : Value} {l : List Int} {w w1 w2 : World} {e : Ending} (hm : Moved w v v1) (hg : Grown w w1 (OF p v)) (h : OutPost p v1 l w1 e w2) : OutPost p v l w e w2 := by
  obtain ⟨he, v2, h1, h2, h3⟩ := h
  refine ⟨he, v2, h1, hm.trans hg.size h2, hg.next h3 ?_⟩
  rintro i hi (rfl | h)
  · exact .inl rfl
  · exact .inr (hm.old hi h)

theorem OutAt.stored {w w1 : World} {p : Nat} {v v' : Value} {l m : List Int} (h : OutAt w p v l) (ha : AppPost w v m v' w1) : OutPost p v m w (.returned (.tuple #[])) (w1.setCell ⟨p, 0, none⟩ v') := by
  have hne := h.own.ne h.blk (by decide)
  have hp1 : Blk w1 p 96 #[v] := ha.grown.blk h.blk hne
  have hne1 : v'.ownBlock ≠ some p := ha.1.ne hp1 (by decide)
  refine ⟨rfl, v', ⟨hp1.set 0 v', ha.1.grown (Grown.setCell w1 p 0 v' (S := fun k => k = p) fun _ => rfl) fun k hk e => hne1 (by rw [hk, e])⟩, ha.moved, ?_⟩
  exact (ha.grown.mono fun i _ h => Or.inr h).next (Grown.setCell w1 p 0 v' (S := fun k => k = p) fun _ => rfl) fun i _ e => .inl e

theorem Own.sl {w : World} {v : Value} {l : List Int} (h : Own w v l) : ∃ a n c, v = .slice a n c := by
  rcases h.form with ⟨rfl, _⟩ | ⟨g, cap, cur, rfl, _⟩
  · exact ⟨_, _, _, rfl⟩
  · exact ⟨_, _, _, rfl⟩
theorem OutAt.box {w : World} {p : Nat} {v : Value} {l : List Int} (h : OutAt w p v l) (o : Obj) : OutAt (w.alloc o) p v l := h.grown (Grown.alloc w o fun _ => False) fun _ _ h => h
theorem OutPost.box {p : Nat} {v : Value} {l : List Int} {w w2 : World} {e : Ending} {o : Obj} (h : OutPost p v l (w.alloc o) e w2) : OutPost p v l w e w2 :=
  h.trans (Moved.refl _ _) (Grown.alloc w o _)

set_option maxRecDepth 8000 in
set_option maxHeartbeats 400000 in
theorem obyte_any (p : Nat) (v : Value) (l : List Int) (c : Int) (w : World) (h : OutAt w p v l) (hb : (l ++ [c]).length ≤ 200000000000000) :
    Calls Tryz.prog 35 #[ptr p, .int .u8 c] w (OutPost p v (l ++ [c]) w) := by
  have hO1 := h.box (.cells #[.int .u8 c] 5)
  have HO : Keep (OutAt (w.alloc (.cells #[.int .u8 c] 5)) p v l) := ⟨hO1⟩
  have c0 : w.cell? ⟨p, 0, none⟩ = some v := by rw [h.blk.cell]; rfl
  have HB : Keep (l.length + [c].length ≤ 200000000000000) := ⟨by simpa using hb⟩
  clear h hO1 hb
  go_enter Tryz.func35, Tryz.ntmps35
  go_wp2_with (first | (at_builtin; refine wpList_app rfl (.tmp 8) (.tmp 10) rfl v (.slice (some ⟨w.heap.size, 0, none⟩) 1 1) l [c] rfl rfl HO.out.own (row_one w c) HB.out ?_; intro v' w' hp; refine Hid.out ?_))
  refine hid_in ?_
  obtain ⟨a1, n1, k1, rfl⟩ := hp.1.sl
  have HP : Keep (AppPost (w.alloc (.cells #[.int .u8 c] 5)) v (l ++ [c]) (.slice a1 n1 k1) w') := ⟨hp⟩
  have hp1 : Blk w' p 96 #[v] := hp.grown.blk HO.out.blk (HO.out.own.ne HO.out.blk (by decide))
  have c1 : w'.cell? ⟨p, 0, none⟩ = some v := by rw [hp1.cell]; rfl
  have f1 : w'.frozen? ⟨p, 0, none⟩ = false := hp1.frozen 0
  clear hp hp1 c0
  go_wp2
  go_end0
  exact (HO.out.stored HP.out).box
set_option maxRecDepth 8000 in
set_option maxHeartbeats 400000 in
theorem oraw_any (p : Nat) (v vx : Value) (l m : List Int) (w : World) (h : OutAt w p v l) (hx : RowAt w vx m) (hb : (l ++ m).length ≤ 200000000000000) :
    Calls Tryz.prog 17 #[ptr p, vx] w (OutPost p v (l ++ m) w) := by
  have HO : Keep (OutAt w p v l) := ⟨h⟩
  have HX : Keep (RowAt w vx m) := ⟨hx⟩
  have c0 : w.cell? ⟨p, 0, none⟩ = some v := by rw [h.blk.cell]; rfl
  have HB : Keep (l.length + m.length ≤ 200000000000000) := ⟨by simpa using hb⟩
  clear h hx hb
  go_enter Tryz.func17, Tryz.ntmps17
  go_wp2_with (first | (at_builtin; refine wpList_app rfl (.tmp 8) (.tmp 9) rfl v vx l m rfl rfl HO.out.own HX.out HB.out ?_; intro v' w' hp; refine Hid.out ?_))
  refine hid_in ?_
  obtain ⟨a1, n1, k1, rfl⟩ := hp.1.sl
  have HP : Keep (AppPost w v (l ++ m) (.slice a1 n1 k1) w') := ⟨hp⟩
  have hp1 : Blk w' p 96 #[v] := hp.grown.blk HO.out.blk (HO.out.own.ne HO.out.blk (by decide))
  have c1 : w'.cell? ⟨p, 0, none⟩ = some v := by rw [hp1.cell]; rfl
  have f1 : w'.frozen? ⟨p, 0, none⟩ = false := hp1.frozen 0
  clear hp hp1 c0
  go_wp2
  go_end0
  exact HO.out.stored HP.out

set_option maxRecDepth 8000 in
set_option maxHeartbeats 1000000 in
theorem onum_any (p : Nat) (v : Value) (l : List Int) (x : Nat) (w : World) (h : OutAt w p v l) (hx : x < 18446744073709551616) (hb : (l ++ numL x).length ≤ 200000000000000) :
    Calls Tryz.prog 18 #[ptr p, .int .u64 (x : Int)] w (OutPost p v (l ++ numL x) w) := by
  have HO : Keep (OutAt w p v l) := ⟨h⟩
  have HB : Keep ((l ++ numL x).length ≤ 200000000000000) := ⟨hb⟩
  have HX : Keep (x < 18446744073709551616) := ⟨hx⟩
  clear h hx hb
  go_enter Tryz.func18, Tryz.ntmps18
  go_wp2
  go_loopw [1] (fun i wr => ∃ (y : Nat) (v1 : Value) (l1 : List Int), i = .int .u64 (y : Int) ∧ Keep (y < 18446744073709551616) ∧ OutAt wr p v1 l1 ∧ Keep (l1 ++ numL y = l ++ numL x) ∧ Moved w v v1 ∧ Grown w wr (OF p v)) (fun i _ => (intOf i).toNat)
  case atStart => exact ⟨x, v, l, rfl, HX, HO.out, ⟨rfl⟩, Moved.refl _ _, Grown.refl _ _⟩
  case round =>
    obtain ⟨y, v1, l1, rfl, hy, hO1, hl1, hm1, hg1⟩ := hrel
    by_cases h128 : 128 ≤ y
    · have h128' : (128 : Int) ≤ (y : Int) := by omega
      have hs := numL_step y h128 hy.out
      have HS : Keep (numL y = ((y % 128 + 128 : Nat) : Int) :: numL (y / 128)) := ⟨hs⟩
      have hlen : Keep ((l1 ++ [(y : Int) % 128 + 128]).length ≤ 200000000000000) := ⟨by
        have e := congrArg List.length hl1.out
        have := HB.out
        rw [HS.out] at e
        simp only [List.length_append, List.length_cons, List.length_nil] at e this ⊢
        omega⟩
      clear hs
      go_wp2_with fail
      refine (obyte_any p v1 l1 _ wr hO1 hlen.out).mono ?_
      rintro e w2 ⟨rfl, v2, hO2, hm2, hg2⟩
      obtain ⟨z, hz⟩ : ∃ z, Keep (y / 128 = z) := ⟨_, ⟨rfl⟩⟩
      have hz1 : (y : Int) / 128 = (z : Int) := by have := hz.out; omega
      clear hO1
      go_wp2
      go_roundw
      case rel =>
        refine ⟨z, v2, l1 ++ [(y : Int) % 128 + 128], rfl, ⟨by have := hy.out; have := hz.out; omega⟩, hO2, ⟨?_⟩, hm1.trans hg1.size hm2, hg1.next hg2 ?_⟩
        · rw [← hl1.out, HS.out, hz.out, List.append_assoc]
          simp
        · rintro i hi (rfl | h)
          · exact .inl rfl
          · exact .inr (hm1.old hi h)
      case measure => simp only [intOf]; have := hz.out; omega
    · have h128' : ¬ (128 : Int) ≤ (y : Int) := by omega
      have hs := numL_small y (by omega)
      have HL : Keep (l1 ++ [(y : Int)] = l ++ numL x) := ⟨by rw [← hl1.out, hs]⟩
      have hlen : Keep ((l1 ++ [(y : Int)]).length ≤ 200000000000000) := ⟨by rw [HL.out]; exact HB.out⟩
      clear hs
      go_wp2_with fail
      refine (obyte_any p v1 l1 _ wr hO1 hlen.out).mono ?_
      intro e w2 hpost
      rw [HL.out] at hpost
      have hpost2 := hpost.trans hm1 hg1
      obtain ⟨rfl, hrest⟩ := hpost2
      have HR : Keep (∃ v', OutAt w2 p v' (l ++ numL x) ∧ Moved w v v' ∧ Grown w w2 (OF p v)) := ⟨hrest⟩
      clear hrest hpost hO1
      go_wp2
      go_end0
      exact ⟨rfl, HR.out⟩




def lst (s : ByteArray) : List Int := s.data.toList.map fun b => (b.toNat : Int)
theorem lst_len (s : ByteArray) : (lst s).length = s.size := by simp [lst]
theorem lst_cells (s : ByteArray) : Lib.strCells s = bv (lst s) := by simp [Lib.strCells, bv, lst]
theorem lst_byts (s : ByteArray) : Byts (lst s) := fun c hc => by
  simp [lst] at hc
  obtain ⟨b, _, rfl⟩ := hc
  have := b.toNat_lt
  omega
theorem lst_nums {l : List Int} (h : Byts l) : lst (strOfNums l) = l := by
  unfold lst
  rw [strOfNums_data, List.map_map]
  conv => rhs; rw [← List.map_id l]
  apply List.map_congr_left
  intro c hc
  have := h c hc
  simp
  omega
theorem nums_lst (s : ByteArray) : strOfNums (lst s) = s := by
  apply ByteArray.ext
  apply Array.ext'
  show (strOfNums (lst s)).data.toList = _
  rw [strOfNums_data]
  unfold lst
  rw [List.map_map]
  conv => rhs; rw [← List.map_id s.data.toList]
  apply List.map_congr_left
  intro b _
  simp






set_option maxRecDepth 8000 in
set_option maxHeartbeats 400000 in
theorem newOut_any (w : World) : Calls Tryz.prog 16 #[] w fun e w' => e = .returned (ptr w.heap.size) ∧ w' = w.alloc (.cells #[.slice none 0 0] 96) := by
  go_enter Tryz.func16, Tryz.ntmps16
  go_wp2
  go_ret
  exact ⟨rfl, rfl⟩
end Go.Proofs.YtdkhjeofjhcceaaGreatDoor.Nd
namespace Go.Proofs.YtdkhjeofjhcceaaGreatDoor.Nd
open Go.RowKit

def bytesA (n : Nat) (c : Nat → Int) : Array Value := Array.ofFn (n := n) fun i => .int .u8 (c i.val)
def upd (c : Nat → Int) (t : Nat) (v : Int) : Nat → Int := fun i => if i = t then v else c i
theorem bytesA_size (n : Nat) (c : Nat → Int) : (bytesA n c).size = n := by simp [bytesA]
theorem bytesA_get (n : Nat) (c : Nat → Int) (j : Nat) (h : j < n) : (bytesA n c)[j]? = some (.int .u8 (c j)) := by simp [bytesA, h]
theorem bytesA_set (n : Nat) (c : Nat → Int) (j : Nat) (v : Int) : (bytesA n c).setIfInBounds j (.int .u8 v) = bytesA n (upd c j v) := by
  apply Array.ext_getElem?
  intro i
  rw [Array.getElem?_setIfInBounds]
  by_cases e : j = i
  · subst e
    by_cases hj : j < n <;> simp [bytesA, upd, hj]
  · by_cases hi : i < n <;> simp [bytesA, upd, hi, e, Ne.symm e]
theorem bytesA_one (n : Nat) (c : Nat → Int) : (bytesA n c).all (·.oneCell') = true := by
  rw [Array.all_eq_true_iff_forall_mem]; intro v hv; simp [bytesA] at hv; obtain ⟨i, rfl⟩ := hv; rfl
theorem bytesA_sizes (n : Nat) (c d : Nat → Int) : (bytesA n c).size = (bytesA n d).size := by rw [bytesA_size, bytesA_size]
theorem bytesA_congr {n : Nat} {c d : Nat → Int} (h : ∀ i, i < n → c i = d i) : bytesA n c = bytesA n d := by
  apply Array.ext_getElem?
  intro i
  by_cases hi : i < n
  · rw [bytesA_get _ _ _ hi, bytesA_get _ _ _ hi, h i hi]
  · rw [Array.getElem?_eq_none (by rw [bytesA_size]; omega), Array.getElem?_eq_none (by rw [bytesA_size]; omega)]
def hl (n : Nat) (c : Nat → Int) : List Int := (List.range n).map c
theorem hl_len (n : Nat) (c : Nat → Int) : (hl n c).length = n := by simp [hl]
theorem hl_get (n : Nat) (c : Nat → Int) (i : Nat) (h : i < n) : (hl n c).getD i 0 = c i := by simp [hl, List.getD_eq_getElem?_getD, h]
theorem hl_bytesA (n : Nat) (c : Nat → Int) : (bytesA n c).toList = bv (hl n c) := by
  apply List.ext_getElem?
  intro i
  rw [Array.getElem?_toList]
  by_cases h : i < n
  · rw [bytesA_get _ _ _ h, bv_get _ _ (by rw [hl_len]; exact h), hl_get _ _ _ h]
  · rw [Array.getElem?_eq_none (by rw [bytesA_size]; omega), List.getElem?_eq_none (by rw [bv_len, hl_len]; omega)]

theorem Tryz.size50 : (Tryz.prog.info? 50).map (·.size) = some 32 := by kernel_rfl
theorem Tryz.size50B (c : Nat → Int) : (Tryz.prog.info? 50).map (·.size) = some (bytesA 32 c).size := by rw [bytesA_size]; exact Tryz.size50
theorem run_box_agg {P : Program} (w : World) (t : TypeId) (cs : Array Value) : (Instr.box t (.agg cs)).run P w = .ok (.pointer (some ⟨w.heap.size, 0, none⟩)) (w.alloc (.cells cs t)) := rfl
theorem wpList_boxA {P : Program} {ops : Array Oper} {rest : List Oper} {o : Oper} {a : Act} {w : World} {Q : Exit → Act → World → Prop} (hg : o.guard = none) (t : TypeId) (x : Operand) (ho : o.op = .box t x)
    (cs : Array Value) (hx : a.eval x = .agg cs)
    (h : wpList P ops Q rest (a.put o.dst (.pointer (some ⟨w.heap.size, 0, none⟩))) (w.alloc (.cells cs t))) : wpList P ops Q (o :: rest) a w := by
  refine wpList_plain hg fun K hK => ?_
  unfold Oper.wp execOp
  simp only [ho, hx, Sem.run_bind, run_box_agg, Result.andThen_ok]
  exact hK _ _ h
theorem row_arr {w : World} {g : Nat} {T : TypeId} {n : Nat} {c : Nat → Int} (h : Blk w g T (bytesA n c)) : RowAt w (.slice (some ⟨g, 0, none⟩) n n) (hl n c) := by
  refine .inr (.inr ⟨g, 0, n, by rw [hl_len], by rw [hl_len]; exact Nat.le_refl _, fun i hi => ?_⟩)
  rw [hl_len] at hi
  rw [Nat.zero_add, h.cell, bytesA_get _ _ _ hi, hl_get _ _ _ hi]

set_option maxRecDepth 8000 in
set_option maxHeartbeats 400000 in
theorem ohash_any (p : Nat) (v : Value) (l : List Int) (c : Nat → Int) (w : World) (h : OutAt w p v l) (hb : l.length + 32 ≤ 200000000000000) :
    Calls Tryz.prog 23 #[ptr p, .agg (bytesA 32 c)] w (OutPost p v (l ++ hl 32 c) w) := by
  have HO : Keep (OutAt (w.alloc (.cells (bytesA 32 c) 50)) p v l) := ⟨h.box _⟩
  have HR : Keep (RowAt (w.alloc (.cells (bytesA 32 c) 50)) (.slice (some ⟨w.heap.size, 0, none⟩) 32 32) (hl 32 c)) := ⟨row_arr (Blk.new w 50 (bytesA 32 c))⟩
  clear h
  go_enter Tryz.func23, Tryz.ntmps23
  go_wp2_with (first | (refine wpList_boxA rfl 50 (.tmp 1) rfl (bytesA 32 c) rfl ?_; refine Hid.out ?_))
  refine hid_in ?_
  go_wp2_with fail
  refine (oraw_any p v _ l (hl 32 c) _ HO.out HR.out (by rw [List.length_append, hl_len]; exact hb)).mono ?_
  intro e w1 hpost
  have hpost2 := hpost.box
  obtain ⟨rfl, hrest⟩ := hpost2
  have HP := Keep.mk hrest
  clear hpost hrest
  go_wp2
  go_end0
  exact ⟨rfl, HP.out⟩

theorem made_bytes (n : Nat) : madeCells #[.int .u8 0] n = bytesA n fun _ => 0 := by
  apply Array.ext_getElem?
  intro i
  by_cases h : i < n <;> simp [madeCells, bytesA, h, Nat.mod_one]
theorem run_makeB (l c : Nat) (hlc : l ≤ c) (hc : c ≤ 281474976710656) (w : World) : (Instr.makeSlice 32 (.int .i64 (l : Int)) (.int .i64 (c : Int))).run Tryz.prog w = .ok (.slice (some ⟨w.heap.size, 0, none⟩) l c) (w.alloc (.cells (bytesA c fun _ => 0) 5)) := by
  obtain ⟨i, hi, hzz⟩ := Option.map_eq_some_iff.1 Tryz.info5
  simp only [Prod.mk.injEq] at hzz
  obtain ⟨hz, hs, hb⟩ := hzz
  have hr := run_make (P := Tryz.prog) w 32 5 i (.int .u8 0) Tryz.underlying32 hi hz .i64 .i64 (l : Int) (c : Int) (by omega) (by omega) (by rw [hb]; omega) (by omega)
  simp only [Int.toNat_natCast, hs, Nat.mul_one, Value.cells] at hr
  rw [made_bytes] at hr
  exact hr
theorem wpList_makeB {ops : Array Oper} {rest : List Oper} {o : Oper} {a : Act} {w : World} {Q : Exit → Act → World → Prop} (hgd : o.guard = none) (x y : Operand) (ho : o.op = .makeSlice 32 x y) (l c : Nat) (hlc : l ≤ c) (hc : c ≤ 281474976710656)
    (hx : a.eval x = .int .i64 (l : Int)) (hy : a.eval y = .int .i64 (c : Int))
    (h : wpList Tryz.prog ops Q rest (a.put o.dst (.slice (some ⟨w.heap.size, 0, none⟩) l c)) (w.alloc (.cells (bytesA c fun _ => 0) 5))) : wpList Tryz.prog ops Q (o :: rest) a w := by
  refine wpList_plain hgd fun K hK => ?_
  have hrun := run_makeB l c hlc hc w
  unfold Oper.wp
  simp only [execOp, ho, hx, hy, Sem.run_bind, hrun, Result.andThen_ok]
  exact hK _ _ h
theorem run_copyB (w : World) (g cap : Nat) (v : Value) (m : List Int) (ty T : TypeId) (cur : Array Value) (hg : Blk w g T cur) (hs : cur.size = m.length) (hr : RowAt w v m) :
    (Builtin.copy_ #[32, 32] ty #[.slice (some ⟨g, 0, none⟩) m.length cap, v]).run Tryz.prog w = .ok (goInt m.length) (w.setRow g (bv m).toArray) := by
  have hst := run_storeCells_at Tryz.prog g 0 T (bv m) 0 cur w hg (by rw [bv_len]; omega) (bv_one m)
  have hcur : (cur.toList.take (0 + 0) ++ bv m ++ cur.toList.drop (0 + 0 + (bv m).length)).toArray = (bv m).toArray := by
    rw [bv_len, List.drop_of_length_le (by rw [Array.length_toList]; omega)]; simp
  rw [hcur] at hst
  obtain ⟨i, hi, hzz⟩ := Option.map_eq_some_iff.1 Tryz.info5
  simp only [Prod.mk.injEq] at hzz
  obtain ⟨_, hsz, _⟩ := hzz
  rcases hr with ⟨rfl, rfl⟩ | ⟨ad, c, rfl, rfl⟩ | ⟨b, off, cap2, rfl, _, hc⟩
  · simp only [bv, List.map_nil] at hst ⊢
    simp [Builtin.copy_, run_underlying Tryz.underlying32, Builtin.lenOf, Builtin.firstCells, sizeOf, typeInfo, hi, hst]
  · simp only [bv, List.map_nil] at hst ⊢
    simp [Builtin.copy_, run_underlying Tryz.underlying32, Builtin.lenOf, Builtin.firstCells, sizeOf, typeInfo, hi, loadCells, loadCellsFrom, hst]
  · have hl := run_loadCells_list (P := Tryz.prog) w ⟨b, off, none⟩ (bv m) (fun j v hv => by
      have hj : j < m.length := by have := (List.getElem?_eq_some_iff.1 hv).1; rwa [bv_len] at this
      rw [bv_get m j hj] at hv
      rw [Addr.add_mid, hc j hj]; exact hv)
    rw [bv_len] at hl
    simp [Builtin.copy_, run_underlying Tryz.underlying32, Builtin.lenOf, Builtin.firstCells, sizeOf, typeInfo, hi, hsz, hl, hst]

set_option maxRecDepth 8000 in
set_option maxHeartbeats 400000 in
theorem odone_any (p : Nat) (v : Value) (l : List Int) (w : World) (h : OutAt w p v l) (hb : l.length ≤ 200000000000000) :
    Calls Tryz.prog 25 #[ptr p] w fun e w' => e = .returned (.slice (some ⟨w.heap.size, 0, none⟩) l.length l.length) ∧ w' = w.alloc (.cells (bv l).toArray 5) := by
  have HO : Keep (OutAt (w.alloc (.cells (bytesA l.length fun _ => 0) 5)) p v l) := ⟨h.box _⟩
  have HB : Keep (l.length ≤ 281474976710656) := ⟨by omega⟩
  obtain ⟨a, c, rfl⟩ := row_form h.own.row
  have c0 : w.cell? ⟨p, 0, none⟩ = some (.slice a l.length c) := by rw [h.blk.cell]; rfl
  clear h hb
  go_enter Tryz.func25, Tryz.ntmps25
  go_wp2_with (first | (refine wpList_makeB rfl (.tmp 8) (.tmp 8) rfl l.length l.length (Nat.le_refl _) HB.out rfl rfl ?_; refine Hid.out ?_))
  refine hid_in ?_
  have hg := Keep.mk (Blk.new w 5 (bytesA l.length fun _ => 0))
  obtain ⟨w1, hw1⟩ : ∃ w1, Keep (w1 = w.alloc (.cells (bytesA l.length fun _ => 0) 5)) := ⟨_, ⟨rfl⟩⟩
  rw [← hw1.out] at hg HO ⊢
  have c1 : w1.cell? ⟨p, 0, none⟩ = some (.slice a l.length c) := by rw [HO.out.blk.cell]; rfl
  clear c0
  have hcp := run_copyB w1 w.heap.size l.length (.slice a l.length c) l 3 5 (bytesA l.length fun _ => 0) hg.out (bytesA_size _ _) HO.out.own.row
  go_wp2
  go_ret
  refine ⟨rfl, ?_⟩
  rw [hw1.out]
  exact World.setRow_alloc_new _ _ _ _
end Go.Proofs.YtdkhjeofjhcceaaGreatDoor.Nd
namespace Go.Proofs.YtdkhjeofjhcceaaGreatDoor.Nd
open Go.RowKit

def LayPost (v : Value) (l : List Int) (w : World) (e : Ending) (w' : World) : Prop :=
  ∃ v', e = .returned v' ∧ Own w' v' l ∧ Moved w v v' ∧ Grown w w' fun k => v.ownBlock = some k
theorem LayPost.trans {v v1 : Value} {l : List Int} {w w1 w2 : World} {e : Ending} (h : LayPost v1 l w1 e w2) (hm : Moved w v v1) (hg : Grown w w1 fun k => v.ownBlock = some k) : LayPost v l w e w2 := by
  obtain ⟨v2, he, h1, h2, h3⟩ := h
  exact ⟨v2, he, h1, hm.trans hg.size h2, hg.next h3 fun i hi h => hm.old hi h⟩
theorem AppPost.lay {w w' : World} {v v' : Value} {l : List Int} (h : AppPost w v l v' w') : LayPost v l w (.returned v') w' := ⟨v', rfl, h.1, h.moved, h.grown⟩
theorem Own.box {w : World} {v : Value} {l : List Int} (h : Own w v l) (o : Obj) : Own (w.alloc o) v l := h.grown (Grown.alloc w o fun _ => False) fun _ _ h => h
theorem AppPost.box {w w' : World} {v v' : Value} {l : List Int} {o : Obj} (h : AppPost (w.alloc o) v l v' w') : Own w' v' l ∧ Moved w v v' ∧ Grown w w' fun k => v.ownBlock = some k :=
  ⟨h.1, (Moved.refl w v).trans (Grown.alloc w o fun _ => False).size h.moved, (Grown.alloc w o _).next h.grown fun _ _ h => h⟩

end Go.Proofs.YtdkhjeofjhcceaaGreatDoor.Nd
namespace Go.Proofs.YtdkhjeofjhcceaaGreatDoor.Nd
open Go.RowKit



theorem Tryz.new50 (w : World) : (Instr.alloc 50 true (.tuple #[])).run Tryz.prog w = .ok (.pointer (some ⟨w.heap.size, 0, none⟩)) (w.alloc (.cells (bytesA 32 fun _ => 0) 50)) := by kernel_rfl
theorem wpList_bld {P : Program} {ops : Array Oper} {rest : List Oper} {o : Oper} {a : Act} {w : World} {Q : Exit → Act → World → Prop} (hg : o.guard = none) (t : TypeId) (parts : Array (Nat × Operand)) (ho : o.op = .build t parts)
    (cells : Array Value) (hf : P.built t (parts.map fun (i, x) => (i, a.eval x)).toList = some cells)
    (h : wpList P ops Q rest (a.put o.dst (.agg cells)) w) : wpList P ops Q (o :: rest) a w :=
  wpList_build hg t parts ho (by rw [hf]; rfl) (by rw [hf]; exact h)
theorem wpList_new {P : Program} {ops : Array Oper} {rest : List Oper} {o : Oper} {a : Act} {w : World} {Q : Exit → Act → World → Prop} (hg : o.guard = none) (t : TypeId) (ho : o.op = .alloc t)
    (cells : Array Value) (hf : ∀ w : World, (Instr.alloc t true (.tuple #[])).run P w = .ok (.pointer (some ⟨w.heap.size, 0, none⟩)) (w.alloc (.cells cells t)))
    (h : wpList P ops Q rest (a.put o.dst (.pointer (some ⟨w.heap.size, 0, none⟩))) (w.alloc (.cells cells t))) : wpList P ops Q (o :: rest) a w := by
  refine wpList_plain hg fun K hK => ?_
  unfold Oper.wp execOp
  simp only [ho, Sem.run_bind, hf w, Result.andThen_ok]
  exact hK _ _ h

def hof (l : List Int) : Nat → Int := fun i => l.getD i 0

end Go.Proofs.YtdkhjeofjhcceaaGreatDoor.Nd
namespace Go.Proofs.YtdkhjeofjhcceaaGreatDoor.Nd
open Go.RowKit

structure OpV where
  kind : Int
  key : ByteArray
  text : ByteArray
  n : Int
  node : List Int
  op : Int

def idL (node : List Int) (op : Int) : List Value := bv (hl 32 (hof node)) ++ [.int .i64 op]
def opL (x : OpV) : List Value := [.int .i64 x.kind, .string x.key, .string x.text, .int .i64 x.n] ++ idL x.node x.op
def opA (x : OpV) : Array Value := (opL x).toArray
def idA (node : List Int) (op : Int) : Array Value := (idL node op).toArray
def z32 : List Int := List.replicate 32 0
def zeroOp : OpV := ⟨0, ByteArray.empty, ByteArray.empty, 0, z32, 0⟩

theorem idL_len (c : List Int) (o : Int) : (idL c o).length = 33 := by simp [idL, bv_len, hl_len]
theorem opL_len (x : OpV) : (opL x).length = 37 := by simp [opL, idL_len]
theorem opA_size (x : OpV) : (opA x).size = 37 := by simp [opA, opL_len]
theorem opA_list (x : OpV) : (opA x).toList = opL x := rfl
theorem opA_sizes (x y : OpV) : (opA x).size = (opA y).size := by rw [opA_size, opA_size]
theorem idL_node (c : List Int) (o : Int) : (idL c o).take 32 = bv (hl 32 (hof c)) := by
  unfold idL; exact List.take_left' (by simp [bv_len, hl_len])
theorem idL_op (c : List Int) (o : Int) : (idL c o)[32]? = some (.int .i64 o) := by
  unfold idL
  rw [List.getElem?_append_right (by simp [bv_len, hl_len])]
  simp [bv_len, hl_len]
theorem opA_0 (x : OpV) : (opA x)[0]? = some (.int .i64 x.kind) := by simp [opA, opL]
theorem opA_1 (x : OpV) : (opA x)[1]? = some (.string x.key) := by simp [opA, opL]
theorem opA_2 (x : OpV) : (opA x)[2]? = some (.string x.text) := by simp [opA, opL]
theorem opA_3 (x : OpV) : (opA x)[3]? = some (.int .i64 x.n) := by simp [opA, opL]
theorem opA_36 (x : OpV) : (opA x)[36]? = some (.int .i64 x.op) := by
  simp only [opA, opL, List.getElem?_toArray]
  rw [List.getElem?_append_right (by simp)]
  exact idL_op _ _
theorem opL_at (x : OpV) : (opL x).drop 4 = idL x.node x.op := by simp [opL]
theorem set_1 (x : OpV) (k : ByteArray) : (opA x).setIfInBounds 1 (.string k) = opA { x with key := k } := by simp [opA, opL]
theorem set_2 (x : OpV) (k : ByteArray) : (opA x).setIfInBounds 2 (.string k) = opA { x with text := k } := by simp [opA, opL]
theorem set_3 (x : OpV) (k : Int) : (opA x).setIfInBounds 3 (.int .i64 k) = opA { x with n := k } := by simp [opA, opL]
theorem set_36 (x : OpV) (k : Int) : (opA x).setIfInBounds 36 (.int .i64 k) = opA { x with op := k } := by
  simp only [opA, opL, idL, List.setIfInBounds_toArray]
  rw [List.set_append_right _ _ (by simp), List.set_append_right _ _ (by simp [bv_len, hl_len])]
  simp [bv_len, hl_len]
theorem hl_hof (c : List Int) (h : c.length = 32) : hl 32 (hof c) = c := by
  apply List.ext_getElem (by rw [hl_len, h])
  intro i h1 h2
  have := hl_get 32 (hof c) i (by rw [hl_len] at h1; exact h1)
  rw [List.getD_eq_getElem?_getD, List.getElem?_eq_getElem h1, Option.getD_some] at this
  rw [this]
  simp [hof, List.getD, h2]
theorem hl_of (f : Nat → Int) : hl 32 (hof (hl 32 f)) = hl 32 f := hl_hof _ (hl_len _ _)
theorem bytesA_bv (f : Nat → Int) : bytesA 32 f = (bv (hl 32 f)).toArray := by
  apply Array.ext'; rw [hl_bytesA]
theorem put_node (x : OpV) (f : Nat → Int) : ((opA x).toList.take 4 ++ (bytesA 32 f).toList ++ (opA x).toList.drop (4 + (bytesA 32 f).size)).toArray = opA { x with node := hl 32 f } := by
  rw [bytesA_size, opA_list, bytesA_bv]
  simp only [opA, opL, idL]
  rw [hl_of]
  have : (List.drop (4 + 32) ([Value.int .i64 x.kind, Value.string x.key, Value.string x.text, Value.int .i64 x.n] ++ (bv (hl 32 (hof x.node)) ++ [Value.int .i64 x.op]))) = [Value.int .i64 x.op] := by
    rw [← List.append_assoc]
    exact List.drop_left' (by simp [bv_len, hl_len])
  rw [this]
  simp
theorem opA_one (x : OpV) : (opA x).all (·.oneCell') = true := by
  rw [Array.all_eq_true_iff_forall_mem]
  intro v hv
  simp only [opA, opL, idL, List.mem_toArray, List.mem_append, List.mem_cons, List.not_mem_nil, or_false] at hv
  rcases hv with (rfl | rfl | rfl | rfl) | h | rfl
  · rfl
  · rfl
  · rfl
  · rfl
  · exact bv_one _ v h
  · rfl

theorem Tryz.size188 : (Tryz.prog.info? 188).map (·.size) = some 37 := by kernel_rfl
theorem Tryz.size186 : (Tryz.prog.info? 186).map (·.size) = some 33 := by kernel_rfl
theorem Tryz.size188B (x : OpV) : (Tryz.prog.info? 188).map (·.size) = some (opA x).size := by rw [opA_size]; exact Tryz.size188
theorem Tryz.size188L (x : OpV) : (Tryz.prog.info? 188).map (·.size) = some (opL x).length := by rw [opL_len]; exact Tryz.size188
theorem Tryz.size186L (c : List Int) (o : Int) : (Tryz.prog.info? 186).map (·.size) = some (idL c o).length := by rw [idL_len]; exact Tryz.size186
theorem Tryz.new188 (w : World) : (Instr.alloc 188 true (.tuple #[])).run Tryz.prog w = .ok (.pointer (some ⟨w.heap.size, 0, none⟩)) (w.alloc (.cells (opA zeroOp) 188)) := by kernel_rfl
theorem Tryz.built188 : Tryz.prog.built 188 [] = some (opA zeroOp) := by kernel_rfl
theorem Tryz.built186 : Tryz.prog.built 186 [] = some (idA z32 0) := by kernel_rfl
theorem Tryz.built50 : Tryz.prog.built 50 [] = some (bytesA 32 (hof z32)) := by kernel_rfl

def nd (p q : List Int) : Bool := (List.range 32).all fun i => hof p i == hof q i

theorem Tryz.cells5q : Tryz.prog.cellsOf 5 = 1 := by kernel_rfl
theorem Tryz.isAgg5q (w : World) : (isAgg 5).run Tryz.prog w = .ok false w := by kernel_rfl
theorem Tryz.size5q : (Tryz.prog.info? 5).map (·.size) = some 1 := by kernel_rfl
theorem run_part5q (c : Nat → Int) (i : Nat) (hi : i < 32) (w : World) : (part 5 (bytesA 32 c) i).run Tryz.prog w = .ok (.int .u8 (c i)) w := by
  unfold part
  rw [Sem.run_bind, Tryz.isAgg5q]
  simp [Result.andThen, bytesA_get 32 c i hi]
theorem run_items2 (c e : Nat → Int) (d : Nat) (w : World) : ∀ is : List Nat, (∀ i ∈ is, i < 32) → (Op.eqItems (d + 1) 5 1 (bytesA 32 c) (bytesA 32 e) is).run Tryz.prog w = .ok (is.all fun i => c i == e i) w
  | [], _ => by simp [Op.eqItems]
  | i :: is, h => by
    have hi := h i (by simp)
    have ih := run_items2 c e d w is (fun j hj => h j (by simp [hj]))
    simp only [Op.eqItems, Sem.run_bind, Nat.mul_one, run_part5q c i hi, run_part5q e i hi, Result.andThen_ok]
    rw [run_equalIn_int (P := Tryz.prog) (w := w) d 5 .u8 .u8 (c i) (e i) Tryz.underlying5]
    by_cases hh : c i = e i
    · simp [Result.andThen_ok, ih, hh]
    · simp [Result.andThen_ok, hh]
theorem run_equal_arr2 (d : Nat) (c e : List Int) (w : World) : (Op.equalIn (d + 2) 50 (.agg (bytesA 32 (hof c))) (.agg (bytesA 32 (hof e)))).run Tryz.prog w = .ok (nd c e) w := by
  obtain ⟨i, hi, _⟩ := Option.map_eq_some_iff.1 Tryz.size5q
  rw [run_equalIn_array (P := Tryz.prog) w (d + 1) _ _ Tryz.underlying50 hi, Tryz.cells5q]
  exact run_items2 (hof c) (hof e) d w _ (fun j hj => List.mem_range.1 hj)
theorem run_eqlH (c e : List Int) (w : World) : (binOp .eql 50 (.agg (bytesA 32 (hof c))) (.agg (bytesA 32 (hof e)))).run Tryz.prog w = .ok (.bool (nd c e)) w := by
  rw [run_eql_struct, run_equal_arr2 9998]; rfl
theorem run_neqH (c e : List Int) (w : World) : (binOp .neq 50 (.agg (bytesA 32 (hof c))) (.agg (bytesA 32 (hof e)))).run Tryz.prog w = .ok (.bool (!nd c e)) w := by
  rw [run_neq_struct, run_equal_arr2 9998]; rfl
theorem Tryz.isAgg50q (w : World) : (isAgg 50).run Tryz.prog w = .ok true w := by kernel_rfl
theorem Tryz.isAgg3q (w : World) : (isAgg 3).run Tryz.prog w = .ok false w := by kernel_rfl
theorem Tryz.sizeOf50q (w : World) : (sizeOf 50).run Tryz.prog w = .ok 32 w := by kernel_rfl
theorem Tryz.fields186 : (Tryz.prog.fieldsOf 186).toList.map (fun f => (f.name == "_", f.type, f.offset)) = [(false, 50, 0), (false, 3, 32)] := by kernel_rfl
theorem run_part29 (c : List Int) (o : Int) (w : World) : (part 50 (idA c o) 0).run Tryz.prog w = .ok (.agg (bytesA 32 (hof c))) w := by
  unfold part
  simp only [Sem.run_bind, Tryz.isAgg50q, Result.andThen_ok, Tryz.sizeOf50q, if_true]
  rw [bytesA_bv, show (idA c o).extract 0 (0 + 32) = (bv (hl 32 (hof c))).toArray by
    apply Array.ext'
    simp only [idA, Array.toList_extract, List.extract_eq_take_drop, List.drop_zero]
    exact idL_node c o]
  rfl
theorem run_part32 (c : List Int) (o : Int) (w : World) : (part 3 (idA c o) 32).run Tryz.prog w = .ok (.int .i64 o) w := by
  unfold part
  simp only [Sem.run_bind, Tryz.isAgg3q, Result.andThen_ok]
  have : (idA c o)[32]? = some (.int .i64 o) := by simp only [idA, List.getElem?_toArray]; exact idL_op c o
  simp [this]
theorem fields_of {fs : List Field} {l : List (Bool × TypeId × Nat)} (h : fs.map (fun f => (f.name == "_", f.type, f.offset)) = l) (d : Nat) (xs ys : Array Value) (w : World) :
    (Op.eqFields d xs ys fs).run Tryz.prog w = (l.foldr (fun q k => if q.1 = false then do
      let a ← part q.2.1 xs q.2.2
      let b ← part q.2.1 ys q.2.2
      let r ← Op.equalIn d q.2.1 a b
      if (!r) = true then pure false else k
    else k) (pure true : Sem Bool)).run Tryz.prog w := by
  subst h
  congr 1
  induction fs with
  | nil => rfl
  | cons f fs ih =>
    simp only [Op.eqFields, List.map_cons, List.foldr_cons, ih]
    by_cases hf : f.name = "_" <;> simp [hf]
theorem run_equal31 (d : Nat) (c e : List Int) (o p : Int) (w : World) : (Op.equalIn (d + 3) 186 (.agg (idA c o)) (.agg (idA e p))).run Tryz.prog w = .ok (nd c e && o == p) w := by
  rw [run_equalIn_agg (P := Tryz.prog) w (d + 2) 186 _ _ (by kernel_rfl) (by kernel_rfl), fields_of Tryz.fields186]
  simp only [List.foldr_cons, List.foldr_nil, if_true, Sem.run_bind, run_part29, run_part32, Result.andThen_ok, run_equal_arr2 d, Sem.run_ite, run_equalIn_int (P := Tryz.prog) w (d + 1) 3 .i64 .i64 o p Tryz.underlying3, Sem.run_pure]
  cases nd c e <;> cases o == p <;> simp
theorem run_eql31 (c e : List Int) (o p : Int) (w : World) : (binOp .eql 186 (.agg (idA c o)) (.agg (idA e p))).run Tryz.prog w = .ok (.bool (nd c e && o == p)) w := by
  rw [run_eql_struct, run_equal31 9997]; rfl
end Go.Proofs.YtdkhjeofjhcceaaGreatDoor.Nd
