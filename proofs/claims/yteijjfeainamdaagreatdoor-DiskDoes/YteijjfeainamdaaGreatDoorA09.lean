import Derived.Test.YteijjfeainamdaaGreatDoorA06
import Derived.Test.YteijjfeainamdaaGreatDoorA08
import Derived.Deep.RegionHeld3
import Derived.Lib.Small
namespace Go.Proofs.YteijjfeainamdaaGreatDoor
open Go.RowKit
set_option linter.unusedSimpArgs false
set_option linter.unusedVariables false

theorem Tryz.in57 (w : World) (vs : Array Value) : (callFunc 57 vs).run Tryz.prog w = .ok (.enter 57 vs) w := by kernel_rfl
theorem Tryz.in21 (w : World) (vs : Array Value) : (callFunc 21 vs).run Tryz.prog w = .ok (.enter 21 vs) w := by kernel_rfl
theorem wp_appAc {Q : Exit → Act → World → Prop} {o : Oper} {a : Act} {w : World} {K : Act → World → Prop} (s x : Operand)
  (ho : o.op = .call { callee := .builtin .append, args := #[s, x], argTypes := #[60, 60] }) (v : Value) (l : List AC) (g c : Nat) (y : AC)
  (hs : a.eval s = v) (hx : a.eval x = .slice (some ⟨g, 0, none⟩) 1 c) (hown : OwnAc w v l) (hy : SlAc y) (hg : Blk w g 103 (acA y)) (hb : l.length ≤ 100000000000)
  (h : ∀ v' w', OwnAc w' v' (l ++ [y]) → (Grown w w' fun k => v.ownBlock = some k) → Moved w v v' → K (a.put o.dst v') w') : o.wp Tryz.prog a w K Q := by
 obtain ⟨v', w', hr, h1, h2, h3⟩ := run_appAc w o.type v l hown g 0 c [y] (fun z hz => by simp at hz; rw [hz]; exact hy) (fun j u hj => by rw [Nat.zero_add, hg.cell]; simpa [acL] using hj) (by simp; omega)
 unfold Oper.wp execOp
 simp only [ho, resolve, invoke, builtin, Sem.run_bind, Sem.run_pure, Result.andThen_ok, List.map_toArray, List.map_cons, List.map_nil, hs, hx]
 rw [show ([y] : List AC).length = 1 from rfl] at hr
 rw [hr]
 exact h v' w' h1 h2 h3
theorem bsAc (kd : Int) (nm : ByteArray) (n : Int) (a : Option Addr) (m c : Nat) (w : World) : (Instr.buildSlice 60 1 #[(0, .agg (acA ⟨kd, nm, n, .slice a m c⟩))]).run Tryz.prog w = .ok (.slice (some ⟨w.heap.size, 0, none⟩) 1 1) (w.alloc (.cells (acA ⟨kd, nm, n, .slice a m c⟩) 103)) := by kernel_rfl
theorem RDAt.drew {w : World} {x : Nat} {vf va : Value} {cs : List FC} {ms : List AC} {D : DV} (h : RDAt w x vf va cs ms D) : RDAt w.drew x vf va cs ms D := h.grown (Grown.refl w (fun _ => False)).drew fun _ _ h => h
theorem RDAt.acts {w w1 : World} {x : Nat} {vf va v : Value} {cs : List FC} {ms : List AC} {D : DV} {a : AC} (h : RDAt w x vf va cs ms D) (ho : OwnAc w1 v (ms ++ [a])) (hg : Grown w w1 fun k => va.ownBlock = some k) (hsl : SlAc a) : RDAt (w1.setCell ⟨x, 4, none⟩ v) x vf v cs (ms ++ [a]) { D with acts := D.acts + 1 } ∧ Grown w (w1.setCell ⟨x, 4, none⟩ v) fun k => k = x ∨ va.ownBlock = some k := by
 have h1 : Blk w1 x 62 (rdA vf va D) := hg.blk h.blk fun e => h.acs.ne h.blk (by decide) e
 have hs : Grown w1 (w1.setCell ⟨x, 4, none⟩ v) fun k => k = x := Grown.setCell w1 x 4 v fun _ => rfl
 refine ⟨⟨h1.set 4 v, (h.own.grown hg fun k hk e => absurd ((h.own.typ hk).one (h.acs.typ e)) (by decide)).grown hs fun k hk e => h.own.ne h.blk (by decide) (e ▸ hk), (h.rcs.grown hg fun i y k hy hk e => absurd ((h.rcs.typ hy hk).one (h.acs.typ e)) (by decide)).grown hs fun i y k hy hk e => absurd ((h.rcs.typ hy hk).one (e ▸ h.blk.typ)) (by decide), ho.grown hs fun k hk e => ho.ne h1 (by decide) (e ▸ hk), ?_⟩, (hg.mono fun k _ e => .inr e).next hs fun k _ e => .inl e⟩
 refine ⟨by have := h.num.1; simp; omega, fun b hb => ?_⟩
 rcases List.mem_append.1 hb with hb | hb
 ·exact h.num.2 b hb
 ·simp at hb; rw [hb]; exact hsl
set_option maxRecDepth 8000 in
set_option maxHeartbeats 2000000 in
theorem goes_any (x : Nat) (vf va : Value) (cs : List FC) (ms : List AC) (D : DV) (a : AC) (hSl : SlAc a) (w : World) (hD : RDAt w x vf va cs ms D) (hN : ms.length ≤ 100000000000) (hF : -9223372036854775808 < D.fuse ∧ D.fuse ≤ 9223372036854775807) : Calls Tryz.prog 57 #[ptr x, .agg (acA a)] w fun e w' => e = .returned (.bool (decide (D.fuse = 0))) ∧ ∃ va', RDAt w' x vf va' cs (ms ++ [a]) D.act ∧ (Grown w w' fun k => k = x ∨ va.ownBlock = some k) ∧ ∀ k, va'.ownBlock = some k → va.ownBlock = some k ∨ w.heap.size ≤ k := by
 obtain ⟨ba, bn, bc, hb⟩ := hSl
 obtain ⟨kd, nm, m, b⟩ := a
 simp only at hb
 subst hb
 obtain ⟨aa, ac, rfl⟩ := hD.acs.sl
 have HAw : Keep (∀ k, (Value.slice aa ms.length ac).ownBlock = some k → k < w.heap.size) := ⟨fun k hk => (hD.acs.typ hk).lt⟩
 have HXw : Keep (x < w.heap.size) := ⟨hD.blk.lt⟩
 have HD := Keep.mk hD
 have HN := Keep.mk hN
 have HF := Keep.mk hF
 clear hD hN hF
 go_enter Tryz.func57, Tryz.ntmps57
 refine wp_seq_k fun K1 hK1 => rgn ?_
 refine WL.box (by kernel_rfl) 103 (.tmp 1) rfl (acA ⟨kd, nm, m, .slice ba bn bc⟩) rfl ?_
 have HP := Keep.mk (Blk.new w 103 (acA ⟨kd, nm, m, .slice ba bn bc⟩))
 have B1 := Keep.mk (below_new w (.cells (acA ⟨kd, nm, m, .slice ba bn bc⟩) 103))
 change WL _ _ _ _ _ (w.alloc (.cells (acA ⟨kd, nm, m, .slice ba bn bc⟩) 103))
 generalize w.alloc (.cells (acA ⟨kd, nm, m, .slice ba bn bc⟩) 103) = w7 at *
 obtain ⟨q, hq⟩ : ∃ z, Keep (z = w.heap.size) := ⟨_, ⟨rfl⟩⟩
 rw [← hq.out] at HP ⊢
 have HD7 := Keep.mk (HD.out.below B1.out)
 simp only [Act.put, pqA, pqB, pqC]
 refine VbF ?_
 refine WL.nil (hK1 _ _ ?_)
 refine wp_seq_k fun K2 hK2 => ?_
 have HD8 := Keep.mk HD7.out.drew
 have HP8 : Keep (Blk w7.drew q 103 (acA ⟨kd, nm, m, .slice ba bn bc⟩)) := ⟨HP.out.drew⟩
 have GW8 : Keep (Grown w w7.drew fun _ => False) := ⟨(Grown.below B1.out).drew⟩
 clear HD7 HP HD
 refine wp_region_held_drew (S := fun wx => Blk wx q 103 (acA ⟨kd, nm, m, .slice ba bn bc⟩)) (by kernel_rfl) (HP8.out) (fun hHeld => ?_)
 generalize w7.drew = w8 at *
 refine TkG (i := 0) (oi := ⟨some 5, Op.move (Operand.tmp 0), 27, _, _, none⟩) (v := .pointer (some ⟨x, 0, none⟩)) rfl hHeld ?_
 refine TkG (i := 1) (oi := ⟨some 6, Op.move (Operand.tmp 0), 27, _, _, none⟩) (v := .pointer (some ⟨x, 0, none⟩)) rfl hHeld ?_
 refine TkG (i := 2) (oi := ⟨some 7, Op.nilCheck (Operand.tmp 6), 0, _, _, none⟩) (v := .pointer (some ⟨x, 0, none⟩)) rfl hHeld ?_
 refine TkG (i := 3) (oi := ⟨some 8, Op.fieldAddr 62 (Operand.tmp 7) 4, 0, _, _, none⟩) (v := .pointer (some ⟨x, 4, none⟩)) rfl hHeld ?_
 refine tkS (i := 5) (oi := ⟨some 10, Op.load 103 (Operand.tmp 3), 103, _, _, none⟩) (v := .agg (acA ⟨kd, nm, m, .slice ba bn bc⟩)) rfl (yieldsIf_load_mid (by rfl) 103 (.tmp 3) rfl q 0 rfl (acA ⟨kd, nm, m, .slice ba bn bc⟩).toList _ (fun w hS => blk_range hS) Tryz.underlying103 rfl (by kernel_rfl)) hHeld ?_
 refine wpAnyH_ready (rs := [4, 6]) (by kernel_rfl) (by simp) ?_
 refine AllReadyH.cons (o := ⟨some 9, Op.load 60 (Operand.tmp 8), 60, _, _, none⟩) rfl (fun K hK => ?_) (AllReadyH.cons (o := ⟨some 11, Op.buildSlice 60 1 #[(0, Operand.tmp 10)], 60, _, _, none⟩) rfl (fun K hK => ?_) AllReadyH.nil)
 all_goals rw [if_pos (by rfl)]
 ·have cl : w8.cell? ⟨x, 4, none⟩ = some (.slice aa ms.length ac) := HD8.out.blk.c 4 rfl
  refine wp_val (.slice aa ms.length ac) (by go_simp) ?_
  clear cl
  refine hK _ _ (HP8.out) fun hL8 => ?_
  clear hK
  simp only [Act.put, pqA, pqB, pqC]
  refine wpAnyH_ready (rs := [6]) (by kernel_rfl) (by simp) ?_
  refine AllReadyH.cons (o := ⟨some 11, Op.buildSlice 60 1 #[(0, Operand.tmp 10)], 60, _, _, none⟩) rfl (fun K hK => ?_) AllReadyH.nil
  rw [if_pos (by rfl)]
  refine wp_bs 60 1 _ rfl #[(0, .agg (acA ⟨kd, nm, m, .slice ba bn bc⟩))] (by simp [Act.eval]) _ _ (bsAc kd nm m ba bn bc w8) ?_
  have hbx := below_new w8 (.cells (acA ⟨kd, nm, m, .slice ba bn bc⟩) 103)
  have HN9 := Keep.mk (Blk.new w8 103 (acA ⟨kd, nm, m, .slice ba bn bc⟩))
  have HD9 := Keep.mk (HD8.out.below hbx)
  have HP9 := Keep.mk (HP8.out.below hbx HP8.out.lt)
  have GW9 : Keep (Grown w (w8.alloc (.cells (acA ⟨kd, nm, m, .slice ba bn bc⟩) 103)) fun _ => False) := ⟨GW8.out.trans (Grown.below hbx)⟩
  clear hbx
  generalize w8.alloc (.cells (acA ⟨kd, nm, m, .slice ba bn bc⟩) 103) = w9 at *
  obtain ⟨g9, hg9⟩ : ∃ p, Keep (p = w8.heap.size) := ⟨_, ⟨rfl⟩⟩
  rw [← hg9.out] at HN9 ⊢
  refine hK _ _ (HP9.out) fun hB9 => ?_
  clear hK
  simp only [Act.put, pqA, pqB, pqC]
  refine wpAnyH_ready (rs := [7]) (by kernel_rfl) (by simp) ?_
  refine AllReadyH.cons (o := ⟨some 12, Op.call { callee := Callee.builtin Builtin.append, args := #[Operand.tmp 9, Operand.tmp 11], argTypes := #[60, 60] }, 60, _, _, none⟩) rfl (fun K hK => ?_) AllReadyH.nil
  rw [if_pos (by rfl)]
  refine wp_appAc (.tmp 9) (.tmp 11) rfl (.slice aa ms.length ac) ms g9 1 (⟨kd, nm, m, .slice ba bn bc⟩ : AC) rfl rfl HD9.out.acs ⟨ba, bn, bc, rfl⟩ HN9.out HN.out fun v10 w10 h1 h2 h3 => ?_
  have HO10 := Keep.mk h1
  have M10 : Keep (∀ k, v10.ownBlock = some k → (Value.slice aa ms.length ac).ownBlock = some k ∨ w.heap.size ≤ k) := ⟨fun k hk => by rcases h3 with e | ⟨j, e, hj⟩ <;> rw [hk] at e; exact .inl e.symm; right; have := Option.some.inj e; have := GW9.out.size; omega⟩
  have HP10 : Keep (Blk w10 q 103 (acA ⟨kd, nm, m, .slice ba bn bc⟩)) := ⟨h2.blk HP9.out fun e => by have := HAw.out q e; have := hq.out; omega⟩
  have HX10 : Keep (Blk w10 x 62 (rdA vf (.slice aa ms.length ac) D)) := ⟨h2.blk HD9.out.blk fun e => HD9.out.acs.ne HD9.out.blk (by decide) e⟩
  have G10 := Keep.mk h2
  clear h1 h2 h3
  obtain ⟨a10, c10, e10⟩ := HO10.out.sl
  subst e10
  obtain ⟨n10, hn10⟩ : ∃ q, Keep (q = (ms ++ [(⟨kd, nm, m, .slice ba bn bc⟩ : AC)]).length) := ⟨_, ⟨rfl⟩⟩
  rw [← hn10.out] at HO10 M10 ⊢
  refine hK _ _ (HP10.out) fun hA10 => ?_
  clear hK
  simp only [Act.put, pqA, pqB, pqC]
  refine TkG (i := 8) (oi := ⟨some 13, Op.nilCheck (Operand.tmp 5), 0, _, _, none⟩) (v := .pointer (some ⟨x, 0, none⟩)) rfl hA10 ?_
  refine TkG (i := 9) (oi := ⟨some 14, Op.fieldAddr 62 (Operand.tmp 13) 4, 0, _, _, none⟩) (v := .pointer (some ⟨x, 4, none⟩)) rfl hA10 ?_
  refine wpAnyH_ready (rs := [10]) (by kernel_rfl) (by simp) ?_
  refine AllReadyH.cons (o := ⟨none, Op.store 60 (Operand.tmp 14) (Operand.tmp 12), 0, _, _, none⟩) rfl (fun K hK => ?_) AllReadyH.nil
  rw [if_pos (by rfl)]
  have f_o := HX10.out.frozen 4
  have cl : w10.cell? ⟨x, 4, none⟩ = some (.slice aa ms.length ac) := HX10.out.c 4 rfl
  refine wp_cellS (w10.setCell ⟨x, 4, none⟩ (.slice a10 n10 c10)) (by go_simp) ?_
  clear f_o cl
  have hac := HD9.out.acts HO10.out G10.out ⟨ba, bn, bc, rfl⟩
  have H1 := Keep.mk hac.1
  have HP11 : Keep (Blk (w10.setCell ⟨x, 4, none⟩ (.slice a10 n10 c10)) q 103 (acA ⟨kd, nm, m, .slice ba bn bc⟩)) := ⟨HP10.out.set_ne (fun e => by have := hq.out; have := HXw.out; omega) _⟩
  have GW11 : Keep (Grown w (w10.setCell ⟨x, 4, none⟩ (.slice a10 n10 c10)) fun k => k = x ∨ (Value.slice aa ms.length ac).ownBlock = some k) := ⟨(GW9.out.mono fun k _ e => e.elim).next hac.2 fun k _ e => e⟩
  clear hac HX10 HP10 HO10 G10 HD9 GW9
  generalize w10.setCell ⟨x, 4, none⟩ (.slice a10 n10 c10) = w1 at *
  refine hK _ _ (HP11.out) fun hS11 => ?_
  clear hK
  simp only [Act.put, pqA, pqB, pqC]
  refine wpAnyH_done (by kernel_rfl) ?_ _
  refine hK2 _ _ ?_
  refine wp_seq_k fun K3 hK3 => ?_
  refine wp_seq_k fun K4 hK4 => ?_
  obtain ⟨fu, hfu⟩ : ∃ z, Keep (z = D.fuse) := ⟨_, ⟨rfl⟩⟩
  have c3 : w1.cell? ⟨x, 2, none⟩ = some (.int .i64 fu) := by rw [hfu.out]; exact H1.out.blk.c 2 rfl
  have c4 : w1.cell? ⟨x, 3, none⟩ = some (.bool D.out) := H1.out.blk.c 3 rfl
  refine rgn ?_
  refine VlS (.pointer (some ⟨x, 0, none⟩)) ?_
  refine VlS (.pointer (some ⟨x, 0, none⟩)) ?_
  refine VlS (.pointer (some ⟨x, 2, none⟩)) ?_
  refine VlS (.int .i64 fu) ?_
  by_cases h2_4 : fu = 0
  ·skip
   refine VbT ?_
   refine WL.nil (hK4 _ _ ?_)
   refine wp_cond_true rfl ?_
   refine wp_seq_k fun K5 hK5 => rgn ?_
   refine VlS (.pointer (some ⟨x, 0, none⟩)) ?_
   refine VlS (.pointer (some ⟨x, 0, none⟩)) ?_
   refine VlS (.pointer (some ⟨x, 3, none⟩)) ?_
   have f_o := H1.out.blk.frozen 3
   refine WL.cell (by kernel_rfl) (w1.setCell ⟨x, 3, none⟩ (.bool true)) (by go_simp) ?_
   clear f_o
   have H2 : Keep (RDAt (w1.setCell ⟨x, 3, none⟩ (.bool true)) x vf (.slice a10 n10 c10) cs (ms ++ [(⟨kd, nm, m, .slice ba bn bc⟩ : AC)]) ({ D with acts := D.acts + 1, out := true })) := ⟨H1.out.put rfl rfl rfl⟩
   have G_w2 : Keep (Grown w1 (w1.setCell ⟨x, 3, none⟩ (.bool true)) fun k => k = x) := ⟨Grown.setCell w1 x 3 _ fun _ => rfl⟩
   generalize w1.setCell ⟨x, 3, none⟩ (.bool true) = w2 at *
   clear c3 c4 H1
   have c3 : w2.cell? ⟨x, 2, none⟩ = some (.int .i64 fu) := by rw [hfu.out]; exact H2.out.blk.c 2 rfl
   simp only [Act.put]
   refine WL.nil (hK5 _ _ ?_)
   refine wp_seq_k fun K6 hK6 => rgn ?_
   refine VlS (.pointer (some ⟨x, 0, none⟩)) ?_
   refine VlS (.pointer (some ⟨x, 0, none⟩)) ?_
   refine VlS (.pointer (some ⟨x, 2, none⟩)) ?_
   have f_o := H2.out.blk.frozen 2
   refine WL.cell (by kernel_rfl) (w2.setCell ⟨x, 2, none⟩ (.int .i64 (-1))) (by go_simp) ?_
   clear f_o
   have H3 : Keep (RDAt (w2.setCell ⟨x, 2, none⟩ (.int .i64 (-1))) x vf (.slice a10 n10 c10) cs (ms ++ [(⟨kd, nm, m, .slice ba bn bc⟩ : AC)]) ({ D with acts := D.acts + 1, out := true, fuse := -1 })) := ⟨H2.out.put rfl rfl rfl⟩
   have G_w3 : Keep (Grown w2 (w2.setCell ⟨x, 2, none⟩ (.int .i64 (-1))) fun k => k = x) := ⟨Grown.setCell w2 x 2 _ fun _ => rfl⟩
   generalize w2.setCell ⟨x, 2, none⟩ (.int .i64 (-1)) = w3 at *
   simp only [Act.put]
   refine WL.nil (hK6 _ _ ?_)
   refine wp_seq_k fun K7 hK7 => rgn ?_
   refine VbT ?_
   refine WL.nil (hK7 _ _ ?_)
   refine wp_ret ?_
   go_ret
   have h0 : D.fuse = 0 := by rw [← hfu.out]; exact h2_4
   have e : D.act = { D with acts := D.acts + 1, out := true, fuse := -1 } := by unfold DV.act; rw [if_pos h0, if_pos h0]
   rw [e, h0]
   exact ⟨rfl, _, H3.out, (GW11.out.next G_w2.out fun k _ e => .inl e).next G_w3.out fun k _ e => .inl e, M10.out⟩
  ·skip
   refine VbF ?_
   refine WL.nil (hK4 _ _ ?_)
   refine wp_cond_false rfl ?_
   refine wp_skip ?_
   refine hK3 _ _ ?_
   refine wp_seq_k fun K8 hK8 => ?_
   refine wp_seq_k fun K9 hK9 => rgn ?_
   refine VlS (.pointer (some ⟨x, 0, none⟩)) ?_
   refine VlS (.pointer (some ⟨x, 0, none⟩)) ?_
   refine VlS (.pointer (some ⟨x, 2, none⟩)) ?_
   refine VlS (.int .i64 fu) ?_
   by_cases h6_4 : 0 < fu
   ·skip
    refine VbT ?_
    refine WL.nil (hK9 _ _ ?_)
    refine wp_cond_true rfl ?_
    have hwf : IntKind.i64.wrap (fu - 1) = fu - 1 := by rw [IntKind.wrap_i64]; have := HF.out; have := hfu.out; omega
    refine rgn ?_
    refine VlS (.pointer (some ⟨x, 0, none⟩)) ?_
    refine VlS (.pointer (some ⟨x, 0, none⟩)) ?_
    refine VlS (.pointer (some ⟨x, 2, none⟩)) ?_
    refine VlS (.int .i64 fu) ?_
    refine VlS (.int .i64 (fu - 1)) ?_
    refine VlS (.pointer (some ⟨x, 0, none⟩)) ?_
    refine VlS (.pointer (some ⟨x, 2, none⟩)) ?_
    have f_o := H1.out.blk.frozen 2
    refine WL.cell (by kernel_rfl) (w1.setCell ⟨x, 2, none⟩ (.int .i64 (fu - 1))) (by go_simp) ?_
    clear f_o
    have H2 : Keep (RDAt (w1.setCell ⟨x, 2, none⟩ (.int .i64 (fu - 1))) x vf (.slice a10 n10 c10) cs (ms ++ [(⟨kd, nm, m, .slice ba bn bc⟩ : AC)]) ({ D with acts := D.acts + 1, fuse := fu - 1 })) := ⟨H1.out.put rfl rfl rfl⟩
    have G_w2 : Keep (Grown w1 (w1.setCell ⟨x, 2, none⟩ (.int .i64 (fu - 1))) fun k => k = x) := ⟨Grown.setCell w1 x 2 _ fun _ => rfl⟩
    generalize w1.setCell ⟨x, 2, none⟩ (.int .i64 (fu - 1)) = w2 at *
    simp only [Act.put]
    refine WL.nil (hK8 _ _ ?_)
    refine wp_seq_k fun K10 hK10 => rgn ?_
    refine VbF ?_
    refine WL.nil (hK10 _ _ ?_)
    refine wp_ret ?_
    go_ret
    have h0 : ¬ D.fuse = 0 := by rw [← hfu.out]; exact h2_4
    have h1 : 0 < D.fuse := by rw [← hfu.out]; exact h6_4
    have e : D.act = { D with acts := D.acts + 1, fuse := fu - 1 } := by unfold DV.act; rw [if_neg h0, if_neg h0, if_pos h1, hfu.out]
    rw [e]
    exact ⟨by rw [decide_eq_false h0]; rfl, _, H2.out, GW11.out.next G_w2.out fun k _ e => .inl e, M10.out⟩
   ·skip
    refine VbF ?_
    refine WL.nil (hK9 _ _ ?_)
    refine wp_cond_false rfl ?_
    refine wp_skip ?_
    refine hK8 _ _ ?_
    refine wp_seq_k fun K11 hK11 => rgn ?_
    refine VbF ?_
    refine WL.nil (hK11 _ _ ?_)
    refine wp_ret ?_
    go_ret
    have h0 : ¬ D.fuse = 0 := by rw [← hfu.out]; exact h2_4
    have h1 : ¬ 0 < D.fuse := by rw [← hfu.out]; exact h6_4
    have e : D.act = { D with acts := D.acts + 1 } := by unfold DV.act; rw [if_neg h0, if_neg h0, if_neg h1]
    rw [e]
    exact ⟨by rw [decide_eq_false h0]; rfl, _, H1.out, GW11.out, M10.out⟩
 ·refine wp_bs 60 1 _ rfl #[(0, .agg (acA ⟨kd, nm, m, .slice ba bn bc⟩))] (by simp [Act.eval]) _ _ (bsAc kd nm m ba bn bc w8) ?_
  have hbx := below_new w8 (.cells (acA ⟨kd, nm, m, .slice ba bn bc⟩) 103)
  have HN9 := Keep.mk (Blk.new w8 103 (acA ⟨kd, nm, m, .slice ba bn bc⟩))
  have HD9 := Keep.mk (HD8.out.below hbx)
  have HP9 := Keep.mk (HP8.out.below hbx HP8.out.lt)
  have GW9 : Keep (Grown w (w8.alloc (.cells (acA ⟨kd, nm, m, .slice ba bn bc⟩) 103)) fun _ => False) := ⟨GW8.out.trans (Grown.below hbx)⟩
  clear hbx
  generalize w8.alloc (.cells (acA ⟨kd, nm, m, .slice ba bn bc⟩) 103) = w9 at *
  obtain ⟨g9, hg9⟩ : ∃ p, Keep (p = w8.heap.size) := ⟨_, ⟨rfl⟩⟩
  rw [← hg9.out] at HN9 ⊢
  refine hK _ _ (HP9.out) fun hB9 => ?_
  clear hK
  simp only [Act.put, pqA, pqB, pqC]
  refine wpAnyH_ready (rs := [4]) (by kernel_rfl) (by simp) ?_
  refine AllReadyH.cons (o := ⟨some 9, Op.load 60 (Operand.tmp 8), 60, _, _, none⟩) rfl (fun K hK => ?_) AllReadyH.nil
  rw [if_pos (by rfl)]
  have cl : w9.cell? ⟨x, 4, none⟩ = some (.slice aa ms.length ac) := HD9.out.blk.c 4 rfl
  refine wp_val (.slice aa ms.length ac) (by go_simp) ?_
  clear cl
  refine hK _ _ (HP9.out) fun hL9 => ?_
  clear hK
  simp only [Act.put, pqA, pqB, pqC]
  refine wpAnyH_ready (rs := [7]) (by kernel_rfl) (by simp) ?_
  refine AllReadyH.cons (o := ⟨some 12, Op.call { callee := Callee.builtin Builtin.append, args := #[Operand.tmp 9, Operand.tmp 11], argTypes := #[60, 60] }, 60, _, _, none⟩) rfl (fun K hK => ?_) AllReadyH.nil
  rw [if_pos (by rfl)]
  refine wp_appAc (.tmp 9) (.tmp 11) rfl (.slice aa ms.length ac) ms g9 1 (⟨kd, nm, m, .slice ba bn bc⟩ : AC) rfl rfl HD9.out.acs ⟨ba, bn, bc, rfl⟩ HN9.out HN.out fun v10 w10 h1 h2 h3 => ?_
  have HO10 := Keep.mk h1
  have M10 : Keep (∀ k, v10.ownBlock = some k → (Value.slice aa ms.length ac).ownBlock = some k ∨ w.heap.size ≤ k) := ⟨fun k hk => by rcases h3 with e | ⟨j, e, hj⟩ <;> rw [hk] at e; exact .inl e.symm; right; have := Option.some.inj e; have := GW9.out.size; omega⟩
  have HP10 : Keep (Blk w10 q 103 (acA ⟨kd, nm, m, .slice ba bn bc⟩)) := ⟨h2.blk HP9.out fun e => by have := HAw.out q e; have := hq.out; omega⟩
  have HX10 : Keep (Blk w10 x 62 (rdA vf (.slice aa ms.length ac) D)) := ⟨h2.blk HD9.out.blk fun e => HD9.out.acs.ne HD9.out.blk (by decide) e⟩
  have G10 := Keep.mk h2
  clear h1 h2 h3
  obtain ⟨a10, c10, e10⟩ := HO10.out.sl
  subst e10
  obtain ⟨n10, hn10⟩ : ∃ q, Keep (q = (ms ++ [(⟨kd, nm, m, .slice ba bn bc⟩ : AC)]).length) := ⟨_, ⟨rfl⟩⟩
  rw [← hn10.out] at HO10 M10 ⊢
  refine hK _ _ (HP10.out) fun hA10 => ?_
  clear hK
  simp only [Act.put, pqA, pqB, pqC]
  refine TkG (i := 8) (oi := ⟨some 13, Op.nilCheck (Operand.tmp 5), 0, _, _, none⟩) (v := .pointer (some ⟨x, 0, none⟩)) rfl hA10 ?_
  refine TkG (i := 9) (oi := ⟨some 14, Op.fieldAddr 62 (Operand.tmp 13) 4, 0, _, _, none⟩) (v := .pointer (some ⟨x, 4, none⟩)) rfl hA10 ?_
  refine wpAnyH_ready (rs := [10]) (by kernel_rfl) (by simp) ?_
  refine AllReadyH.cons (o := ⟨none, Op.store 60 (Operand.tmp 14) (Operand.tmp 12), 0, _, _, none⟩) rfl (fun K hK => ?_) AllReadyH.nil
  rw [if_pos (by rfl)]
  have f_o := HX10.out.frozen 4
  have cl : w10.cell? ⟨x, 4, none⟩ = some (.slice aa ms.length ac) := HX10.out.c 4 rfl
  refine wp_cellS (w10.setCell ⟨x, 4, none⟩ (.slice a10 n10 c10)) (by go_simp) ?_
  clear f_o cl
  have hac := HD9.out.acts HO10.out G10.out ⟨ba, bn, bc, rfl⟩
  have H1 := Keep.mk hac.1
  have HP11 : Keep (Blk (w10.setCell ⟨x, 4, none⟩ (.slice a10 n10 c10)) q 103 (acA ⟨kd, nm, m, .slice ba bn bc⟩)) := ⟨HP10.out.set_ne (fun e => by have := hq.out; have := HXw.out; omega) _⟩
  have GW11 : Keep (Grown w (w10.setCell ⟨x, 4, none⟩ (.slice a10 n10 c10)) fun k => k = x ∨ (Value.slice aa ms.length ac).ownBlock = some k) := ⟨(GW9.out.mono fun k _ e => e.elim).next hac.2 fun k _ e => e⟩
  clear hac HX10 HP10 HO10 G10 HD9 GW9
  generalize w10.setCell ⟨x, 4, none⟩ (.slice a10 n10 c10) = w1 at *
  refine hK _ _ (HP11.out) fun hS11 => ?_
  clear hK
  simp only [Act.put, pqA, pqB, pqC]
  refine wpAnyH_done (by kernel_rfl) ?_ _
  refine hK2 _ _ ?_
  refine wp_seq_k fun K12 hK12 => ?_
  refine wp_seq_k fun K13 hK13 => ?_
  obtain ⟨fu, hfu⟩ : ∃ z, Keep (z = D.fuse) := ⟨_, ⟨rfl⟩⟩
  have c3 : w1.cell? ⟨x, 2, none⟩ = some (.int .i64 fu) := by rw [hfu.out]; exact H1.out.blk.c 2 rfl
  have c4 : w1.cell? ⟨x, 3, none⟩ = some (.bool D.out) := H1.out.blk.c 3 rfl
  refine rgn ?_
  refine VlS (.pointer (some ⟨x, 0, none⟩)) ?_
  refine VlS (.pointer (some ⟨x, 0, none⟩)) ?_
  refine VlS (.pointer (some ⟨x, 2, none⟩)) ?_
  refine VlS (.int .i64 fu) ?_
  by_cases h2_4 : fu = 0
  ·skip
   refine VbT ?_
   refine WL.nil (hK13 _ _ ?_)
   refine wp_cond_true rfl ?_
   refine wp_seq_k fun K14 hK14 => rgn ?_
   refine VlS (.pointer (some ⟨x, 0, none⟩)) ?_
   refine VlS (.pointer (some ⟨x, 0, none⟩)) ?_
   refine VlS (.pointer (some ⟨x, 3, none⟩)) ?_
   have f_o := H1.out.blk.frozen 3
   refine WL.cell (by kernel_rfl) (w1.setCell ⟨x, 3, none⟩ (.bool true)) (by go_simp) ?_
   clear f_o
   have H2 : Keep (RDAt (w1.setCell ⟨x, 3, none⟩ (.bool true)) x vf (.slice a10 n10 c10) cs (ms ++ [(⟨kd, nm, m, .slice ba bn bc⟩ : AC)]) ({ D with acts := D.acts + 1, out := true })) := ⟨H1.out.put rfl rfl rfl⟩
   have G_w2 : Keep (Grown w1 (w1.setCell ⟨x, 3, none⟩ (.bool true)) fun k => k = x) := ⟨Grown.setCell w1 x 3 _ fun _ => rfl⟩
   generalize w1.setCell ⟨x, 3, none⟩ (.bool true) = w2 at *
   clear c3 c4 H1
   have c3 : w2.cell? ⟨x, 2, none⟩ = some (.int .i64 fu) := by rw [hfu.out]; exact H2.out.blk.c 2 rfl
   simp only [Act.put]
   refine WL.nil (hK14 _ _ ?_)
   refine wp_seq_k fun K15 hK15 => rgn ?_
   refine VlS (.pointer (some ⟨x, 0, none⟩)) ?_
   refine VlS (.pointer (some ⟨x, 0, none⟩)) ?_
   refine VlS (.pointer (some ⟨x, 2, none⟩)) ?_
   have f_o := H2.out.blk.frozen 2
   refine WL.cell (by kernel_rfl) (w2.setCell ⟨x, 2, none⟩ (.int .i64 (-1))) (by go_simp) ?_
   clear f_o
   have H3 : Keep (RDAt (w2.setCell ⟨x, 2, none⟩ (.int .i64 (-1))) x vf (.slice a10 n10 c10) cs (ms ++ [(⟨kd, nm, m, .slice ba bn bc⟩ : AC)]) ({ D with acts := D.acts + 1, out := true, fuse := -1 })) := ⟨H2.out.put rfl rfl rfl⟩
   have G_w3 : Keep (Grown w2 (w2.setCell ⟨x, 2, none⟩ (.int .i64 (-1))) fun k => k = x) := ⟨Grown.setCell w2 x 2 _ fun _ => rfl⟩
   generalize w2.setCell ⟨x, 2, none⟩ (.int .i64 (-1)) = w3 at *
   simp only [Act.put]
   refine WL.nil (hK15 _ _ ?_)
   refine wp_seq_k fun K16 hK16 => rgn ?_
   refine VbT ?_
   refine WL.nil (hK16 _ _ ?_)
   refine wp_ret ?_
   go_ret
   have h0 : D.fuse = 0 := by rw [← hfu.out]; exact h2_4
   have e : D.act = { D with acts := D.acts + 1, out := true, fuse := -1 } := by unfold DV.act; rw [if_pos h0, if_pos h0]
   rw [e, h0]
   exact ⟨rfl, _, H3.out, (GW11.out.next G_w2.out fun k _ e => .inl e).next G_w3.out fun k _ e => .inl e, M10.out⟩
  ·skip
   refine VbF ?_
   refine WL.nil (hK13 _ _ ?_)
   refine wp_cond_false rfl ?_
   refine wp_skip ?_
   refine hK12 _ _ ?_
   refine wp_seq_k fun K17 hK17 => ?_
   refine wp_seq_k fun K18 hK18 => rgn ?_
   refine VlS (.pointer (some ⟨x, 0, none⟩)) ?_
   refine VlS (.pointer (some ⟨x, 0, none⟩)) ?_
   refine VlS (.pointer (some ⟨x, 2, none⟩)) ?_
   refine VlS (.int .i64 fu) ?_
   by_cases h6_4 : 0 < fu
   ·skip
    refine VbT ?_
    refine WL.nil (hK18 _ _ ?_)
    refine wp_cond_true rfl ?_
    have hwf : IntKind.i64.wrap (fu - 1) = fu - 1 := by rw [IntKind.wrap_i64]; have := HF.out; have := hfu.out; omega
    refine rgn ?_
    refine VlS (.pointer (some ⟨x, 0, none⟩)) ?_
    refine VlS (.pointer (some ⟨x, 0, none⟩)) ?_
    refine VlS (.pointer (some ⟨x, 2, none⟩)) ?_
    refine VlS (.int .i64 fu) ?_
    refine VlS (.int .i64 (fu - 1)) ?_
    refine VlS (.pointer (some ⟨x, 0, none⟩)) ?_
    refine VlS (.pointer (some ⟨x, 2, none⟩)) ?_
    have f_o := H1.out.blk.frozen 2
    refine WL.cell (by kernel_rfl) (w1.setCell ⟨x, 2, none⟩ (.int .i64 (fu - 1))) (by go_simp) ?_
    clear f_o
    have H2 : Keep (RDAt (w1.setCell ⟨x, 2, none⟩ (.int .i64 (fu - 1))) x vf (.slice a10 n10 c10) cs (ms ++ [(⟨kd, nm, m, .slice ba bn bc⟩ : AC)]) ({ D with acts := D.acts + 1, fuse := fu - 1 })) := ⟨H1.out.put rfl rfl rfl⟩
    have G_w2 : Keep (Grown w1 (w1.setCell ⟨x, 2, none⟩ (.int .i64 (fu - 1))) fun k => k = x) := ⟨Grown.setCell w1 x 2 _ fun _ => rfl⟩
    generalize w1.setCell ⟨x, 2, none⟩ (.int .i64 (fu - 1)) = w2 at *
    simp only [Act.put]
    refine WL.nil (hK17 _ _ ?_)
    refine wp_seq_k fun K19 hK19 => rgn ?_
    refine VbF ?_
    refine WL.nil (hK19 _ _ ?_)
    refine wp_ret ?_
    go_ret
    have h0 : ¬ D.fuse = 0 := by rw [← hfu.out]; exact h2_4
    have h1 : 0 < D.fuse := by rw [← hfu.out]; exact h6_4
    have e : D.act = { D with acts := D.acts + 1, fuse := fu - 1 } := by unfold DV.act; rw [if_neg h0, if_neg h0, if_pos h1, hfu.out]
    rw [e]
    exact ⟨by rw [decide_eq_false h0]; rfl, _, H2.out, GW11.out.next G_w2.out fun k _ e => .inl e, M10.out⟩
   ·skip
    refine VbF ?_
    refine WL.nil (hK18 _ _ ?_)
    refine wp_cond_false rfl ?_
    refine wp_skip ?_
    refine hK17 _ _ ?_
    refine wp_seq_k fun K20 hK20 => rgn ?_
    refine VbF ?_
    refine WL.nil (hK20 _ _ ?_)
    refine wp_ret ?_
    go_ret
    have h0 : ¬ D.fuse = 0 := by rw [← hfu.out]; exact h2_4
    have h1 : ¬ 0 < D.fuse := by rw [← hfu.out]; exact h6_4
    have e : D.act = { D with acts := D.acts + 1 } := by unfold DV.act; rw [if_neg h0, if_neg h0, if_neg h1]
    rw [e]
    exact ⟨by rw [decide_eq_false h0]; rfl, _, H1.out, GW11.out, M10.out⟩
set_option maxRecDepth 8000 in
set_option maxHeartbeats 2000000 in
theorem named_any (n : ByteArray) (w : World) (hL : n.size ≤ 1000000000000000) : Calls Tryz.prog 21 #[.string n] w fun e w' => e = .returned (.bool (rgt n)) ∧ w' = w := by
 have HL := Keep.mk hL
 clear hL
 go_enter Tryz.func21, Tryz.ntmps21
 refine wp_seq_k fun K1 hK1 => rgn ?_
 refine VbF ?_
 refine WL.nil (hK1 _ _ ?_)
 refine wp_seq_k fun K2 hK2 => ?_
 refine wp_seq_k fun K3 hK3 => rgn ?_
 refine VlS (.int .i64 0) ?_
 refine WL.nil (hK3 _ _ ?_)
 refine wp_block ?_
 refine wp_loop (fun ac wr => ∃ (t : Nat), ac = apF (fun f => { tmps := #[.string n, undef, f 2, .int .i64 (t : Int), f 4, f 5, f 6, f 7, f 8, f 9, f 10, f 11, f 12, f 13, f 14, f 15, f 16, f 17, f 18, f 19, f 20, f 21, f 22, f 23, f 24, f 25, f 26, f 27, f 28, f 29, f 30, f 31, f 32, f 33, undef, undef, undef, undef, undef, undef, undef, undef], defers := [] }) ac ∧ t ≤ n.size ∧ wr = w ∧ (lst n).all okC = ((lst n).drop t).all okC) (fun a _ => n.size - (intOf (a.tmps.getD 3 undef)).toNat) ⟨0, rfl, by omega, rfl, rfl⟩ ?_
 rintro ac wr ⟨t, hac, ht, rfl, hA⟩
 obtain ⟨f, rfl⟩ := unF hac
 have JA := Keep.mk hA
 clear hA
 by_cases hlt : t < n.size
 ·have hlt' : (t : Int) < (n.size : Int) := by omega
  have hwt : IntKind.i64.wrap ((t : Int) + 1) = (t : Int) + 1 := by rw [IntKind.wrap_i64]; have := HL.out; omega
  obtain ⟨c, hc⟩ : ∃ c, Keep (c = (lst n).getD t 0) := ⟨_, ⟨rfl⟩⟩
  have hcv : ((n[t]'hlt).toNat : Int) = c := by rw [hc.out]; exact lst_at n t hlt
  have hnx : Keep (((lst n).drop t).all okC = (okC c && ((lst n).drop (t + 1)).all okC)) := ⟨by rw [List.drop_eq_getElem_cons (by rw [lst_len]; exact hlt), List.all_cons, hc.out, List.getD_eq_getElem?_getD, List.getElem?_eq_getElem (by rw [lst_len]; exact hlt)]; rfl⟩
  refine wp_seq_k fun K4 hK4 => ?_
  refine wp_seq_k fun K5 hK5 => rgn ?_
  refine VlS (.int .i64 (t : Int)) ?_
  refine VlS (.string n) ?_
  refine VlS (.int .i64 (n.size : Int)) ?_
  refine VbT ?_
  refine WL.nil (hK5 _ _ ?_)
  refine wp_cond_true rfl ?_
  refine wp_skip ?_
  refine hK4 _ _ ?_
  refine wp_seq_k fun K6 hK6 => ?_
  refine wp_block ?_
  refine wp_seq_k fun K7 hK7 => rgn ?_
  refine VlS (.string n) ?_
  refine VlS (.int .i64 (t : Int)) ?_
  refine VlS (.int .u8 c) ?_
  refine VlS (.int .u8 c) ?_
  refine WL.nil (hK7 _ _ ?_)
  refine wp_seq_k fun K8 hK8 => rgn ?_
  refine VlS (.int .u8 c) ?_
  by_cases h5_1 : 97 ≤ c
  ·skip
   refine VbT ?_
   refine VbT ?_
   refine VlS (.int .u8 c) ?_
   by_cases h5_4 : c ≤ 122
   ·skip
    refine VbT ?_
    refine VbT ?_
    refine VbF ?_
    refine VbF ?_
    refine SkS ?_
    refine SkS ?_
    refine SkS ?_
    refine SkS ?_
    refine SkS ?_
    refine SkS ?_
    refine SkS ?_
    refine VbF ?_
    refine VbF ?_
    refine SkS ?_
    refine SkS ?_
    refine VbF ?_
    refine WL.nil (hK8 _ _ ?_)
    refine wp_cond_false rfl ?_
    refine wp_skip ?_
    refine hK6 _ _ ?_
    refine rgn ?_
    refine VlS (.int .i64 (t : Int)) ?_
    refine VlS (.int .i64 ((t : Int) + 1)) ?_
    refine VlS (.int .i64 ((t : Int) + 1)) ?_
    refine WL.nil ?_
    have hk : okC c = true := by unfold okC; simp; omega
    have h := JA.out
    rw [hnx.out, hk, Bool.true_and] at h
    refine ⟨⟨t + 1, rfl, by omega, rfl, h⟩, ?_⟩
    simp only [intOf]; show n.size - ((t : Int) + 1).toNat < n.size - ((t : Int)).toNat; omega
   ·skip
    refine VbF ?_
    refine VbF ?_
    refine VbT ?_
    refine VbT ?_
    refine VlS (.int .u8 c) ?_
    by_cases h5_9 : 48 ≤ c
    ·skip
     refine VbT ?_
     refine VbT ?_
     refine VlS (.int .u8 c) ?_
     by_cases h5_12 : c ≤ 57
     ·skip
      refine VbT ?_
      refine VbT ?_
      refine VbF ?_
      refine VbF ?_
      refine VbF ?_
      refine SkS ?_
      refine SkS ?_
      refine VbF ?_
      refine WL.nil (hK8 _ _ ?_)
      refine wp_cond_false rfl ?_
      refine wp_skip ?_
      refine hK6 _ _ ?_
      refine rgn ?_
      refine VlS (.int .i64 (t : Int)) ?_
      refine VlS (.int .i64 ((t : Int) + 1)) ?_
      refine VlS (.int .i64 ((t : Int) + 1)) ?_
      refine WL.nil ?_
      have hk : okC c = true := by unfold okC; simp; omega
      have h := JA.out
      rw [hnx.out, hk, Bool.true_and] at h
      refine ⟨⟨t + 1, rfl, by omega, rfl, h⟩, ?_⟩
      simp only [intOf]; show n.size - ((t : Int) + 1).toNat < n.size - ((t : Int)).toNat; omega
     ·skip
      refine VbF ?_
      refine VbF ?_
      refine VbT ?_
      refine VbT ?_
      refine VbT ?_
      refine VlS (.int .u8 c) ?_
      by_cases h5_18 : c = 46
      ·skip
       refine VbF ?_
       refine VbF ?_
       refine WL.nil (hK8 _ _ ?_)
       refine wp_cond_false rfl ?_
       refine wp_skip ?_
       refine hK6 _ _ ?_
       refine rgn ?_
       refine VlS (.int .i64 (t : Int)) ?_
       refine VlS (.int .i64 ((t : Int) + 1)) ?_
       refine VlS (.int .i64 ((t : Int) + 1)) ?_
       refine WL.nil ?_
       have hk : okC c = true := by unfold okC; simp; omega
       have h := JA.out
       rw [hnx.out, hk, Bool.true_and] at h
       refine ⟨⟨t + 1, rfl, by omega, rfl, h⟩, ?_⟩
       simp only [intOf]; show n.size - ((t : Int) + 1).toNat < n.size - ((t : Int)).toNat; omega
      ·skip
       refine VbT ?_
       refine VbT ?_
       refine WL.nil (hK8 _ _ ?_)
       refine wp_cond_true rfl ?_
       refine wp_seq_k fun K9 hK9 => rgn ?_
       refine VbF ?_
       refine WL.nil (hK9 _ _ ?_)
       refine wp_ret ?_
       go_ret
       have hk : okC c = false := by unfold okC; simp; omega
       have h := JA.out
       rw [hnx.out, hk, Bool.false_and] at h
       unfold rgt
       rw [h, Bool.and_false]
       exact ⟨rfl, rfl⟩
    ·skip
     refine VbF ?_
     refine VbF ?_
     refine SkS ?_
     refine SkS ?_
     refine VbF ?_
     refine VbT ?_
     refine VbT ?_
     refine VbT ?_
     refine VlS (.int .u8 c) ?_
     by_cases h5_18 : c = 46
     ·skip
      refine VbF ?_
      refine VbF ?_
      refine WL.nil (hK8 _ _ ?_)
      refine wp_cond_false rfl ?_
      refine wp_skip ?_
      refine hK6 _ _ ?_
      refine rgn ?_
      refine VlS (.int .i64 (t : Int)) ?_
      refine VlS (.int .i64 ((t : Int) + 1)) ?_
      refine VlS (.int .i64 ((t : Int) + 1)) ?_
      refine WL.nil ?_
      have hk : okC c = true := by unfold okC; simp; omega
      have h := JA.out
      rw [hnx.out, hk, Bool.true_and] at h
      refine ⟨⟨t + 1, rfl, by omega, rfl, h⟩, ?_⟩
      simp only [intOf]; show n.size - ((t : Int) + 1).toNat < n.size - ((t : Int)).toNat; omega
     ·skip
      refine VbT ?_
      refine VbT ?_
      refine WL.nil (hK8 _ _ ?_)
      refine wp_cond_true rfl ?_
      refine wp_seq_k fun K10 hK10 => rgn ?_
      refine VbF ?_
      refine WL.nil (hK10 _ _ ?_)
      refine wp_ret ?_
      go_ret
      have hk : okC c = false := by unfold okC; simp; omega
      have h := JA.out
      rw [hnx.out, hk, Bool.false_and] at h
      unfold rgt
      rw [h, Bool.and_false]
      exact ⟨rfl, rfl⟩
  ·skip
   refine VbF ?_
   refine VbF ?_
   refine SkS ?_
   refine SkS ?_
   refine VbF ?_
   refine VbT ?_
   refine VbT ?_
   refine VlS (.int .u8 c) ?_
   by_cases h5_9 : 48 ≤ c
   ·skip
    refine VbT ?_
    refine VbT ?_
    refine VlS (.int .u8 c) ?_
    by_cases h5_12 : c ≤ 57
    ·skip
     refine VbT ?_
     refine VbT ?_
     refine VbF ?_
     refine VbF ?_
     refine VbF ?_
     refine SkS ?_
     refine SkS ?_
     refine VbF ?_
     refine WL.nil (hK8 _ _ ?_)
     refine wp_cond_false rfl ?_
     refine wp_skip ?_
     refine hK6 _ _ ?_
     refine rgn ?_
     refine VlS (.int .i64 (t : Int)) ?_
     refine VlS (.int .i64 ((t : Int) + 1)) ?_
     refine VlS (.int .i64 ((t : Int) + 1)) ?_
     refine WL.nil ?_
     have hk : okC c = true := by unfold okC; simp; omega
     have h := JA.out
     rw [hnx.out, hk, Bool.true_and] at h
     refine ⟨⟨t + 1, rfl, by omega, rfl, h⟩, ?_⟩
     simp only [intOf]; show n.size - ((t : Int) + 1).toNat < n.size - ((t : Int)).toNat; omega
    ·skip
     refine VbF ?_
     refine VbF ?_
     refine VbT ?_
     refine VbT ?_
     refine VbT ?_
     refine VlS (.int .u8 c) ?_
     by_cases h5_18 : c = 46
     ·skip
      refine VbF ?_
      refine VbF ?_
      refine WL.nil (hK8 _ _ ?_)
      refine wp_cond_false rfl ?_
      refine wp_skip ?_
      refine hK6 _ _ ?_
      refine rgn ?_
      refine VlS (.int .i64 (t : Int)) ?_
      refine VlS (.int .i64 ((t : Int) + 1)) ?_
      refine VlS (.int .i64 ((t : Int) + 1)) ?_
      refine WL.nil ?_
      have hk : okC c = true := by unfold okC; simp; omega
      have h := JA.out
      rw [hnx.out, hk, Bool.true_and] at h
      refine ⟨⟨t + 1, rfl, by omega, rfl, h⟩, ?_⟩
      simp only [intOf]; show n.size - ((t : Int) + 1).toNat < n.size - ((t : Int)).toNat; omega
     ·skip
      refine VbT ?_
      refine VbT ?_
      refine WL.nil (hK8 _ _ ?_)
      refine wp_cond_true rfl ?_
      refine wp_seq_k fun K11 hK11 => rgn ?_
      refine VbF ?_
      refine WL.nil (hK11 _ _ ?_)
      refine wp_ret ?_
      go_ret
      have hk : okC c = false := by unfold okC; simp; omega
      have h := JA.out
      rw [hnx.out, hk, Bool.false_and] at h
      unfold rgt
      rw [h, Bool.and_false]
      exact ⟨rfl, rfl⟩
   ·skip
    refine VbF ?_
    refine VbF ?_
    refine SkS ?_
    refine SkS ?_
    refine VbF ?_
    refine VbT ?_
    refine VbT ?_
    refine VbT ?_
    refine VlS (.int .u8 c) ?_
    by_cases h5_18 : c = 46
    ·skip
     refine VbF ?_
     refine VbF ?_
     refine WL.nil (hK8 _ _ ?_)
     refine wp_cond_false rfl ?_
     refine wp_skip ?_
     refine hK6 _ _ ?_
     refine rgn ?_
     refine VlS (.int .i64 (t : Int)) ?_
     refine VlS (.int .i64 ((t : Int) + 1)) ?_
     refine VlS (.int .i64 ((t : Int) + 1)) ?_
     refine WL.nil ?_
     have hk : okC c = true := by unfold okC; simp; omega
     have h := JA.out
     rw [hnx.out, hk, Bool.true_and] at h
     refine ⟨⟨t + 1, rfl, by omega, rfl, h⟩, ?_⟩
     simp only [intOf]; show n.size - ((t : Int) + 1).toNat < n.size - ((t : Int)).toNat; omega
    ·skip
     refine VbT ?_
     refine VbT ?_
     refine WL.nil (hK8 _ _ ?_)
     refine wp_cond_true rfl ?_
     refine wp_seq_k fun K12 hK12 => rgn ?_
     refine VbF ?_
     refine WL.nil (hK12 _ _ ?_)
     refine wp_ret ?_
     go_ret
     have hk : okC c = false := by unfold okC; simp; omega
     have h := JA.out
     rw [hnx.out, hk, Bool.false_and] at h
     unfold rgt
     rw [h, Bool.and_false]
     exact ⟨rfl, rfl⟩
 ·have hlt' : ¬ (t : Int) < (n.size : Int) := by omega
  refine wp_seq_k fun K13 hK13 => ?_
  refine wp_seq_k fun K14 hK14 => rgn ?_
  refine VlS (.int .i64 (t : Int)) ?_
  refine VlS (.string n) ?_
  refine VlS (.int .i64 (n.size : Int)) ?_
  refine VbF ?_
  refine WL.nil (hK14 _ _ ?_)
  refine wp_cond_false rfl ?_
  refine wp_exit ?_
  refine hK2 _ _ ?_
  refine wp_seq_k fun K15 hK15 => rgn ?_
  refine VlS (.string n) ?_
  refine VlS (.int .i64 (n.size : Int)) ?_
  by_cases h7_2 : (1 : Int) ≤ (n.size : Int)
  ·skip
   refine VbT ?_
   refine VbT ?_
   refine VlS (.string n) ?_
   refine VlS (.int .i64 (n.size : Int)) ?_
   by_cases h7_6 : (n.size : Int) ≤ 32
   ·skip
    refine VbT ?_
    refine VbT ?_
    refine VbT ?_
    refine WL.nil (hK15 _ _ ?_)
    refine wp_ret ?_
    go_ret
    have h := JA.out
    rw [List.drop_eq_nil_of_le (by rw [lst_len]; omega)] at h
    unfold rgt
    rw [h]
    first | (rw [decide_eq_true (by omega : 1 ≤ n.size), decide_eq_true (by omega : n.size ≤ 32)]; exact ⟨rfl, rfl⟩) | (rw [decide_eq_false (by omega : ¬ 1 ≤ n.size)]; exact ⟨rfl, rfl⟩) | (rw [decide_eq_false (by omega : ¬ n.size ≤ 32), Bool.and_false]; exact ⟨rfl, rfl⟩)
   ·skip
    refine VbF ?_
    refine VbF ?_
    refine VbF ?_
    refine WL.nil (hK15 _ _ ?_)
    refine wp_ret ?_
    go_ret
    have h := JA.out
    rw [List.drop_eq_nil_of_le (by rw [lst_len]; omega)] at h
    unfold rgt
    rw [h]
    first | (rw [decide_eq_true (by omega : 1 ≤ n.size), decide_eq_true (by omega : n.size ≤ 32)]; exact ⟨rfl, rfl⟩) | (rw [decide_eq_false (by omega : ¬ 1 ≤ n.size)]; exact ⟨rfl, rfl⟩) | (rw [decide_eq_false (by omega : ¬ n.size ≤ 32), Bool.and_false]; exact ⟨rfl, rfl⟩)
  ·skip
   refine VbF ?_
   refine VbF ?_
   refine SkS ?_
   refine SkS ?_
   refine SkS ?_
   refine VbF ?_
   refine VbF ?_
   refine WL.nil (hK15 _ _ ?_)
   refine wp_ret ?_
   go_ret
   have h := JA.out
   rw [List.drop_eq_nil_of_le (by rw [lst_len]; omega)] at h
   unfold rgt
   rw [h]
   first | (rw [decide_eq_true (by omega : 1 ≤ n.size), decide_eq_true (by omega : n.size ≤ 32)]; exact ⟨rfl, rfl⟩) | (rw [decide_eq_false (by omega : ¬ 1 ≤ n.size)]; exact ⟨rfl, rfl⟩) | (rw [decide_eq_false (by omega : ¬ n.size ≤ 32), Bool.and_false]; exact ⟨rfl, rfl⟩)
theorem Tryz.in23 (w : World) (vs : Array Value) : (callFunc 23 vs).run Tryz.prog w = .ok (.enter 23 vs) w := by kernel_rfl
theorem RcsAt.ins {w : World} {cs : List FC} {fs : List PF} {y : FC} {f : PF} (h : RcsAt w cs fs) (i : Nat) (hi : i ≤ cs.length) (hy : RcAt w y f) : RcsAt w (cs.take i ++ [y] ++ cs.drop i) (fs.take i ++ [f] ++ fs.drop i) := by
 have hf : i ≤ fs.length := by rw [← h.len]; exact hi
 refine ⟨by simp; have := h.len; omega, fun j z g hz hg => ?_⟩
 rw [ins_get _ _ _ _ hi] at hz
 rw [ins_get _ _ _ _ hf] at hg
 by_cases h1 : j < i
 ·rw [if_pos h1] at hz hg
  exact h.each j z g hz hg
 ·rw [if_neg h1] at hz hg
  by_cases h2 : j = i
  ·rw [if_pos h2] at hz hg
   injection hz with hz
   injection hg with hg
   subst hz hg
   exact hy
  ·rw [if_neg h2] at hz hg
   exact h.each _ z g hz hg
theorem RDAt.list {w : World} {x : Nat} {vf va v : Value} {cs cs' : List FC} {ms : List AC} {D : DV} {fs : List PF} (h : RDAt w x vf va cs ms D) (ho : OwnF w v cs') (hc : RcsAt w cs' fs) : RDAt (w.setCell ⟨x, 0, none⟩ v) x v va cs' ms { D with fs := fs } := by
 have hs : Grown w (w.setCell ⟨x, 0, none⟩ v) fun k => k = x := Grown.setCell w x 0 v fun _ => rfl
 exact ⟨h.blk.set 0 v, ho.grown hs fun k hk e => ho.ne h.blk (by decide) (e ▸ hk), hc.grown hs fun i y k hy hk e => absurd ((hc.typ hy hk).one (e ▸ h.blk.typ)) (by decide), h.acs.grown hs fun k hk e => h.acs.ne h.blk (by decide) (e ▸ hk), h.num⟩
set_option maxRecDepth 8000 in
set_option maxHeartbeats 2000000 in
theorem make_any (x i : Nat) (n : ByteArray) (vf va : Value) (cs : List FC) (ms : List AC) (D : DV) (w : World) (hD : RDAt w x vf va cs ms D) (hSr : Srt D.fs) (hFn : fnd n D.fs 0 = (i, false)) (hL : cs.length ≤ 1000000) : Calls Tryz.prog 23 #[ptr x, .string n] w fun e w' => e = .returned (.int .i64 (i : Int)) ∧ ∃ vf', RDAt w' x vf' va (cs.take i ++ [(⟨n, .slice none 0 0, 0⟩ : FC)] ++ cs.drop i) ms { D with fs := D.fs.take i ++ [⟨n, [], 0⟩] ++ D.fs.drop i } ∧ (Grown w w' fun k => k = x) ∧ NewF w.heap.size vf' := by
 obtain ⟨vfa, vfc, rfl⟩ := hD.own.sl
 have HD := Keep.mk hD
 have HL := Keep.mk hL
 have HSr := Keep.mk hSr
 have HFn := Keep.mk hFn
 clear hD hL hSr hFn
 go_enter Tryz.func23, Tryz.ntmps23
 refine wp_seq_k fun K1 hK1 => rgn ?_
 refine VlS (.int .i64 0) ?_
 refine WL.nil (hK1 _ _ ?_)
 refine wp_seq_k fun K2 hK2 => rgn ?_
 refine WL.bs (by kernel_rfl) 22 0 _ rfl #[] (by simp) _ _ (bsFE w) ?_
 have HN3 := Keep.mk (ownF_empty w)
 have hbx := below_new w (.cells #[] 49)
 have HD3 := Keep.mk (HD.out.below hbx)
 have B3 : Keep (Below w.heap.size w (w.alloc (.cells #[] 49))) := ⟨hbx⟩
 clear hbx
 generalize w.alloc (.cells #[] 49) = w3 at *
 obtain ⟨g3, hg3⟩ : ∃ g, Keep (g = w.heap.size) := ⟨_, ⟨rfl⟩⟩
 rw [← hg3.out] at HN3 ⊢
 have hB3 : Keep (w.heap.size ≤ g3) := ⟨by rw [hg3.out]; exact Nat.le_refl _⟩
 have c0 := HD3.out.blk.c 0 (by rfl : (rdA (.slice vfa cs.length vfc) va D)[0]? = some (.slice vfa cs.length vfc))
 have hil : Keep (i ≤ cs.length) := ⟨by have h := fnd_le n D.fs 0; rw [HFn.out] at h; have := HD3.out.rcs.len; simp at h; omega⟩
 simp only [Act.put, pqA, pqB, pqC]
 refine VlS (.slice (some ⟨g3, 0, none⟩) 0 0) ?_
 refine WL.nil (hK2 _ _ ?_)
 refine wp_seq_k fun K3 hK3 => rgn ?_
 refine VlS (.int .i64 0) ?_
 refine WL.nil (hK3 _ _ ?_)
 refine wp_seq_k fun K4 hK4 => ?_
 refine wp_seq_k fun K5 hK5 => rgn ?_
 refine VlS (.int .i64 0) ?_
 refine WL.nil (hK5 _ _ ?_)
 refine wp_block ?_
 refine wp_loop (fun ac wr => ∃ (t : Nat), ac = apF (fun f => { tmps := #[.pointer (some ⟨x, 0, none⟩), .string n, undef, undef, .int .i64 0, .slice (some ⟨g3, 0, none⟩) 0 0, .int .i64 ((min t i : Nat) : Int), .int .i64 (t : Int), .slice (some ⟨g3, 0, none⟩) 0 0, f 9, f 10, f 11, f 12, f 13, f 14, f 15, f 16, f 17, f 18, f 19, f 20, f 21, f 22, f 23, f 24, f 25, f 26, f 27, f 28, f 29, undef, undef, undef, undef, undef, undef, undef, undef, undef, undef, undef, undef, undef, undef, undef, undef, undef, undef, undef, undef, undef, undef, undef, undef, undef, undef], defers := [] }) ac ∧ t ≤ cs.length ∧ wr = w3) (fun a _ => cs.length - (intOf (a.tmps.getD 7 undef)).toNat) ⟨0, rfl, by omega, rfl⟩ ?_
 rintro ac wr ⟨t, hac, ht, rfl⟩
 obtain ⟨f, rfl⟩ := unF hac
 by_cases hlt : t < cs.length
 ·have hlt' : (t : Int) < (cs.length : Int) := by omega
  have hwt : IntKind.i64.wrap ((t : Int) + 1) = (t : Int) + 1 := by rw [IntKind.wrap_i64]; have := HL.out; omega
  obtain ⟨y, hy⟩ : ∃ y, cs[t]? = some y := ⟨cs[t], List.getElem?_eq_getElem hlt⟩
  obtain ⟨f_, hf_, hrc⟩ := HD3.out.rcs.at hy
  obtain ⟨g, ha, hrg⟩ := HD3.out.own.at hy
  obtain ⟨nx, hnx⟩ : ∃ nx, nx = y.nm := ⟨_, rfl⟩
  have c1 : wr.cell? ⟨g, t * 3, none⟩ = some (.string nx) := by have h := hrg 0 (.string y.nm) rfl; rw [hnx]; exact h
  have Hbl : Keep (Op.bytesLess nx.toList n.toList = decide (t < i)) := ⟨by
   have hs := fnd_split D.fs n 0 i HSr.out (by rw [HFn.out, Nat.zero_add])
   rw [bless_eq, hnx, hrc.1]
   by_cases hti : t < i
   ·rw [decide_eq_true hti]; exact decide_eq_true (hs.1 f_ (List.mem_of_getElem? (i := t) (by rw [List.getElem?_take, if_pos hti]; exact hf_)))
   ·rw [decide_eq_false hti]; exact decide_eq_false fun h => nlt_irrefl _ (nlt_trans h (hs.2 f_ (List.mem_of_getElem? (i := t - i) (by rw [List.getElem?_drop, show i + (t - i) = t by omega]; exact hf_))))⟩
  clear hnx hrc hrg hy hf_
  have cx := c0
  obtain ⟨vfa2, hva2⟩ : ∃ z, z = vfa := ⟨_, rfl⟩
  subst ha
  refine wp_seq_k fun K6 hK6 => ?_
  refine wp_seq_k fun K7 hK7 => rgn ?_
  refine VlS (.int .i64 (t : Int)) ?_
  refine VlS (.pointer (some ⟨x, 0, none⟩)) ?_
  refine VlS (.pointer (some ⟨x, 0, none⟩)) ?_
  refine VlS (.pointer (some ⟨x, 0, none⟩)) ?_
  refine VlS (.slice (some ⟨g, 0, none⟩) cs.length vfc) ?_
  refine VlS (.int .i64 (cs.length : Int)) ?_
  refine VbT ?_
  refine WL.nil (hK7 _ _ ?_)
  refine wp_cond_true rfl ?_
  refine wp_skip ?_
  refine hK6 _ _ ?_
  refine wp_seq_k fun K8 hK8 => ?_
  refine wp_block ?_
  refine wp_seq_k fun K9 hK9 => ?_
  by_cases hti : t < i
  ·have hbl : Op.bytesLess nx.toList n.toList = true := by rw [Hbl.out]; exact decide_eq_true hti
   refine rgn ?_
   refine VlS (.pointer (some ⟨x, 0, none⟩)) ?_
   refine VlS (.pointer (some ⟨x, 0, none⟩)) ?_
   refine VlS (.pointer (some ⟨x, 0, none⟩)) ?_
   refine VlS (.slice (some ⟨g, 0, none⟩) cs.length vfc) ?_
   refine VlS (.int .i64 (t : Int)) ?_
   refine VlS (.pointer (some ⟨g, t * 3, none⟩)) ?_
   refine VlS (.pointer (some ⟨g, t * 3, none⟩)) ?_
   refine VlS (.string nx) ?_
   refine VlS (.string n) ?_
   refine VbT ?_
   refine WL.nil (hK9 _ _ ?_)
   refine wp_cond_true rfl ?_
   refine rgn ?_
   refine VlS (.int .i64 (t : Int)) ?_
   refine VlS (.int .i64 ((t : Int) + 1)) ?_
   refine VlS (.int .i64 ((t : Int) + 1)) ?_
   refine WL.nil (hK8 _ _ ?_)
   refine rgn ?_
   refine VlS (.int .i64 (t : Int)) ?_
   refine VlS (.int .i64 ((t : Int) + 1)) ?_
   refine VlS (.int .i64 ((t : Int) + 1)) ?_
   refine WL.nil ?_
   have e6 : ((min (t + 1) i : Nat) : Int) = (t : Int) + 1 := by omega
   refine ⟨⟨t + 1, by rw [e6]; rfl, by omega, rfl⟩, ?_⟩
   simp only [intOf]; show cs.length - ((t : Int) + 1).toNat < cs.length - ((t : Int)).toNat; omega
  ·have hbl : Op.bytesLess nx.toList n.toList = false := by rw [Hbl.out]; exact decide_eq_false hti
   refine rgn ?_
   refine VlS (.pointer (some ⟨x, 0, none⟩)) ?_
   refine VlS (.pointer (some ⟨x, 0, none⟩)) ?_
   refine VlS (.pointer (some ⟨x, 0, none⟩)) ?_
   refine VlS (.slice (some ⟨g, 0, none⟩) cs.length vfc) ?_
   refine VlS (.int .i64 (t : Int)) ?_
   refine VlS (.pointer (some ⟨g, t * 3, none⟩)) ?_
   refine VlS (.pointer (some ⟨g, t * 3, none⟩)) ?_
   refine VlS (.string nx) ?_
   refine VlS (.string n) ?_
   refine VbF ?_
   refine WL.nil (hK9 _ _ ?_)
   refine wp_cond_false rfl ?_
   refine wp_skip ?_
   refine hK8 _ _ ?_
   refine rgn ?_
   refine VlS (.int .i64 (t : Int)) ?_
   refine VlS (.int .i64 ((t : Int) + 1)) ?_
   refine VlS (.int .i64 ((t : Int) + 1)) ?_
   refine WL.nil ?_
   have e6 : ((min (t + 1) i : Nat) : Int) = ((min t i : Nat) : Int) := by omega
   refine ⟨⟨t + 1, by rw [e6]; rfl, by omega, rfl⟩, ?_⟩
   simp only [intOf]; show cs.length - ((t : Int) + 1).toNat < cs.length - ((t : Int)).toNat; omega
 ·obtain rfl : t = cs.length := by omega
  have hlt' : ¬ ((cs.length : Nat) : Int) < (cs.length : Int) := by omega
  rw [show min cs.length i = i from Nat.min_eq_right hil.out]
  refine wp_seq_k fun K10 hK10 => ?_
  refine wp_seq_k fun K11 hK11 => rgn ?_
  refine VlS (.int .i64 (cs.length : Int)) ?_
  refine VlS (.pointer (some ⟨x, 0, none⟩)) ?_
  refine VlS (.pointer (some ⟨x, 0, none⟩)) ?_
  refine VlS (.pointer (some ⟨x, 0, none⟩)) ?_
  refine VlS (.slice vfa cs.length vfc) ?_
  refine VlS (.int .i64 (cs.length : Int)) ?_
  refine VbF ?_
  refine WL.nil (hK11 _ _ ?_)
  refine wp_cond_false rfl ?_
  refine wp_exit ?_
  refine hK4 _ _ ?_
  refine wp_seq_k fun K12 hK12 => ?_
  obtain ⟨vs1, hs1, hs2⟩ := slF_hi HD3.out.own i hil.out
  have HS1 := Keep.mk (hs1 wr)
  have HS2 := Keep.mk (hs2 wr HD3.out.own)
  clear hs1 hs2
  refine rgn ?_
  refine VlS (.slice (some ⟨g3, 0, none⟩) 0 0) ?_
  refine VlS (.pointer (some ⟨x, 0, none⟩)) ?_
  refine VlS (.pointer (some ⟨x, 0, none⟩)) ?_
  refine VlS (.pointer (some ⟨x, 0, none⟩)) ?_
  refine VlS (.slice vfa cs.length vfc) ?_
  refine VlS (.int .i64 (i : Int)) ?_
  refine WL.slHi (by kernel_rfl) (.tmp 34) (.tmp 35) rfl (.slice vfa cs.length vfc) (.int .i64 (i : Int)) vs1 rfl rfl HS1.out ?_
  simp only [Act.put, pqA, pqB, pqC]
  refine WL.appS (by kernel_rfl) (.tmp 30) (.tmp 36) rfl (.slice (some ⟨g3, 0, none⟩) 0 0) vs1 [] (cs.take i) (fun x hx => HD3.out.rcs.sl x (List.mem_of_mem_take hx)) rfl rfl HN3.out HS2.out (by simp; have := HL.out; omega) fun v4 w4 ho hg hm => ?_
  have HO4 := Keep.mk ho
  have N4 : Keep (NewF w.heap.size v4) := ⟨NewF.moved (NewF.at hB3.out) B3.out.size hm⟩
  have B4 : Keep (Below w.heap.size w w4) := ⟨newF_below (NewF.at hB3.out) B3.out hg⟩
  have HD4 : Keep (RDAt w4 x (.slice vfa cs.length vfc) va cs ms D) := ⟨HD.out.below B4.out⟩
  clear ho hg hm HD3 HS1 HS2 c0
  obtain ⟨a4, k4, e4⟩ := HO4.out.sl
  subst e4
  obtain ⟨n4, hn4⟩ : ∃ q, Keep (q = (([] : List FC) ++ cs.take i).length) := ⟨_, ⟨rfl⟩⟩
  rw [← hn4.out] at HO4 N4 ⊢
  simp only [Act.put, pqA, pqB, pqC]
  refine VlS (.slice a4 n4 k4) ?_
  refine WL.nil (hK12 _ _ ?_)
  refine wp_seq_k fun K13 hK13 => rgn ?_
  refine VlS (.slice a4 n4 k4) ?_
  refine VlS (.string n) ?_
  refine WL.bld (by kernel_rfl) 49 _ rfl [(0, .string n)] (by simp [Act.eval]) _ (f_built n) ?_
  simp only [Act.put, pqA, pqB, pqC]
  refine WL.bs (by kernel_rfl) 22 1 _ rfl #[(0, .agg (fA (⟨n, .slice none 0 0, 0⟩ : FC)))] (by simp [Act.eval]) _ _ (bsF n none 0 0 0 w4) ?_
  have HB5 := Keep.mk (Blk.new w4 49 (fA (⟨n, .slice none 0 0, 0⟩ : FC)))
  have hbx := below_new w4 (.cells (fA (⟨n, .slice none 0 0, 0⟩ : FC)) 49)
  have HO5 := Keep.mk (HO4.out.below hbx)
  have B5 : Keep (Below w.heap.size w (w4.alloc (.cells (fA (⟨n, .slice none 0 0, 0⟩ : FC)) 49))) := ⟨B4.out.trans (hbx.mono B4.out.size)⟩
  clear hbx HO4
  generalize w4.alloc (.cells (fA (⟨n, .slice none 0 0, 0⟩ : FC)) 49) = w5 at *
  obtain ⟨g5, hg5⟩ : ∃ g, Keep (g = w4.heap.size) := ⟨_, ⟨rfl⟩⟩
  rw [← hg5.out] at HB5 ⊢
  simp only [Act.put, pqA, pqB, pqC]
  refine WL.appS (by kernel_rfl) (.tmp 38) (.tmp 41) rfl (.slice a4 n4 k4) (.slice (some ⟨g5, 0, none⟩) 1 1) ([] ++ cs.take i) [(⟨n, .slice none 0 0, 0⟩ : FC)] (fun x hx => by simp at hx; subst hx; exact ⟨none, 0, 0, rfl⟩) rfl rfl HO5.out (srcF_one HB5.out) (by simp; have := HL.out; omega) fun v6 w6 ho hg hm => ?_
  have HO6 := Keep.mk ho
  have N6 : Keep (NewF w.heap.size v6) := ⟨NewF.moved N4.out B5.out.size hm⟩
  have B6 : Keep (Below w.heap.size w w6) := ⟨newF_below N4.out B5.out hg⟩
  have HD6 : Keep (RDAt w6 x (.slice vfa cs.length vfc) va cs ms D) := ⟨HD.out.below B6.out⟩
  clear ho hg hm HD4 HB5
  obtain ⟨a6, k6, e6⟩ := HO6.out.sl
  subst e6
  obtain ⟨n6, hn6⟩ : ∃ q, Keep (q = ([] ++ cs.take i ++ [(⟨n, .slice none 0 0, 0⟩ : FC)]).length) := ⟨_, ⟨rfl⟩⟩
  rw [← hn6.out] at HO6 N6 ⊢
  have c0 := HD6.out.blk.c 0 (by rfl : (rdA (.slice vfa cs.length vfc) va D)[0]? = some (.slice vfa cs.length vfc))
  obtain ⟨vs2, hs1, hs2⟩ := slF_lo HD6.out.own i hil.out
  have HS1 := Keep.mk (hs1 w6)
  have HS2 := Keep.mk (hs2 w6 HD6.out.own)
  clear hs1 hs2
  simp only [Act.put, pqA, pqB, pqC]
  refine VlS (.slice a6 n6 k6) ?_
  refine WL.nil (hK13 _ _ ?_)
  refine wp_seq_k fun K14 hK14 => rgn ?_
  refine VlS (.slice a6 n6 k6) ?_
  refine VlS (.pointer (some ⟨x, 0, none⟩)) ?_
  refine VlS (.pointer (some ⟨x, 0, none⟩)) ?_
  refine VlS (.pointer (some ⟨x, 0, none⟩)) ?_
  refine VlS (.slice vfa cs.length vfc) ?_
  refine VlS (.int .i64 (i : Int)) ?_
  refine WL.slLo (by kernel_rfl) (.tmp 47) (.tmp 48) rfl (.slice vfa cs.length vfc) (.int .i64 (i : Int)) vs2 rfl rfl HS1.out ?_
  simp only [Act.put, pqA, pqB, pqC]
  refine WL.appS (by kernel_rfl) (.tmp 43) (.tmp 49) rfl (.slice a6 n6 k6) vs2 ([] ++ cs.take i ++ [(⟨n, .slice none 0 0, 0⟩ : FC)]) (cs.drop i) (fun x hx => HD6.out.rcs.sl x (List.mem_of_mem_drop hx)) rfl rfl HO6.out HS2.out (by simp; have := HL.out; omega) fun v7 w7 ho hg hm => ?_
  have HO7 : Keep (OwnF w7 v7 (cs.take i ++ [(⟨n, .slice none 0 0, 0⟩ : FC)] ++ cs.drop i)) := ⟨by rw [List.nil_append] at ho; exact ho⟩
  have N7 : Keep (NewF w.heap.size v7) := ⟨NewF.moved N6.out B6.out.size hm⟩
  have B7 : Keep (Below w.heap.size w w7) := ⟨newF_below N6.out B6.out hg⟩
  have HD7 : Keep (RDAt w7 x (.slice vfa cs.length vfc) va cs ms D) := ⟨HD.out.below B7.out⟩
  clear ho hg hm HD6 HS1 HS2 c0
  obtain ⟨a7, k7, e7⟩ := HO7.out.sl
  subst e7
  obtain ⟨n7, hn7⟩ : ∃ q, Keep (q = (cs.take i ++ [(⟨n, .slice none 0 0, 0⟩ : FC)] ++ cs.drop i).length) := ⟨_, ⟨rfl⟩⟩
  rw [← hn7.out] at HO7 N7 ⊢
  have f_o := HD7.out.blk.frozen 0
  have c0 := HD7.out.blk.c 0 (by rfl : (rdA (.slice vfa cs.length vfc) va D)[0]? = some (.slice vfa cs.length vfc))
  simp only [Act.put, pqA, pqB, pqC]
  refine VlS (.slice a7 n7 k7) ?_
  refine WL.nil (hK14 _ _ ?_)
  refine wp_seq_k fun K15 hK15 => rgn ?_
  refine VlS (.pointer (some ⟨x, 0, none⟩)) ?_
  refine VlS (.slice a7 n7 k7) ?_
  refine VlS (.pointer (some ⟨x, 0, none⟩)) ?_
  refine VlS (.pointer (some ⟨x, 0, none⟩)) ?_
  refine WL.cell (by kernel_rfl) (w7.setCell ⟨x, 0, none⟩ (.slice a7 n7 k7)) (by go_simp) ?_
  clear f_o c0
  have HD8 := Keep.mk (HD7.out.list HO7.out (HD7.out.rcs.ins (y := (⟨n, .slice none 0 0, 0⟩ : FC)) (f := ⟨n, [], 0⟩) i hil.out ⟨rfl, rfl, .inl ⟨rfl, rfl⟩, fun k hk => by cases hk⟩))
  have G8 : Keep (Grown w (w7.setCell ⟨x, 0, none⟩ (.slice a7 n7 k7)) fun k => k = x) := ⟨(Grown.below B7.out).trans (Grown.setCell w7 x 0 _ fun _ => rfl)⟩
  clear HD7 HO7
  generalize w7.setCell ⟨x, 0, none⟩ (.slice a7 n7 k7) = w8 at *
  simp only [Act.put]
  refine WL.nil (hK15 _ _ ?_)
  refine wp_seq_k fun K16 hK16 => rgn ?_
  refine VlS (.int .i64 (i : Int)) ?_
  refine VlS (.int .i64 (i : Int)) ?_
  refine WL.nil (hK16 _ _ ?_)
  refine wp_ret ?_
  go_ret
  exact ⟨rfl, _, HD8.out, G8.out, N7.out⟩
end Go.Proofs.YteijjfeainamdaaGreatDoor
