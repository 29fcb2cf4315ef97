import Derived.Test.YtdeiicldfgkidaaGreatD15
import Derived.Test.YtdeiicldfgkidaaGreatD02
import Derived.Test.YtdeiicldfgkidaaGreatD13
import Derived.Test.YtdeiicldfgkidaaGreatD06
import Derived.Deep.RegionHeld3
import Derived.ProofKit
import Derived.OpenShut
import Derived.ShutString
import Derived.ChangeOld
import Derived.Below
import Derived.SizedLaws
import Derived.Deep.Slices
import Derived.Deep.Strs
namespace Go.Proofs.YtdeiicldfgkidaaGreat
open Go.RowKit
set_option linter.unusedSimpArgs false
set_option linter.unusedVariables false

theorem Tryz.in7 (w : World) (vs : Array Value) : (callFunc 7 vs).run Tryz.prog w = .ok (.enter 7 vs) w := by kernel_rfl
theorem getL_le {L : List Int} {a : Nat} (hB : Byts L) (ha : a ≤ L.length) (h : (getL L a).1 = 0) : (getL L a).2.1 ≤ L.length := by
 obtain ⟨l, r, _, _, h3, h4⟩ := getL_back hB h
 have := congrArg List.length h3
 rw [List.length_drop, List.length_append] at this
 rw [h4]
 show a + (formL l).length ≤ L.length
 omega
theorem decR_head (L : List Int) : decR L = if (headR L).1 ≠ 0 then ((headR L).1, (headR L).2.1, zeroN) else
  if (getL L (headR L).2.1).1 ≠ 0 then ((getL L (headR L).2.1).1, (getL L (headR L).2.1).2.1, zeroN) else
  if (getL L (headR L).2.1).2.1 < L.length then (23, (getL L (headR L).2.1).2.1, zeroN) else
  (0, (getL L (headR L).2.1).2.1, ⟨(headR L).2.2.au, (headR L).2.2.ck, (headR L).2.2.ps, (getL L (headR L).2.1).2.2⟩) := by
 unfold decR headR
 by_cases h1 : (formR L 0).1 ≠ 0
 ·simp only [if_pos h1]
 simp only [if_neg h1]
 by_cases h2 : (auR L 1).1 ≠ 0
 ·simp only [if_pos h2]
 simp only [if_neg h2]
 by_cases h3 : (ckR L 2).1 ≠ 0
 ·simp only [if_pos h3]
 simp only [if_neg h3]
 by_cases h4 : (fstM (L.drop (ckR L 2).2) 64).2.2 ≠ 0
 ·simp only [if_pos h4]
 simp only [if_neg h4]
 by_cases h5 : (((fstM (L.drop 2) 4096).1 == 1) == ((fstM (L.drop (ckR L 2).2) 64).1 == 0)) = false
 ·simp only [if_pos h5]
  rw [if_pos (show (51 : Int) ≠ 0 by decide)]
 simp only [if_neg h5]
 unfold hfin
 generalize getH L (fstM (L.drop (ckR L 2).2) 64).1.toNat [] ((ckR L 2).2 + (fstM (L.drop (ckR L 2).2) 64).2.1.toNat) = G
 by_cases h6 : G.1 ≠ 0
 ·simp only [if_pos h6]
 simp only [if_neg h6]
 rw [if_neg (by simp : ¬ (0 : Int) ≠ 0)]
theorem run_bldN0 (w : World) : (Next.value <$> Instr.build 28 #[]).run Tryz.prog w = .ok (.value (.agg (ndA 0 0 noS noS))) w := by kernel_rfl
theorem in_built (va : Option Addr) (n vc : Nat) : Tryz.prog.built 78 [(0, .slice va n vc)] = some #[.slice va n vc, .int .i64 0, .int .i64 0, .int .i64 0] := by kernel_rfl
theorem er_built4 : Tryz.prog.built 34 [(0, .int .i64 4), (1, .int .i64 1048576)] = some (erA 4 1048576) := by kernel_rfl
structure DS (w0 : World) (g2 g3 g5 g6 : Nat) (nd : Array Value) (ew eb : Int) (w1 : World) : Prop where
 bel : Below w0.heap.size w0 w1
 r2 : Blk w1 g2 28 (ndA 0 0 noS noS)
 r3 : Blk w1 g3 34 (erA 0 0)
 n : Blk w1 g5 28 nd
 e : Blk w1 g6 34 (erA ew eb)
 n25 : g5 ≠ g2
 n36 : g6 ≠ g3
 lo2 : w0.heap.size ≤ g2
 lo3 : w0.heap.size ≤ g3
 lo5 : w0.heap.size ≤ g5
 lo6 : w0.heap.size ≤ g6
section
variable {w0 : World} {g2 g3 g5 g6 : Nat} {nd : Array Value} {ew eb : Int} {w1 : World}
theorem DS.call (h : DS w0 g2 g3 g5 g6 nd ew eb w1) {w2 : World} {x : Nat} {cs : Array Value} (hb : Blk w1 x 78 cs) (hx : w0.heap.size ≤ x) (hg : Grown w1 w2 fun k => k = x) : DS w0 g2 g3 g5 g6 nd ew eb w2 :=
 ⟨h.bel.trans (hg.to_below (fun k hk e => by omega) h.bel.size), hg.blk h.r2 (blk_ne h.r2 hb (by decide)), hg.blk h.r3 (blk_ne h.r3 hb (by decide)), hg.blk h.n (blk_ne h.n hb (by decide)), hg.blk h.e (blk_ne h.e hb (by decide)), h.n25, h.n36, h.lo2, h.lo3, h.lo5, h.lo6⟩
theorem DS.setE (h : DS w0 g2 g3 g5 g6 nd ew eb w1) (W b : Int) : DS w0 g2 g3 g5 g6 nd W b (w1.setRow g6 (erA W b)) :=
 ⟨below_setRow h.bel h.lo6 _, h.r2.setRow_ne (blk_ne h.r2 h.e (by decide)) _, h.r3.setRow_ne (fun e => h.n36 e.symm) _, h.n.setRow_ne (blk_ne h.n h.e (by decide)) _, h.e.setRow _, h.n25, h.n36, h.lo2, h.lo3, h.lo5, h.lo6⟩
theorem DS.setN (h : DS w0 g2 g3 g5 g6 nd ew eb w1) {nd' : Array Value} {w2 : World} (hn : Blk w2 g5 28 nd') (hg : Grown w1 w2 fun k => k = g5) : DS w0 g2 g3 g5 g6 nd' ew eb w2 :=
 ⟨h.bel.trans (hg.to_below (fun k hk e => by have := h.lo5; omega) h.bel.size), hg.blk h.r2 (fun e => h.n25 e.symm), hg.blk h.r3 (fun e => blk_ne h.r3 h.n (by decide) e), hn, hg.blk h.e (fun e => blk_ne h.e h.n (by decide) e), h.n25, h.n36, h.lo2, h.lo3, h.lo5, h.lo6⟩
theorem DS.end2 (h : DS w0 g2 g3 g5 g6 nd ew eb w1) (A B : Array Value) : Below w0.heap.size w0 ((w1.setRow g2 A).setRow g3 B) := below_setRow (below_setRow h.bel h.lo2 _) h.lo3 _
theorem DS.end2d (h : DS w0 g2 g3 g5 g6 nd ew eb w1) (A B : Array Value) : Below w0.heap.size w0 ((w1.drew.setRow g2 A).setRow g3 B) := below_setRow (below_setRow h.bel.drew h.lo2 _) h.lo3 _
end
def RDecP (l : List Int) (w : World) (e : Ending) (w' : World) : Prop :=
 (l.length ≤ 1048576 ∧ (decR l).1 = 0 ∧ ∃ vp vo, e = .returned (.tuple #[.agg (ndA (decR l).2.2.au (decR l).2.2.ck vp vo), .agg (erA 0 0)]) ∧ OwnH w' vp (decR l).2.2.ps ∧ OwnO w' vo (decR l).2.2.ops ∧ Below w.heap.size w w')
 ∨ ((1048576 < l.length ∨ (¬ 1048576 < l.length ∧ (decR l).1 ≠ 0)) ∧ e = .returned (.tuple #[.agg (ndA 0 0 noS noS), .agg (erA (badR l).1 ((badR l).2 : Int))]) ∧ Below w.heap.size w w')
theorem RDecP.bad {l : List Int} {w w' : World} {why : Int} {a : Nat} {b : Int} (hl : ¬ 1048576 < l.length) (h : decR l = (why, a, zeroN)) (hw : why ≠ 0) (hb : b = bOf why a) (hB : Below w.heap.size w w') : RDecP l w (.returned (.tuple #[.agg (ndA 0 0 noS noS), .agg (erA why b)])) w' := by
 refine .inr ⟨.inr ⟨hl, by rw [h]; exact hw⟩, ?_, hB⟩
 rw [hb, bOf_1 hw]
 unfold badR
 rw [if_neg hl, h]
set_option maxRecDepth 8000 in
set_option maxHeartbeats 4000000 in
theorem rdecode_any (v : Value) (l : List Int) (w : World) (hr : RowAt w v l) (hB : Byts l) (hl : l.length ≤ 140737488355328) : Calls Tryz.prog 7 #[v] w (RDecP l w) := by
 obtain ⟨va, vc, rfl⟩ := row_form hr
 have HR := Keep.mk hr
 have HBy := Keep.mk hB
 have HLn := Keep.mk hl
 clear hr hB hl
 go_enter Tryz.func7, Tryz.ntmps7
 refine wp_seq_k fun K1 hK1 => rgn ?_
 refine WL.new (by kernel_rfl) 28 rfl _ Tryz.new28N ?_
 have H2 := Keep.mk (Blk.new w 28 (ndA 0 0 noS noS))
 have B1 := Keep.mk (below_new w (.cells (ndA 0 0 noS noS) 28))
 generalize w.alloc (.cells (ndA 0 0 noS noS) 28) = wa at *
 obtain ⟨g2, hg2⟩ : ∃ g, Keep (g = w.heap.size) := ⟨_, ⟨rfl⟩⟩
 rw [← hg2.out] at H2 ⊢
 simp only [Act.put, pqA, pqB, pqC]
 refine WL.new (by kernel_rfl) 34 rfl _ Tryz.new34E ?_
 have H3 := Keep.mk (Blk.new wa 34 (erA 0 0))
 have H2b := Keep.mk (H2.out.alloc (.cells (erA 0 0) 34))
 have B2 : Keep (Below w.heap.size w (wa.alloc (.cells (erA 0 0) 34))) := ⟨B1.out.trans ((below_new wa _).mono B1.out.size)⟩
 generalize wa.alloc (.cells (erA 0 0) 34) = wb at *
 obtain ⟨g3, hg3⟩ : ∃ g, Keep (g = wa.heap.size) := ⟨_, ⟨rfl⟩⟩
 rw [← hg3.out] at H3 ⊢
 have hl3 : Keep (w.heap.size ≤ g3) := ⟨by rw [hg3.out]; exact B1.out.size⟩
 have hl2 : Keep (w.heap.size ≤ g2) := ⟨by rw [hg2.out]; exact Nat.le_refl _⟩
 clear H2 B1 hg3 hg2
 simp only [Act.put, pqA, pqB, pqC]
 refine WL.nil (hK1 _ _ ?_)
 refine wp_seq_k fun K2 hK2 => ?_
 refine wp_seq_k fun K3 hK3 => rgn ?_
 refine VlS (.slice va l.length vc) ?_
 refine VlS (.int .i64 (l.length : Int)) ?_
 by_cases h1_2 : 1048576 < l.length
 ·have hL9 : (1048576 : Int) < (l.length : Int) := by omega
  refine VlS (.bool true) ?_
  refine WL.nil (hK3 _ _ ?_)
  refine wp_cond_true rfl ?_
  refine wp_seq_k fun K4 hK4 => rgn ?_
  refine WL.bld (by kernel_rfl) 28 _ rfl [] (by simp) (ndA 0 0 noS noS) nd_built0 ?_
  simp only [Act.put, pqA, pqB, pqC]
  refine WL.bld (by kernel_rfl) 34 _ rfl [(0, .int .i64 4), (1, .int .i64 1048576)] (by simp [Act.eval]) (erA 4 1048576) er_built4 ?_
  simp only [Act.put, pqA, pqB, pqC]
  refine WL.storeR (by kernel_rfl) 28 (.tmp 2) (.tmp 10) rfl g2 (ndA 0 0 noS noS) rfl rfl 28 (ndA 0 0 noS noS) H2b.out (Tryz.size28B _ _ _ _) rfl (nd_one 0 0 none 0 0 none 0 0) ?_
  simp only [Act.put]
  refine WL.storeR (by kernel_rfl) 34 (.tmp 3) (.tmp 11) rfl g3 (erA 4 1048576) rfl rfl 34 (erA 0 0) (H3.out.setRow_ne (blk_ne H3.out H2b.out (by decide)) _) (Tryz.size34B _ _) (erA_sizes _ _ _ _) (erA_one _ _) ?_
  simp only [Act.put]
  refine WL.nil (hK4 _ _ ?_)
  refine wp_ret ?_
  refine bodyPost_ret (v := .tuple #[.agg (ndA 0 0 noS noS), .agg (erA 4 1048576)]) (results_cell_cell_row Tryz.results7 _ _ g2 g3 28 34 _ _ (0, 0) (0, 0) _ _ rfl rfl ((H2b.out.setRow _).setRow_ne (blk_ne H2b.out H3.out (by decide)) _) ((H3.out.setRow_ne (blk_ne H3.out H2b.out (by decide)) _).setRow _) Tryz.underlying28 rfl (Tryz.size28B _ _ _ _) Tryz.underlying34 rfl (Tryz.size34B _ _)) rfl ?_
  exact .inr ⟨.inl h1_2, by unfold badR; rw [if_pos h1_2]; rfl, below_setRow (below_setRow B2.out hl2.out _) hl3.out _⟩
 ·have hL9 : ¬ (1048576 : Int) < (l.length : Int) := by omega
  have hL9b : (l.length : Int) ≤ 1048576 := by omega
  refine VlS (.bool false) ?_
  refine WL.nil (hK3 _ _ ?_)
  refine wp_cond_false rfl ?_
  refine wp_skip ?_
  refine hK2 _ _ ?_
  refine wp_seq_k fun K5 hK5 => rgn ?_
  refine VlS (.slice va l.length vc) ?_
  refine WL.bld (by kernel_rfl) 78 _ rfl [(0, .slice va l.length vc)] (by simp [Act.eval]) #[.slice va l.length vc, .int .i64 0, .int .i64 0, .int .i64 0] (in_built _ _ _) ?_
  simp only [Act.put, pqA, pqB, pqC]
  refine WL.box (by kernel_rfl) 78 (.tmp 13) rfl _ rfl ?_
  have bx := Blk.new wb 78 #[.slice va l.length vc, .int .i64 0, .int .i64 0, .int .i64 0]
  have H2c := Keep.mk (H2b.out.alloc (.cells #[.slice va l.length vc, .int .i64 0, .int .i64 0, .int .i64 0] 78))
  have H3c := Keep.mk (H3.out.alloc (.cells #[.slice va l.length vc, .int .i64 0, .int .i64 0, .int .i64 0] 78))
  have B3 : Keep (Below w.heap.size w (wb.alloc (.cells #[.slice va l.length vc, .int .i64 0, .int .i64 0, .int .i64 0] 78))) := ⟨B2.out.trans ((below_new wb _).mono B2.out.size)⟩
  have HX : Keep (RX w wb.heap.size (.slice va l.length vc) l 0 0 (wb.alloc (.cells #[.slice va l.length vc, .int .i64 0, .int .i64 0, .int .i64 0] 78))) := ⟨⟨bx, Nat.zero_le _, B2.out.size, B3.out, HR.out, HLn.out, HBy.out⟩⟩
  generalize wb.alloc (.cells #[.slice va l.length vc, .int .i64 0, .int .i64 0, .int .i64 0] 78) = wc at *
  obtain ⟨x, hx⟩ : ∃ g, Keep (g = wb.heap.size) := ⟨_, ⟨rfl⟩⟩
  rw [← hx.out] at HX ⊢
  clear bx H2b H3 B2 hx
  simp only [Act.put, pqA, pqB, pqC]
  refine VlS (.pointer (some ⟨x, 0, none⟩)) ?_
  refine WL.nil (hK5 _ _ ?_)
  refine wp_seq_k fun K6 hK6 => rgn ?_
  refine VlS (.pointer (some ⟨x, 0, none⟩)) ?_
  have hH := xhead_any w wc x (.slice va l.length vc) l B3.out.size HX.out
  obtain ⟨R, hR⟩ : ∃ R, Keep (R = headR l) := ⟨_, ⟨rfl⟩⟩
  rw [← hR.out] at hH
  refine WL.callF (by kernel_rfl) 29 _ _ rfl Tryz.in29 #[ptr x] (by simp [Act.eval]) ?_
  refine (hH).mono ?_
  rintro e wd ⟨au, ck, pa, pn, pc, rfl, h1, h2, h3⟩
  refine ⟨_, rfl, ?_⟩
  have HXd := Keep.mk h1
  have HGd := Keep.mk h2
  have HPd := Keep.mk h3
  clear h1 h2 h3 hH
  have H2d := Keep.mk (HGd.out.blk H2c.out (blk_ne H2c.out HX.out.blk (by decide)))
  have H3d := Keep.mk (HGd.out.blk H3c.out (blk_ne H3c.out HX.out.blk (by decide)))
  obtain ⟨b1, hb1⟩ : ∃ b, Keep (b = bOf R.1 R.2.1) := ⟨_, ⟨rfl⟩⟩
  rw [← hb1.out]
  obtain ⟨W1, hW1⟩ : ∃ z, Keep (z = R.1) := ⟨_, ⟨rfl⟩⟩
  rw [← hW1.out]
  clear HX H2c H3c B3 HGd
  simp only [Act.put, pqA, pqB, pqC]
  refine VlS (.tuple #[.agg (ndA au ck (.slice pa pn pc) noS), .agg (erA W1 b1)]) ?_
  refine VlS (.agg (ndA au ck (.slice pa pn pc) noS)) ?_
  refine VlS (.agg (erA W1 b1)) ?_
  refine WL.new (by kernel_rfl) 28 rfl _ Tryz.new28N ?_
  have H5 := Keep.mk (Blk.new wd 28 (ndA 0 0 noS noS))
  have BA := Keep.mk (below_new wd (.cells (ndA 0 0 noS noS) 28))
  generalize wd.alloc (.cells (ndA 0 0 noS noS) 28) = we at *
  obtain ⟨g5, hg5⟩ : ∃ g, Keep (g = wd.heap.size) := ⟨_, ⟨rfl⟩⟩
  rw [← hg5.out] at H5 ⊢
  simp only [Act.put, pqA, pqB, pqC]
  refine WL.new (by kernel_rfl) 34 rfl _ Tryz.new34E ?_
  have H6 := Keep.mk (Blk.new we 34 (erA 0 0))
  have H5b := Keep.mk (H5.out.alloc (.cells (erA 0 0) 34))
  have BB : Keep (Below wd.heap.size wd (we.alloc (.cells (erA 0 0) 34))) := ⟨BA.out.trans ((below_new we _).mono BA.out.size)⟩
  generalize we.alloc (.cells (erA 0 0) 34) = wf at *
  obtain ⟨g6, hg6⟩ : ∃ g, Keep (g = we.heap.size) := ⟨_, ⟨rfl⟩⟩
  rw [← hg6.out] at H6 ⊢
  simp only [Act.put, pqA, pqB, pqC]
  refine WL.storeR (by kernel_rfl) 28 (.tmp 5) (.tmp 18) rfl g5 (ndA au ck (.slice pa pn pc) noS) rfl rfl 28 (ndA 0 0 noS noS) H5b.out (Tryz.size28B _ _ _ _) rfl (nd_one _ _ _ _ _ _ _ _) ?_
  have H5c := Keep.mk (H5b.out.setRow (ndA au ck (.slice pa pn pc) noS))
  have H6c := Keep.mk (H6.out.setRow_ne (b' := g5) (blk_ne H6.out H5b.out (by decide)) (ndA au ck (.slice pa pn pc) noS))
  have BC := Keep.mk (below_setRow BB.out (b := g5) (by rw [hg5.out]; exact Nat.le_refl _) (ndA au ck (.slice pa pn pc) noS))
  generalize wf.setRow g5 (ndA au ck (.slice pa pn pc) noS) = wg at *
  clear H5 H5b H6 BB
  simp only [Act.put]
  refine WL.storeR (by kernel_rfl) 34 (.tmp 6) (.tmp 19) rfl g6 (erA W1 b1) rfl rfl 34 (erA 0 0) H6c.out (Tryz.size34B _ _) (erA_sizes _ _ _ _) (erA_one _ _) ?_
  have H6d := Keep.mk (H6c.out.setRow (erA W1 b1))
  have H5d := Keep.mk (H5c.out.setRow_ne (b' := g6) (blk_ne H5c.out H6c.out (by decide)) (erA W1 b1))
  have BD := Keep.mk (below_setRow BC.out (b := g6) (by rw [hg6.out]; exact BA.out.size) (erA W1 b1))
  generalize wg.setRow g6 (erA W1 b1) = w1 at *
  have HX1 := Keep.mk (HXd.out.below BD.out)
  have HS1 : Keep (DS w g2 g3 g5 g6 (ndA au ck (.slice pa pn pc) noS) W1 b1 w1) := ⟨⟨HX1.out.bel, H2d.out.below BD.out H2d.out.lt, H3d.out.below BD.out H3d.out.lt, H5d.out, H6d.out, fun e => by have := H2d.out.lt; have := hg5.out; omega, fun e => by have h1 := H3d.out.lt; have h2 := hg6.out; have h3 := BA.out.size; omega, hl2.out, hl3.out, by rw [hg5.out]; exact HXd.out.bel.size, by rw [hg6.out]; exact Nat.le_trans HXd.out.bel.size BA.out.size⟩⟩
  have HP1 : Keep (W1 = 0 → au = R.2.2.au ∧ ck = R.2.2.ck ∧ OwnH w1 (.slice pa pn pc) R.2.2.ps) := ⟨fun h => by obtain ⟨q1, q2, q3, _⟩ := HPd.out (hW1.out ▸ h); exact ⟨q1, q2, q3.below BD.out⟩⟩
  clear H5c H6c BC BA BD H6d H5d H2d H3d HXd HPd hg5 hg6
  have e6 := HS1.out.e.c 0 (by rfl : (erA W1 b1)[0]? = some (.int .i64 W1))
  simp only [Act.put]
  refine WL.nil (hK6 _ _ ?_)
  refine wp_seq_k fun K7 hK7 => ?_
  refine wp_seq_k fun K8 hK8 => rgn ?_
  refine VlS (.pointer (some ⟨g6, 0, none⟩)) ?_
  refine VlS (.int .i64 W1) ?_
  by_cases h5_2 : W1 = 0
  ·skip
   refine VlS (.bool false) ?_
   refine WL.nil (hK8 _ _ ?_)
   refine wp_cond_false rfl ?_
   refine wp_skip ?_
   refine hK7 _ _ ?_
   refine wp_seq_k fun K9 hK9 => ?_
   have hR0 : R.1 = 0 := hW1.out ▸ h5_2
   rw [hR0] at HX1
   have hb0 : b1 = 0 := by rw [hb1.out, hR0]; rfl
   rw [h5_2, hb0] at HS1
   have HP2 := Keep.mk (HP1.out h5_2)
   clear HP1 hb0 e6
   obtain ⟨G, hG⟩ : ∃ G, Keep (G = getL l R.2.1) := ⟨_, ⟨rfl⟩⟩
   have hH := rget_any x (.slice va l.length vc) l R.2.1 w1 HX1.out.good HX1.out.rows HX1.out.le HLn.out HBy.out
   rw [← hG.out] at hH
   refine rgn ?_
   refine VlS (.pointer (some ⟨x, 0, none⟩)) ?_
   refine WL.callF (by kernel_rfl) 30 _ _ rfl Tryz.in30 #[ptr x] (by simp [Act.eval]) ?_
   refine (hH).mono ?_
   rintro e w2 ⟨vo, b2, rfl, h1, h2, h3, h4, h5⟩
   refine ⟨_, rfl, ?_⟩
   have hb2 : Keep (b2 = bOf G.1 G.2.1) := ⟨bOf_is h1⟩
   have HRf := Keep.mk h2
   have HG2 := Keep.mk h3
   have HO2 := Keep.mk h4
   have HS2 := Keep.mk (HS1.out.call HX1.out.blk HX1.out.hx h3)
   have HQ2 : Keep (OwnH w2 (.slice pa pn pc) R.2.2.ps) := ⟨HP2.out.2.2.grown h3 (fun k hk e => HP2.out.2.2.ne HX1.out.blk (by decide) (e ▸ hk))⟩
   have hvo : ∃ oa on oc, vo = .slice oa on oc := by
    by_cases h : G.1 = 0
    ·obtain ⟨a, c, h'⟩ := (h4 h).1.sl; exact ⟨a, _, c, h'⟩
    ·exact ⟨none, 0, 0, h5 h⟩
   obtain ⟨oa, on, oc, rfl⟩ := hvo
   obtain ⟨W2, hW2⟩ : ∃ z, Keep (z = G.1) := ⟨_, ⟨rfl⟩⟩
   rw [← hW2.out]
   clear h1 h2 h3 h4 h5 hH HS1
   simp only [Act.put, pqA, pqB, pqC]
   refine VlS (.tuple #[.slice oa on oc, .agg (erA W2 b2)]) ?_
   refine VlS (.slice oa on oc) ?_
   refine VlS (.agg (erA W2 b2)) ?_
   refine VlS (.pointer (some ⟨g5, 3, none⟩)) ?_
   have c_o := HS2.out.n.c 3 (by rfl : (ndA au ck (.slice pa pn pc) noS)[3]? = some noS)
   have f_o := HS2.out.n.frozen 3
   refine WL.cell (by kernel_rfl) (w2.setCell ⟨g5, 3, none⟩ (.slice oa on oc)) (by go_simp) ?_
   clear c_o f_o
   have HS3 := Keep.mk (HS2.out.setN (nd' := ndA au ck (.slice pa pn pc) (.slice oa on oc)) (w2 := w2.setCell ⟨g5, 3, none⟩ (.slice oa on oc)) (HS2.out.n.set 3 (.slice oa on oc)) (Grown.setCell w2 g5 3 _ fun _ => rfl))
   have GS : Keep (Grown w2 (w2.setCell ⟨g5, 3, none⟩ (.slice oa on oc)) fun k => k = g5) := ⟨Grown.setCell w2 g5 3 _ fun _ => rfl⟩
   have HQ3 := Keep.mk (HQ2.out.grown GS.out (fun k hk e => HQ2.out.ne HS2.out.n (by decide) (e ▸ hk)))
   have HO3 : Keep (G.1 = 0 → OwnO (w2.setCell ⟨g5, 3, none⟩ (.slice oa on oc)) (.slice oa on oc) G.2.2) := ⟨fun h => (HO2.out h).1.grown GS.out (fun k hk e => (HO2.out h).1.ne HS2.out.n (by decide) (e ▸ hk))⟩
   have HF3 : Keep (RfAt (w2.setCell ⟨g5, 3, none⟩ (.slice oa on oc)) x (.slice va l.length vc) G.2.1 G.1 b2) := ⟨GS.out.blk HRf.out (fun e => blk_ne HRf.out HS2.out.n (by decide) e)⟩
   have HB3 : Keep (Grown w1 (w2.setCell ⟨g5, 3, none⟩ (.slice oa on oc)) fun k => k = x ∨ k = g5) := ⟨(HG2.out.mono fun k _ e => .inl e).trans (GS.out.mono fun k _ e => .inr e)⟩
   generalize w2.setCell ⟨g5, 3, none⟩ (.slice oa on oc) = w3 at *
   clear HS2 HQ2 HO2 HRf GS HG2
   simp only [Act.put]
   refine WL.storeR (by kernel_rfl) 34 (.tmp 6) (.tmp 29) rfl g6 (erA W2 b2) rfl rfl 34 (erA 0 0) HS3.out.e (Tryz.size34B _ _) (erA_sizes _ _ _ _) (erA_one _ _) ?_
   have HS4 := Keep.mk (HS3.out.setE W2 b2)
   have GS : Keep (Grown w3 (w3.setRow g6 (erA W2 b2)) fun k => k = g6) := ⟨Grown.setRow w3 g6 _ fun _ => rfl⟩
   have HQ4 := Keep.mk (HQ3.out.grown GS.out (fun k hk e => HQ3.out.ne HS3.out.e (by decide) (e ▸ hk)))
   have HO4 : Keep (G.1 = 0 → OwnO (w3.setRow g6 (erA W2 b2)) (.slice oa on oc) G.2.2) := ⟨fun h => (HO3.out h).grown GS.out (fun k hk e => (HO3.out h).ne HS3.out.e (by decide) (e ▸ hk))⟩
   have HF4 : Keep (RfAt (w3.setRow g6 (erA W2 b2)) x (.slice va l.length vc) G.2.1 G.1 b2) := ⟨GS.out.blk HF3.out (fun e => blk_ne HF3.out HS3.out.e (by decide) e)⟩
   generalize w3.setRow g6 (erA W2 b2) = w4 at *
   have HX4 : Keep (G.1 = 0 → RX w x (.slice va l.length vc) l 0 G.2.1 w4) := ⟨fun h => ⟨by have q := HF4.out; rw [hb2.out, h] at q; exact q, hG.out ▸ getL_le HBy.out HX1.out.le (hG.out ▸ h), HX1.out.hx, HS4.out.bel, HR.out, HLn.out, HBy.out⟩⟩
   clear HS3 HQ3 HO3 HF3 GS HF4 HB3
   have e6 := HS4.out.e.c 0 (by rfl : (erA W2 b2)[0]? = some (.int .i64 W2))
   simp only [Act.put]
   refine WL.nil (hK9 _ _ ?_)
   refine wp_seq_k fun K10 hK10 => ?_
   refine wp_seq_k fun K11 hK11 => rgn ?_
   refine VlS (.pointer (some ⟨g6, 0, none⟩)) ?_
   refine VlS (.int .i64 W2) ?_
   by_cases h8_2 : W2 = 0
   ·skip
    refine VlS (.bool false) ?_
    refine WL.nil (hK11 _ _ ?_)
    refine wp_cond_false rfl ?_
    refine wp_skip ?_
    refine hK10 _ _ ?_
    refine wp_seq_k fun K12 hK12 => ?_
    refine wp_seq_k fun K13 hK13 => ?_
    have hG0 : G.1 = 0 := hW2.out ▸ h8_2
    have HX5 := Keep.mk (HX4.out hG0)
    have HO5 := Keep.mk (HO4.out hG0)
    have hb0 : b2 = 0 := by rw [hb2.out, hG0]; rfl
    rw [h8_2, hb0] at HS4
    clear hb0 HX4 HO4 e6
    obtain ⟨W3, hW3⟩ : ∃ z, Keep (z = stEnd l 0 G.2.1) := ⟨_, ⟨rfl⟩⟩
    obtain ⟨b3, hb3⟩ : ∃ z, Keep (z = bOf W3 G.2.1) := ⟨_, ⟨rfl⟩⟩
    have hE := xend_x HX5.out
    rw [← hW3.out, ← hb3.out] at hE
    refine rgn ?_
    refine VlS (.pointer (some ⟨x, 0, none⟩)) ?_
    refine WL.callF (by kernel_rfl) 31 _ _ rfl Tryz.in31 #[ptr x] (by simp [Act.eval]) ?_
    refine (hE).mono ?_
    rintro e w5 ⟨rfl, h2⟩
    refine ⟨_, rfl, ?_⟩
    have HS5 := Keep.mk (HS4.out.call HX5.out.blk HX5.out.hx h2)
    have HQ5 := Keep.mk (HQ4.out.grown h2 (fun k hk e => HQ4.out.ne HX5.out.blk (by decide) (e ▸ hk)))
    have HO6 := Keep.mk (HO5.out.grown h2 (fun k hk e => HO5.out.ne HX5.out.blk (by decide) (e ▸ hk)))
    clear h2 hE HS4 HQ4 HO5
    simp only [Act.put, pqA, pqB, pqC]
    refine WL.storeR (by kernel_rfl) 34 (.tmp 6) (.tmp 37) rfl g6 (erA W3 b3) rfl rfl 34 (erA 0 0) HS5.out.e (Tryz.size34B _ _) (erA_sizes _ _ _ _) (erA_one _ _) ?_
    have HS6 := Keep.mk (HS5.out.setE W3 b3)
    have GS : Keep (Grown w5 (w5.setRow g6 (erA W3 b3)) fun k => k = g6) := ⟨Grown.setRow w5 g6 _ fun _ => rfl⟩
    have HQ6 := Keep.mk (HQ5.out.grown GS.out (fun k hk e => HQ5.out.ne HS5.out.e (by decide) (e ▸ hk)))
    have HO7 := Keep.mk (HO6.out.grown GS.out (fun k hk e => HO6.out.ne HS5.out.e (by decide) (e ▸ hk)))
    generalize w5.setRow g6 (erA W3 b3) = w6 at *
    clear HS5 HQ5 HO6 GS
    have e6 := HS6.out.e.c 0 (by rfl : (erA W3 b3)[0]? = some (.int .i64 W3))
    simp only [Act.put]
    refine WL.nil (hK13 _ _ ?_)
    refine wp_seq_k fun K14 hK14 => rgn ?_
    refine VlS (.pointer (some ⟨g6, 0, none⟩)) ?_
    refine VlS (.int .i64 W3) ?_
    by_cases h11_2 : W3 = 0
    ·skip
     refine VlS (.bool false) ?_
     refine WL.nil (hK14 _ _ ?_)
     refine wp_cond_false rfl ?_
     refine wp_skip ?_
     refine hK12 _ _ ?_
     refine wp_seq_k fun K15 hK15 => rgn ?_
     refine WL.row (by kernel_rfl) 28 (.tmp 5) rfl g5 rfl 28 (ndA au ck (.slice pa pn pc) (.slice oa on oc)) _ HS6.out.n Tryz.underlying28 rfl (Tryz.size28B _ _ _ _) ?_
     simp only [Act.put, pqA, pqB, pqC]
     refine WL.bld (by kernel_rfl) 34 _ rfl [] (by simp) (erA 0 0) er_built0 ?_
     simp only [Act.put, pqA, pqB, pqC]
     refine WL.storeR (by kernel_rfl) 28 (.tmp 2) (.tmp 43) rfl g2 (ndA au ck (.slice pa pn pc) (.slice oa on oc)) rfl rfl 28 (ndA 0 0 noS noS) HS6.out.r2 (Tryz.size28B _ _ _ _) rfl (nd_one _ _ _ _ _ _ _ _) ?_
     simp only [Act.put]
     refine WL.storeR (by kernel_rfl) 34 (.tmp 3) (.tmp 44) rfl g3 (erA 0 0) rfl rfl 34 (erA 0 0) (HS6.out.r3.setRow_ne (blk_ne HS6.out.r3 HS6.out.r2 (by decide)) _) (Tryz.size34B _ _) (erA_sizes _ _ _ _) (erA_one _ _) ?_
     simp only [Act.put]
     refine WL.nil (hK15 _ _ ?_)
     refine wp_ret ?_
     refine bodyPost_ret (v := .tuple #[.agg (ndA au ck (.slice pa pn pc) (.slice oa on oc)), .agg (erA 0 0)]) (results_cell_cell_row Tryz.results7 _ _ g2 g3 28 34 _ _ (0, 0) (0, 0) _ _ rfl rfl ((HS6.out.r2.setRow _).setRow_ne (blk_ne HS6.out.r2 HS6.out.r3 (by decide)) _) ((HS6.out.r3.setRow_ne (blk_ne HS6.out.r3 HS6.out.r2 (by decide)) _).setRow _) Tryz.underlying28 rfl (Tryz.size28B _ _ _ _) Tryz.underlying34 rfl (Tryz.size34B _ _)) rfl ?_
     have h23 : ¬ G.2.1 < l.length := fun hz => by
      have h := hW3.out
      unfold stEnd at h
      rw [if_pos rfl, if_pos hz, h11_2] at h
      exact absurd h (by decide)
     have hdec : decR l = (0, G.2.1, ⟨R.2.2.au, R.2.2.ck, R.2.2.ps, G.2.2⟩) := by rw [decR_head, ← hR.out, if_neg (by simp [hR0]), ← hG.out, if_neg (by simp [hG0]), if_neg h23]
     refine .inl ⟨by omega, by rw [hdec], .slice pa pn pc, .slice oa on oc, ?_, ?_, ?_, HS6.out.end2 _ _⟩
     ·rw [hdec, HP2.out.1, HP2.out.2.1]
     ·rw [hdec]; exact HQ6.out.grown (two_grown' g2 g3 _ _) (fun k hk e => e.elim (fun e => HQ6.out.ne HS6.out.r2 (by decide) (e ▸ hk)) (fun e => HQ6.out.ne HS6.out.r3 (by decide) (e ▸ hk)))
     ·rw [hdec]; exact HO7.out.grown (two_grown' g2 g3 _ _) (fun k hk e => e.elim (fun e => HO7.out.ne HS6.out.r2 (by decide) (e ▸ hk)) (fun e => HO7.out.ne HS6.out.r3 (by decide) (e ▸ hk)))
    ·skip
     refine VlS (.bool true) ?_
     refine WL.nil (hK14 _ _ ?_)
     refine wp_cond_true rfl ?_
     refine wp_seq_k fun K16 hK16 => ?_
     have k2 := HS6.out.r2.drew
     have k3 := HS6.out.r3.drew
     have k6 := HS6.out.e.drew
     have n62 : g6 ≠ g2 := blk_ne k6 k2 (by decide)
     have n63 := HS6.out.n36
     refine wp_region_held_drew (S := fun wx => wx.rangeAt g6 0 (erA W3 b3).toList) (by kernel_rfl) (blk_range k6) (fun hHeld => ?_)
     refine tkS (i := 0) (oi := ⟨some 41, Op.build 28 #[], 28, _, _, none⟩) (v := .agg (ndA 0 0 noS noS)) rfl (yieldsIf_bld (by rfl) 28 _ rfl #[] (by simp) _ run_bldN0) hHeld ?_
     refine tkS (i := 1) (oi := ⟨some 42, Op.load 34 (Operand.tmp 6), 34, _, _, none⟩) (v := .agg (erA W3 b3)) rfl (yieldsIf_load_mid (by rfl) 34 (Operand.tmp 6) rfl g6 0 rfl (erA W3 b3).toList _ (fun w hS => hS) Tryz.underlying34 rfl (Tryz.size34B _ _)) hHeld ?_
     refine wpAnyH_ready (rs := [2]) (by kernel_rfl) (by simp) ?_
     refine AllReadyH.cons (o := ⟨none, Op.store 28 (Operand.tmp 2) (Operand.tmp 41), 0, _, _, none⟩) rfl (fun K hK => ?_) AllReadyH.nil
     rw [if_pos (by rfl)]
     refine wp_store_row 28 (.tmp 2) (.tmp 41) rfl g2 (ndA 0 0 noS noS) rfl rfl 28 (ndA 0 0 noS noS) k2 (Tryz.size28B _ _ _ _) rfl (nd_one 0 0 none 0 0 none 0 0) ?_
     refine hK.out _ _ (blk_range (k6.setRow_ne n62 _)) fun hH2 => ?_
     clear hK
     simp only [Act.put, pqA, pqB, pqC]
     refine wpAnyH_ready (rs := [3]) (by kernel_rfl) (by simp) ?_
     refine AllReadyH.cons (o := ⟨none, Op.store 34 (Operand.tmp 3) (Operand.tmp 42), 0, _, _, none⟩) rfl (fun K hK => ?_) AllReadyH.nil
     rw [if_pos (by rfl)]
     refine wp_store_row 34 (.tmp 3) (.tmp 42) rfl g3 (erA W3 b3) rfl rfl 34 (erA 0 0) (k3.setRow_ne (blk_ne k3 k2 (by decide)) _) (Tryz.size34B _ _) (erA_sizes _ _ _ _) (erA_one _ _) ?_
     refine hK.out _ _ (blk_range ((k6.setRow_ne n62 _).setRow_ne n63 _)) fun hH3 => ?_
     clear hK
     simp only [Act.put, pqA, pqB, pqC]
     refine wpAnyH_done (by kernel_rfl) ?_ _
     refine hK16 _ _ ?_
     refine wp_ret ?_
     refine bodyPost_ret (v := .tuple #[.agg (ndA 0 0 noS noS), .agg (erA W3 b3)]) (results_cell_cell_row Tryz.results7 _ _ g2 g3 28 34 _ _ (0, 0) (0, 0) _ _ rfl rfl ((k2.setRow _).setRow_ne (blk_ne k2 k3 (by decide)) _) ((k3.setRow_ne (blk_ne k3 k2 (by decide)) _).setRow _) Tryz.underlying28 rfl (Tryz.size28B _ _ _ _) Tryz.underlying34 rfl (Tryz.size34B _ _)) rfl ?_
     have h23 : W3 = 23 ∧ G.2.1 < l.length := by
      have h := hW3.out
      unfold stEnd at h
      rw [if_pos rfl] at h
      by_cases hz : G.2.1 < l.length
      ·exact ⟨by rw [h, if_pos hz], hz⟩
      ·rw [if_neg hz] at h; exact absurd h h11_2
     exact RDecP.bad h1_2 (by rw [decR_head, ← hR.out, if_neg (by simp [hR0]), ← hG.out, if_neg (by simp [hG0]), if_pos h23.2, ← h23.1]) h11_2 hb3.out (HS6.out.end2d _ _)
   ·skip
    refine VlS (.bool true) ?_
    refine WL.nil (hK11 _ _ ?_)
    refine wp_cond_true rfl ?_
    refine wp_seq_k fun K17 hK17 => ?_
    have k2 := HS4.out.r2.drew
    have k3 := HS4.out.r3.drew
    have k6 := HS4.out.e.drew
    have n62 : g6 ≠ g2 := blk_ne k6 k2 (by decide)
    have n63 := HS4.out.n36
    refine wp_region_held_drew (S := fun wx => wx.rangeAt g6 0 (erA W2 b2).toList) (by kernel_rfl) (blk_range k6) (fun hHeld => ?_)
    refine tkS (i := 0) (oi := ⟨some 34, Op.build 28 #[], 28, _, _, none⟩) (v := .agg (ndA 0 0 noS noS)) rfl (yieldsIf_bld (by rfl) 28 _ rfl #[] (by simp) _ run_bldN0) hHeld ?_
    refine tkS (i := 1) (oi := ⟨some 35, Op.load 34 (Operand.tmp 6), 34, _, _, none⟩) (v := .agg (erA W2 b2)) rfl (yieldsIf_load_mid (by rfl) 34 (Operand.tmp 6) rfl g6 0 rfl (erA W2 b2).toList _ (fun w hS => hS) Tryz.underlying34 rfl (Tryz.size34B _ _)) hHeld ?_
    refine wpAnyH_ready (rs := [2]) (by kernel_rfl) (by simp) ?_
    refine AllReadyH.cons (o := ⟨none, Op.store 28 (Operand.tmp 2) (Operand.tmp 34), 0, _, _, none⟩) rfl (fun K hK => ?_) AllReadyH.nil
    rw [if_pos (by rfl)]
    refine wp_store_row 28 (.tmp 2) (.tmp 34) rfl g2 (ndA 0 0 noS noS) rfl rfl 28 (ndA 0 0 noS noS) k2 (Tryz.size28B _ _ _ _) rfl (nd_one 0 0 none 0 0 none 0 0) ?_
    refine hK.out _ _ (blk_range (k6.setRow_ne n62 _)) fun hH2 => ?_
    clear hK
    simp only [Act.put, pqA, pqB, pqC]
    refine wpAnyH_ready (rs := [3]) (by kernel_rfl) (by simp) ?_
    refine AllReadyH.cons (o := ⟨none, Op.store 34 (Operand.tmp 3) (Operand.tmp 35), 0, _, _, none⟩) rfl (fun K hK => ?_) AllReadyH.nil
    rw [if_pos (by rfl)]
    refine wp_store_row 34 (.tmp 3) (.tmp 35) rfl g3 (erA W2 b2) rfl rfl 34 (erA 0 0) (k3.setRow_ne (blk_ne k3 k2 (by decide)) _) (Tryz.size34B _ _) (erA_sizes _ _ _ _) (erA_one _ _) ?_
    refine hK.out _ _ (blk_range ((k6.setRow_ne n62 _).setRow_ne n63 _)) fun hH3 => ?_
    clear hK
    simp only [Act.put, pqA, pqB, pqC]
    refine wpAnyH_done (by kernel_rfl) ?_ _
    refine hK17 _ _ ?_
    refine wp_ret ?_
    refine bodyPost_ret (v := .tuple #[.agg (ndA 0 0 noS noS), .agg (erA W2 b2)]) (results_cell_cell_row Tryz.results7 _ _ g2 g3 28 34 _ _ (0, 0) (0, 0) _ _ rfl rfl ((k2.setRow _).setRow_ne (blk_ne k2 k3 (by decide)) _) ((k3.setRow_ne (blk_ne k3 k2 (by decide)) _).setRow _) Tryz.underlying28 rfl (Tryz.size28B _ _ _ _) Tryz.underlying34 rfl (Tryz.size34B _ _)) rfl ?_
    exact RDecP.bad h1_2 (by rw [decR_head, ← hR.out, if_neg (by simp [hR0]), ← hG.out, if_pos (by rw [← hW2.out]; exact h8_2), ← hW2.out]) h8_2 (by rw [hb2.out, hW2.out]) (HS4.out.end2d _ _)
  ·skip
   refine VlS (.bool true) ?_
   refine WL.nil (hK8 _ _ ?_)
   refine wp_cond_true rfl ?_
   refine wp_seq_k fun K18 hK18 => ?_
   have k2 := HS1.out.r2.drew
   have k3 := HS1.out.r3.drew
   have k6 := HS1.out.e.drew
   have n62 : g6 ≠ g2 := blk_ne k6 k2 (by decide)
   have n63 := HS1.out.n36
   refine wp_region_held_drew (S := fun wx => wx.rangeAt g6 0 (erA W1 b1).toList) (by kernel_rfl) (blk_range k6) (fun hHeld => ?_)
   refine tkS (i := 0) (oi := ⟨some 23, Op.build 28 #[], 28, _, _, none⟩) (v := .agg (ndA 0 0 noS noS)) rfl (yieldsIf_bld (by rfl) 28 _ rfl #[] (by simp) _ run_bldN0) hHeld ?_
   refine tkS (i := 1) (oi := ⟨some 24, Op.load 34 (Operand.tmp 6), 34, _, _, none⟩) (v := .agg (erA W1 b1)) rfl (yieldsIf_load_mid (by rfl) 34 (Operand.tmp 6) rfl g6 0 rfl (erA W1 b1).toList _ (fun w hS => hS) Tryz.underlying34 rfl (Tryz.size34B _ _)) hHeld ?_
   refine wpAnyH_ready (rs := [2]) (by kernel_rfl) (by simp) ?_
   refine AllReadyH.cons (o := ⟨none, Op.store 28 (Operand.tmp 2) (Operand.tmp 23), 0, _, _, none⟩) rfl (fun K hK => ?_) AllReadyH.nil
   rw [if_pos (by rfl)]
   refine wp_store_row 28 (.tmp 2) (.tmp 23) rfl g2 (ndA 0 0 noS noS) rfl rfl 28 (ndA 0 0 noS noS) k2 (Tryz.size28B _ _ _ _) rfl (nd_one 0 0 none 0 0 none 0 0) ?_
   refine hK.out _ _ (blk_range (k6.setRow_ne n62 _)) fun hH2 => ?_
   clear hK
   simp only [Act.put, pqA, pqB, pqC]
   refine wpAnyH_ready (rs := [3]) (by kernel_rfl) (by simp) ?_
   refine AllReadyH.cons (o := ⟨none, Op.store 34 (Operand.tmp 3) (Operand.tmp 24), 0, _, _, none⟩) rfl (fun K hK => ?_) AllReadyH.nil
   rw [if_pos (by rfl)]
   refine wp_store_row 34 (.tmp 3) (.tmp 24) rfl g3 (erA W1 b1) rfl rfl 34 (erA 0 0) (k3.setRow_ne (blk_ne k3 k2 (by decide)) _) (Tryz.size34B _ _) (erA_sizes _ _ _ _) (erA_one _ _) ?_
   refine hK.out _ _ (blk_range ((k6.setRow_ne n62 _).setRow_ne n63 _)) fun hH3 => ?_
   clear hK
   simp only [Act.put, pqA, pqB, pqC]
   refine wpAnyH_done (by kernel_rfl) ?_ _
   refine hK18 _ _ ?_
   refine wp_ret ?_
   refine bodyPost_ret (v := .tuple #[.agg (ndA 0 0 noS noS), .agg (erA W1 b1)]) (results_cell_cell_row Tryz.results7 _ _ g2 g3 28 34 _ _ (0, 0) (0, 0) _ _ rfl rfl ((k2.setRow _).setRow_ne (blk_ne k2 k3 (by decide)) _) ((k3.setRow_ne (blk_ne k3 k2 (by decide)) _).setRow _) Tryz.underlying28 rfl (Tryz.size28B _ _ _ _) Tryz.underlying34 rfl (Tryz.size34B _ _)) rfl ?_
   exact RDecP.bad h1_2 (by rw [decR_head, ← hR.out, if_pos (by rw [← hW1.out]; exact h5_2), ← hW1.out]) h5_2 (by rw [hb1.out, hW1.out]) (HS1.out.end2d _ _)
theorem Tryz.in11 (w : World) (vs : Array Value) : (callFunc 11 vs).run Tryz.prog w = .ok (.enter 11 vs) w := by kernel_rfl
theorem Tryz.in34 (w : World) (vs : Array Value) : (callFunc 34 vs).run Tryz.prog w = .ok (.enter 34 vs) w := by kernel_rfl
theorem rof_any (v : Value) (l : List Int) (w : World) (h : RowAt w v l) (hl : l.length ≤ 1099511627776) (c : Nat → Int) (hc : Sh.shaP l = c) : Calls Tryz.prog 34 #[v] w fun e w' => e = .returned (.agg (bytesA 32 c)) ∧ Below w.heap.size w w' := by
 have := Sh.refOf_sha v l w h hl
 rw [hc] at this
 exact this
def REntP (l : List Int) (w : World) (e : Ending) (w' : World) : Prop :=
 (l.length ≤ 1048576 ∧ (decR l).1 = 0 ∧ ∃ vp vo, e = .returned (.tuple #[.agg (enA (Sh.shaP l) (ndA (decR l).2.2.au (decR l).2.2.ck vp vo)), .agg (erA 0 0)]) ∧ OwnH w' vp (decR l).2.2.ps ∧ OwnO w' vo (decR l).2.2.ops ∧ Below w.heap.size w w')
 ∨ ((1048576 < l.length ∨ (¬ 1048576 < l.length ∧ (decR l).1 ≠ 0)) ∧ e = .returned (.tuple #[.agg zEn, .agg (erA (badR l).1 ((badR l).2 : Int))]) ∧ Below w.heap.size w w')
theorem run_bldZ (w : World) : (Next.value <$> Instr.build 43 #[]).run Tryz.prog w = .ok (.value (.agg zEn)) w := by kernel_rfl
theorem badR_ne {l : List Int} (h : 1048576 < l.length ∨ (¬ 1048576 < l.length ∧ (decR l).1 ≠ 0)) : (badR l).1 ≠ 0 := by
 unfold badR
 rcases h with h | ⟨h, h2⟩
 ·rw [if_pos h]; decide
 ·rw [if_neg h]; exact h2
theorem zEn_one : zEn.all (·.oneCell') = true := enA_one _ 0 0 none 0 0 none 0 0
set_option maxRecDepth 8000 in
set_option maxHeartbeats 4000000 in
theorem rentry_any (v : Value) (l : List Int) (w : World) (hr : RowAt w v l) (hB : Byts l) (hl : l.length ≤ 140737488355328) : Calls Tryz.prog 11 #[v] w (REntP l w) := by
 obtain ⟨va, vc, rfl⟩ := row_form hr
 have HR := Keep.mk hr
 have HBy := Keep.mk hB
 have HLn := Keep.mk hl
 clear hr hB hl
 go_enter Tryz.func11, Tryz.ntmps11
 refine wp_seq_k fun K1 hK1 => rgn ?_
 refine WL.new (by kernel_rfl) 43 rfl _ Tryz.new43 ?_
 obtain ⟨ZE, hZE⟩ : ∃ ZE, Keep (ZE = zEn) := ⟨_, ⟨rfl⟩⟩
 rw [← hZE.out]
 have H2 := Keep.mk (Blk.new w 43 ZE)
 have B1 := Keep.mk (below_new w (.cells ZE 43))
 generalize w.alloc (.cells ZE 43) = wa at *
 obtain ⟨g2, hg2⟩ : ∃ g, Keep (g = w.heap.size) := ⟨_, ⟨rfl⟩⟩
 rw [← hg2.out] at H2 ⊢
 simp only [Act.put, pqA, pqB, pqC]
 refine WL.new (by kernel_rfl) 34 rfl _ Tryz.new34E ?_
 have H3 := Keep.mk (Blk.new wa 34 (erA 0 0))
 have H2b := Keep.mk (H2.out.alloc (.cells (erA 0 0) 34))
 have B2 : Keep (Below w.heap.size w (wa.alloc (.cells (erA 0 0) 34))) := ⟨B1.out.trans ((below_new wa _).mono B1.out.size)⟩
 generalize wa.alloc (.cells (erA 0 0) 34) = wb at *
 obtain ⟨g3, hg3⟩ : ∃ g, Keep (g = wa.heap.size) := ⟨_, ⟨rfl⟩⟩
 rw [← hg3.out] at H3 ⊢
 have hl3 : Keep (w.heap.size ≤ g3) := ⟨by rw [hg3.out]; exact B1.out.size⟩
 have hl2 : Keep (w.heap.size ≤ g2) := ⟨by rw [hg2.out]; exact Nat.le_refl _⟩
 clear H2 B1 hg3 hg2
 simp only [Act.put, pqA, pqB, pqC]
 refine WL.nil (hK1 _ _ ?_)
 refine wp_seq_k fun K2 hK2 => rgn ?_
 refine VlS (.slice va l.length vc) ?_
 refine WL.callF (by kernel_rfl) 7 _ _ rfl Tryz.in7 #[.slice va l.length vc] (by simp [Act.eval]) ?_
 refine (rdecode_any _ l wb (HR.out.below B2.out) HBy.out HLn.out).mono ?_
 rintro e wc (⟨h1, h2, vp, vo, rfl, h3, h4, hb2⟩ | ⟨h1, rfl, hb2⟩)
 ·refine ⟨_, rfl, ?_⟩
  have H1 := Keep.mk h1
  have HD := Keep.mk h2
  have HO := Keep.mk h3
  have HQ := Keep.mk h4
  clear h1 h2 h3 h4
  obtain ⟨pa, pc, rfl⟩ := HO.out.sl
  obtain ⟨qa, qc, rfl⟩ := HQ.out.sl
  obtain ⟨N, hN⟩ : ∃ N, Keep (N = (decR l).2.2) := ⟨_, ⟨rfl⟩⟩
  rw [← hN.out] at HO HQ ⊢
  simp only [Act.put, pqA, pqB, pqC]
  have BD := Keep.mk hb2
  clear hb2
  have H2c := Keep.mk (H2b.out.below BD.out H2b.out.lt)
  have H3c := Keep.mk (H3.out.below BD.out H3.out.lt)
  have B3 : Keep (Below w.heap.size w wc) := ⟨B2.out.trans (BD.out.mono B2.out.size)⟩
  clear H2b H3
  refine VlS (.tuple #[.agg (ndA N.au N.ck (.slice pa N.ps.length pc) (.slice qa N.ops.length qc)), .agg (erA 0 0)]) ?_
  refine VlS (.agg (ndA N.au N.ck (.slice pa N.ps.length pc) (.slice qa N.ops.length qc))) ?_
  refine VlS (.agg (erA 0 0)) ?_
  refine WL.new (by kernel_rfl) 28 rfl _ Tryz.new28N ?_
  have H4 := Keep.mk (Blk.new wc 28 (ndA 0 0 noS noS))
  have BA := Keep.mk (below_new wc (.cells (ndA 0 0 noS noS) 28))
  generalize wc.alloc (.cells (ndA 0 0 noS noS) 28) = we at *
  obtain ⟨g4, hg4⟩ : ∃ g, Keep (g = wc.heap.size) := ⟨_, ⟨rfl⟩⟩
  rw [← hg4.out] at H4 ⊢
  simp only [Act.put, pqA, pqB, pqC]
  refine WL.new (by kernel_rfl) 34 rfl _ Tryz.new34E ?_
  have H5 := Keep.mk (Blk.new we 34 (erA 0 0))
  have H4b := Keep.mk (H4.out.alloc (.cells (erA 0 0) 34))
  have BB : Keep (Below wc.heap.size wc (we.alloc (.cells (erA 0 0) 34))) := ⟨BA.out.trans ((below_new we _).mono BA.out.size)⟩
  generalize we.alloc (.cells (erA 0 0) 34) = wf at *
  obtain ⟨g5, hg5⟩ : ∃ g, Keep (g = we.heap.size) := ⟨_, ⟨rfl⟩⟩
  rw [← hg5.out] at H5 ⊢
  simp only [Act.put, pqA, pqB, pqC]
  refine WL.storeR (by kernel_rfl) 28 (.tmp 4) (.tmp 9) rfl g4 (ndA N.au N.ck (.slice pa N.ps.length pc) (.slice qa N.ops.length qc)) rfl rfl 28 (ndA 0 0 noS noS) H4b.out (Tryz.size28B _ _ _ _) rfl (nd_one _ _ _ _ _ _ _ _) ?_
  have H4c := Keep.mk (H4b.out.setRow (ndA N.au N.ck (.slice pa N.ps.length pc) (.slice qa N.ops.length qc)))
  have H5c := Keep.mk (H5.out.setRow_ne (b' := g4) (blk_ne H5.out H4b.out (by decide)) (ndA N.au N.ck (.slice pa N.ps.length pc) (.slice qa N.ops.length qc)))
  have BC := Keep.mk (below_setRow BB.out (b := g4) (by rw [hg4.out]; exact Nat.le_refl _) (ndA N.au N.ck (.slice pa N.ps.length pc) (.slice qa N.ops.length qc)))
  generalize wf.setRow g4 (ndA N.au N.ck (.slice pa N.ps.length pc) (.slice qa N.ops.length qc)) = wg at *
  clear H4 H4b H5 BB
  simp only [Act.put]
  refine WL.storeR (by kernel_rfl) 34 (.tmp 5) (.tmp 10) rfl g5 (erA 0 0) rfl rfl 34 (erA 0 0) H5c.out (Tryz.size34B _ _) (erA_sizes _ _ _ _) (erA_one _ _) ?_
  have H5d := Keep.mk (H5c.out.setRow (erA 0 0))
  have H4d := Keep.mk (H4c.out.setRow_ne (b' := g5) (blk_ne H4c.out H5c.out (by decide)) (erA 0 0))
  have BD2 := Keep.mk (below_setRow BC.out (b := g5) (by rw [hg5.out]; exact BA.out.size) (erA 0 0))
  have n53 : Keep (g5 ≠ g3) := ⟨fun e => by have h1 := H3c.out.lt; have h2 := hg5.out; have h3 := BA.out.size; omega⟩
  generalize wg.setRow g5 (erA 0 0) = w1 at *
  have B1 : Keep (Below w.heap.size w w1) := ⟨B3.out.trans (BD2.out.mono B3.out.size)⟩
  have H2d := Keep.mk (H2c.out.below BD2.out H2c.out.lt)
  have H3d := Keep.mk (H3c.out.below BD2.out H3c.out.lt)
  clear H4c H5c BC BA hg4 hg5 H2c H3c
  have e5 := H5d.out.c 0 (by rfl : (erA 0 0)[0]? = some (.int .i64 0))
  simp only [Act.put]
  refine WL.nil (hK2 _ _ ?_)
  refine wp_seq_k fun K3 hK3 => ?_
  refine wp_seq_k fun K4 hK4 => rgn ?_
  refine VlS (.pointer (some ⟨g5, 0, none⟩)) ?_
  refine VlS (.int .i64 0) ?_
  refine VlS (.bool false) ?_
  refine WL.nil (hK4 _ _ ?_)
  refine wp_cond_false rfl ?_
  refine wp_skip ?_
  refine hK3 _ _ ?_
  refine wp_seq_k fun K5 hK5 => ?_
  have hD0 : Below w1.heap.size w1 w1.drew := (Below.refl _ _).drew
  have HR1 : Keep (RowAt w1.drew (.slice va l.length vc) l) := ⟨HR.out.below (B1.out.drew)⟩
  clear e5
  obtain ⟨hc, hhc⟩ : ∃ hc, Keep (Sh.shaP l = hc) := ⟨_, ⟨rfl⟩⟩
  obtain ⟨EN, hEN⟩ : ∃ EN, Keep (EN = enA hc (ndA N.au N.ck (.slice pa N.ps.length pc) (.slice qa N.ops.length qc))) := ⟨_, ⟨rfl⟩⟩
  have HEs : Keep (EN.size = 36) := ⟨by rw [hEN.out]; exact enA_size _ _ _ _ _⟩
  have HEo : Keep (EN.all (·.oneCell') = true) := ⟨by rw [hEN.out]; exact enA_one _ _ _ _ _ _ _ _ _⟩
  have HEr : Keep (∀ w : World, (Next.value <$> Instr.build 43 #[(0, .agg (bytesA 32 hc)), (1, .agg (ndA N.au N.ck (.slice pa N.ps.length pc) (.slice qa N.ops.length qc)))]).run Tryz.prog w = .ok (.value (.agg EN)) w) := ⟨fun w => by rw [hEN.out]; exact run_bldEn _ _ _ _ _ w⟩
  have HS0 : Keep (∀ wx, Below w1.heap.size w1 wx → wx.rangeAt g4 0 (ndA N.au N.ck (.slice pa N.ps.length pc) (.slice qa N.ops.length qc)).toList ∧ wx.rangeAt g5 0 (erA 0 0).toList) := ⟨fun wx hb => ⟨blk_range (H4d.out.below hb H4d.out.lt), blk_range (H5d.out.below hb H5d.out.lt)⟩⟩
  refine wp_region_held_drew (S := fun wx => wx.rangeAt g4 0 (ndA N.au N.ck (.slice pa N.ps.length pc) (.slice qa N.ops.length qc)).toList ∧ wx.rangeAt g5 0 (erA 0 0).toList) (by kernel_rfl) (HS0.out _ hD0) (fun hHeld => ?_)
  refine tkS (i := 0) (oi := ⟨some 16, Op.move (Operand.tmp 0), 24, _, _, none⟩) (v := .slice va l.length vc) rfl (Or.inl ⟨by rfl, fun w hS => by go_simp⟩) hHeld ?_
  refine tkS (i := 2) (oi := ⟨some 18, Op.load 28 (Operand.tmp 4), 28, _, _, none⟩) (v := .agg (ndA N.au N.ck (.slice pa N.ps.length pc) (.slice qa N.ops.length qc))) rfl (yieldsIf_load_mid (by rfl) 28 (Operand.tmp 4) rfl g4 0 rfl (ndA N.au N.ck (.slice pa N.ps.length pc) (.slice qa N.ops.length qc)).toList _ (fun w hS => hS.1) Tryz.underlying28 rfl (Tryz.size28B _ _ _ _)) hHeld ?_
  refine tkS (i := 4) (oi := ⟨some 20, Op.load 34 (Operand.tmp 5), 34, _, _, none⟩) (v := .agg (erA 0 0)) rfl (yieldsIf_load_mid (by rfl) 34 (Operand.tmp 5) rfl g5 0 rfl (erA 0 0).toList _ (fun w hS => hS.2) Tryz.underlying34 rfl (Tryz.size34B _ _)) hHeld ?_
  refine wpAnyH_ready (rs := [1]) (by kernel_rfl) (by simp) ?_
  refine AllReadyH.cons (o := ⟨some 17, Op.call { callee := Callee.value (Operand.func 34), args := #[Operand.tmp 16], argTypes := #[24] }, 41, _, _, none⟩) rfl (fun K hK => ?_) AllReadyH.nil
  rw [if_pos (by rfl)]
  refine wp_callF 34 _ _ rfl Tryz.in34 #[.slice va l.length vc] (by simp [Act.eval]) (fun vz wz => vz = .agg (bytesA 32 hc) ∧ Below w1.heap.size w1 wz) ?_ ?_
  ·refine (rof_any _ l w1.drew HR1.out (by have := H1.out; omega) hc hhc.out).mono ?_
   rintro e wz ⟨rfl, h⟩
   exact ⟨_, rfl, rfl, hD0.trans (h.mono hD0.size)⟩
  rintro vz w7 ⟨rfl, h7⟩
  have HB7 := Keep.mk h7
  clear h7
  refine hK.out _ _ (HS0.out _ HB7.out) fun hHeld2 => ?_
  clear hK
  have k2 := H2d.out.below HB7.out H2d.out.lt
  have k3 := H3d.out.below HB7.out H3d.out.lt
  have k4 := H4d.out.below HB7.out H4d.out.lt
  have k5 := H5d.out.below HB7.out H5d.out.lt
  simp only [Act.put, pqA, pqB, pqC]
  refine tkS (i := 3) (oi := ⟨some 19, Op.build 43 #[(0, Operand.tmp 17), (1, Operand.tmp 18)], 43, _, _, none⟩) (v := .agg EN) rfl (yieldsIf_bld (by rfl) 43 _ rfl _ (by simp [Act.eval]) _ HEr.out) hHeld2 ?_
  refine wpAnyH_ready (rs := [5]) (by kernel_rfl) (by simp) ?_
  refine AllReadyH.cons (o := ⟨none, Op.store 43 (Operand.tmp 2) (Operand.tmp 19), 0, _, _, none⟩) rfl (fun K hK => ?_) AllReadyH.nil
  rw [if_pos (by rfl)]
  refine wp_store_row 43 (.tmp 2) (.tmp 19) rfl g2 EN rfl rfl 43 ZE k2 (by rw [HEs.out]; exact Tryz.size43) (by rw [hZE.out]; exact zEn_size.trans HEs.out.symm) HEo.out ?_
  refine hK.out _ _ ⟨blk_range (k4.setRow_ne (blk_ne k4 k2 (by decide)) _), blk_range (k5.setRow_ne (blk_ne k5 k2 (by decide)) _)⟩ fun hH3 => ?_
  clear hK
  simp only [Act.put, pqA, pqB, pqC]
  refine wpAnyH_ready (rs := [6]) (by kernel_rfl) (by simp) ?_
  refine AllReadyH.cons (o := ⟨none, Op.store 34 (Operand.tmp 3) (Operand.tmp 20), 0, _, _, none⟩) rfl (fun K hK => ?_) AllReadyH.nil
  rw [if_pos (by rfl)]
  refine wp_store_row 34 (.tmp 3) (.tmp 20) rfl g3 (erA 0 0) rfl rfl 34 (erA 0 0) (k3.setRow_ne (blk_ne k3 k2 (by decide)) _) (Tryz.size34B _ _) (erA_sizes _ _ _ _) (erA_one _ _) ?_
  refine hK.out _ _ ⟨blk_range ((k4.setRow_ne (blk_ne k4 k2 (by decide)) _).setRow_ne (blk_ne k4 k3 (by decide)) _), blk_range ((k5.setRow_ne (blk_ne k5 k2 (by decide)) _).setRow_ne n53.out _)⟩ fun hH4 => ?_
  clear hK
  simp only [Act.put, pqA, pqB, pqC]
  refine wpAnyH_done (by kernel_rfl) ?_ _
  refine hK5 _ _ ?_
  refine wp_ret ?_
  refine bodyPost_ret (v := .tuple #[.agg EN, .agg (erA 0 0)]) (results_cell_cell_row Tryz.results11 _ _ g2 g3 43 34 _ _ (0, 0) (0, 0) _ _ rfl rfl ((k2.setRow _).setRow_ne (blk_ne k2 k3 (by decide)) _) ((k3.setRow_ne (blk_ne k3 k2 (by decide)) _).setRow _) Tryz.underlying43 rfl (by rw [HEs.out]; exact Tryz.size43) Tryz.underlying34 rfl (Tryz.size34B _ _)) rfl ?_
  have B7 : Below w.heap.size w w7 := B1.out.trans (HB7.out.mono B1.out.size)
  have O7 := (HO.out.below BD2.out).below HB7.out
  have Q7 := (HQ.out.below BD2.out).below HB7.out
  refine .inl ⟨H1.out, HD.out, .slice pa N.ps.length pc, .slice qa N.ops.length qc, by rw [hEN.out, ← hN.out, hhc.out], ?_, ?_, below_setRow (below_setRow B7 hl2.out _) hl3.out _⟩
  ·rw [← hN.out]; exact O7.grown (two_grown' g2 g3 _ _) (fun k hk e => e.elim (fun e => O7.ne k2 (by decide) (e ▸ hk)) (fun e => O7.ne k3 (by decide) (e ▸ hk)))
  ·rw [← hN.out]; exact Q7.grown (two_grown' g2 g3 _ _) (fun k hk e => e.elim (fun e => Q7.ne k2 (by decide) (e ▸ hk)) (fun e => Q7.ne k3 (by decide) (e ▸ hk)))
 ·refine ⟨_, rfl, ?_⟩
  have H1 := Keep.mk h1
  clear h1
  have hbn := badR_ne H1.out
  obtain ⟨W1, hW1⟩ : ∃ z, Keep (z = (badR l).1) := ⟨_, ⟨rfl⟩⟩
  obtain ⟨b1, hb1⟩ : ∃ z : Int, Keep (z = ((badR l).2 : Int)) := ⟨_, ⟨rfl⟩⟩
  rw [← hW1.out] at hbn
  rw [← hW1.out, ← hb1.out]
  simp only [Act.put, pqA, pqB, pqC]
  have BD := Keep.mk hb2
  clear hb2
  have H2c := Keep.mk (H2b.out.below BD.out H2b.out.lt)
  have H3c := Keep.mk (H3.out.below BD.out H3.out.lt)
  have B3 : Keep (Below w.heap.size w wc) := ⟨B2.out.trans (BD.out.mono B2.out.size)⟩
  clear H2b H3
  refine VlS (.tuple #[.agg (ndA 0 0 noS noS), .agg (erA W1 b1)]) ?_
  refine VlS (.agg (ndA 0 0 noS noS)) ?_
  refine VlS (.agg (erA W1 b1)) ?_
  refine WL.new (by kernel_rfl) 28 rfl _ Tryz.new28N ?_
  have H4 := Keep.mk (Blk.new wc 28 (ndA 0 0 noS noS))
  have BA := Keep.mk (below_new wc (.cells (ndA 0 0 noS noS) 28))
  generalize wc.alloc (.cells (ndA 0 0 noS noS) 28) = we at *
  obtain ⟨g4, hg4⟩ : ∃ g, Keep (g = wc.heap.size) := ⟨_, ⟨rfl⟩⟩
  rw [← hg4.out] at H4 ⊢
  simp only [Act.put, pqA, pqB, pqC]
  refine WL.new (by kernel_rfl) 34 rfl _ Tryz.new34E ?_
  have H5 := Keep.mk (Blk.new we 34 (erA 0 0))
  have H4b := Keep.mk (H4.out.alloc (.cells (erA 0 0) 34))
  have BB : Keep (Below wc.heap.size wc (we.alloc (.cells (erA 0 0) 34))) := ⟨BA.out.trans ((below_new we _).mono BA.out.size)⟩
  generalize we.alloc (.cells (erA 0 0) 34) = wf at *
  obtain ⟨g5, hg5⟩ : ∃ g, Keep (g = we.heap.size) := ⟨_, ⟨rfl⟩⟩
  rw [← hg5.out] at H5 ⊢
  simp only [Act.put, pqA, pqB, pqC]
  refine WL.storeR (by kernel_rfl) 28 (.tmp 4) (.tmp 9) rfl g4 (ndA 0 0 noS noS) rfl rfl 28 (ndA 0 0 noS noS) H4b.out (Tryz.size28B _ _ _ _) rfl (nd_one 0 0 none 0 0 none 0 0) ?_
  have H4c := Keep.mk (H4b.out.setRow (ndA 0 0 noS noS))
  have H5c := Keep.mk (H5.out.setRow_ne (b' := g4) (blk_ne H5.out H4b.out (by decide)) (ndA 0 0 noS noS))
  have BC := Keep.mk (below_setRow BB.out (b := g4) (by rw [hg4.out]; exact Nat.le_refl _) (ndA 0 0 noS noS))
  generalize wf.setRow g4 (ndA 0 0 noS noS) = wg at *
  clear H4 H4b H5 BB
  simp only [Act.put]
  refine WL.storeR (by kernel_rfl) 34 (.tmp 5) (.tmp 10) rfl g5 (erA W1 b1) rfl rfl 34 (erA 0 0) H5c.out (Tryz.size34B _ _) (erA_sizes _ _ _ _) (erA_one _ _) ?_
  have H5d := Keep.mk (H5c.out.setRow (erA W1 b1))
  have H4d := Keep.mk (H4c.out.setRow_ne (b' := g5) (blk_ne H4c.out H5c.out (by decide)) (erA W1 b1))
  have BD2 := Keep.mk (below_setRow BC.out (b := g5) (by rw [hg5.out]; exact BA.out.size) (erA W1 b1))
  have n53 : Keep (g5 ≠ g3) := ⟨fun e => by have h1 := H3c.out.lt; have h2 := hg5.out; have h3 := BA.out.size; omega⟩
  generalize wg.setRow g5 (erA W1 b1) = w1 at *
  have B1 : Keep (Below w.heap.size w w1) := ⟨B3.out.trans (BD2.out.mono B3.out.size)⟩
  have H2d := Keep.mk (H2c.out.below BD2.out H2c.out.lt)
  have H3d := Keep.mk (H3c.out.below BD2.out H3c.out.lt)
  clear H4c H5c BC BA hg4 hg5 H2c H3c
  have e5 := H5d.out.c 0 (by rfl : (erA W1 b1)[0]? = some (.int .i64 W1))
  simp only [Act.put]
  refine WL.nil (hK2 _ _ ?_)
  refine wp_seq_k fun K6 hK6 => ?_
  refine wp_seq_k fun K7 hK7 => rgn ?_
  refine VlS (.pointer (some ⟨g5, 0, none⟩)) ?_
  refine VlS (.int .i64 W1) ?_
  refine VlS (.bool true) ?_
  refine WL.nil (hK7 _ _ ?_)
  refine wp_cond_true rfl ?_
  refine wp_seq_k fun K8 hK8 => ?_
  clear e5
  have k2 := H2d.out.drew
  have k3 := H3d.out.drew
  have k5 := H5d.out.drew
  have n52 : g5 ≠ g2 := blk_ne k5 k2 (by decide)
  refine wp_region_held_drew (S := fun wx => wx.rangeAt g5 0 (erA W1 b1).toList) (by kernel_rfl) (blk_range k5) (fun hHeld => ?_)
  refine tkS (i := 0) (oi := ⟨some 14, Op.build 43 #[], 43, _, _, none⟩) (v := .agg ZE) rfl (yieldsIf_bld (by rfl) 43 _ rfl #[] (by simp) (.agg ZE) (fun w => by rw [hZE.out]; exact run_bldZ w)) hHeld ?_
  refine tkS (i := 1) (oi := ⟨some 15, Op.load 34 (Operand.tmp 5), 34, _, _, none⟩) (v := .agg (erA W1 b1)) rfl (yieldsIf_load_mid (by rfl) 34 (Operand.tmp 5) rfl g5 0 rfl (erA W1 b1).toList _ (fun w hS => hS) Tryz.underlying34 rfl (Tryz.size34B _ _)) hHeld ?_
  refine wpAnyH_ready (rs := [2]) (by kernel_rfl) (by simp) ?_
  refine AllReadyH.cons (o := ⟨none, Op.store 43 (Operand.tmp 2) (Operand.tmp 14), 0, _, _, none⟩) rfl (fun K hK => ?_) AllReadyH.nil
  rw [if_pos (by rfl)]
  refine wp_store_row 43 (.tmp 2) (.tmp 14) rfl g2 ZE rfl rfl 43 ZE k2 (by rw [hZE.out, zEn_size]; exact Tryz.size43) rfl (by rw [hZE.out]; exact zEn_one) ?_
  refine hK.out _ _ (blk_range (k5.setRow_ne n52 _)) fun hH2 => ?_
  clear hK
  simp only [Act.put, pqA, pqB, pqC]
  refine wpAnyH_ready (rs := [3]) (by kernel_rfl) (by simp) ?_
  refine AllReadyH.cons (o := ⟨none, Op.store 34 (Operand.tmp 3) (Operand.tmp 15), 0, _, _, none⟩) rfl (fun K hK => ?_) AllReadyH.nil
  rw [if_pos (by rfl)]
  refine wp_store_row 34 (.tmp 3) (.tmp 15) rfl g3 (erA W1 b1) rfl rfl 34 (erA 0 0) (k3.setRow_ne (blk_ne k3 k2 (by decide)) _) (Tryz.size34B _ _) (erA_sizes _ _ _ _) (erA_one _ _) ?_
  refine hK.out _ _ (blk_range ((k5.setRow_ne n52 _).setRow_ne n53.out _)) fun hH3 => ?_
  clear hK
  simp only [Act.put, pqA, pqB, pqC]
  refine wpAnyH_done (by kernel_rfl) ?_ _
  refine hK8 _ _ ?_
  refine wp_ret ?_
  refine bodyPost_ret (v := .tuple #[.agg ZE, .agg (erA W1 b1)]) (results_cell_cell_row Tryz.results11 _ _ g2 g3 43 34 _ _ (0, 0) (0, 0) _ _ rfl rfl ((k2.setRow _).setRow_ne (blk_ne k2 k3 (by decide)) _) ((k3.setRow_ne (blk_ne k3 k2 (by decide)) _).setRow _) Tryz.underlying43 rfl (by rw [hZE.out, zEn_size]; exact Tryz.size43) Tryz.underlying34 rfl (Tryz.size34B _ _)) rfl ?_
  exact .inr ⟨H1.out, by rw [hZE.out, hW1.out, hb1.out], below_setRow (below_setRow B1.out.drew hl2.out _) hl3.out _⟩
set_option maxRecDepth 8000 in
theorem sameEntry_eq (c : Nat → Int) (N : NodeV) (vp vo vq vr : Value) (w : World) (hA : NdAt w N vp vo) (hB : NdAt w N vq vr) : Calls Tryz.prog 12 #[.agg (enA c (ndA N.au N.ck vp vo)), .agg (enA c (ndA N.au N.ck vq vr))] w fun e w' => e = .returned (.bool true) ∧ Below w.heap.size w w' := by
 have HA := Keep.mk hA
 have HB := Keep.mk hB
 clear hA hB
 go_enter Tryz.func12, Tryz.ntmps12
 refine wp_seq_k fun K1 hK1 => rgn ?_
 refine WL.box (by kernel_rfl) 43 (.tmp 0) rfl _ rfl ?_
 have HX0 := Keep.mk (Blk.new w 43 (enA c (ndA N.au N.ck vp vo)))
 have B0 := Keep.mk (below_new w (.cells (enA c (ndA N.au N.ck vp vo)) 43))
 generalize w.alloc (.cells (enA c (ndA N.au N.ck vp vo)) 43) = w1 at *
 simp only [Act.put, pqA, pqB, pqC]
 refine WL.box (by kernel_rfl) 43 (.tmp 1) rfl _ rfl ?_
 have HXa := Keep.mk (HX0.out.alloc (.cells (enA c (ndA N.au N.ck vq vr)) 43))
 have HXb := Keep.mk (Blk.new w1 43 (enA c (ndA N.au N.ck vq vr)))
 have B2 : Keep (Below w.heap.size w (w1.alloc (.cells (enA c (ndA N.au N.ck vq vr)) 43))) := ⟨B0.out.trans ((below_new w1 _).mono B0.out.size)⟩
 generalize w1.alloc (.cells (enA c (ndA N.au N.ck vq vr)) 43) = w2 at *
 have hea := eqlA c
 simp only [Act.put, pqA, pqB, pqC]
 refine VlS (.bool false) ?_
 refine WL.nil (hK1 _ _ ?_)
 refine wp_seq_k fun K2 hK2 => rgn ?_
 refine VlS (.pointer (some ⟨w.heap.size, 0, none⟩)) ?_
 refine WL.mid (by kernel_rfl) 41 (.tmp 5) rfl w.heap.size 0 rfl (bytesA 32 c).toList _ (en_range HXa.out).1 Tryz.underlying41 rfl (by rw [Array.length_toList]; exact Tryz.size41B _) ?_
 rw [bytesA_list]
 simp only [Act.put, pqA, pqB, pqC]
 refine VlS (.pointer (some ⟨w1.heap.size, 0, none⟩)) ?_
 refine WL.mid (by kernel_rfl) 41 (.tmp 7) rfl w1.heap.size 0 rfl (bytesA 32 c).toList _ (en_range HXb.out).1 Tryz.underlying41 rfl (by rw [Array.length_toList]; exact Tryz.size41B _) ?_
 rw [bytesA_list]
 simp only [Act.put, pqA, pqB, pqC]
 refine VlS (.bool true) ?_
 refine VlS (.bool true) ?_
 refine VlS (.pointer (some ⟨w.heap.size, 32, none⟩)) ?_
 refine WL.mid (by kernel_rfl) 28 (.tmp 11) rfl w.heap.size 32 rfl (ndA N.au N.ck vp vo).toList _ (en_range HXa.out).2 Tryz.underlying28 rfl (Tryz.size28B _ _ _ _) ?_
 rw [nd_back]
 simp only [Act.put, pqA, pqB, pqC]
 refine VlS (.pointer (some ⟨w1.heap.size, 32, none⟩)) ?_
 refine WL.mid (by kernel_rfl) 28 (.tmp 13) rfl w1.heap.size 32 rfl (ndA N.au N.ck vq vr).toList _ (en_range HXb.out).2 Tryz.underlying28 rfl (Tryz.size28B _ _ _ _) ?_
 rw [nd_back]
 simp only [Act.put, pqA, pqB, pqC]
 refine WL.callF (by kernel_rfl) 9 _ _ rfl Tryz.in9 #[.agg (ndA N.au N.ck vp vo), .agg (ndA N.au N.ck vq vr)] (by simp [Act.eval]) ?_
 refine (rsame_node N N vp vo vq vr w2 (HA.out.below B2.out) (HB.out.below B2.out)).mono ?_
 rintro e w3 ⟨rfl, hb3⟩
 refine ⟨_, rfl, ?_⟩
 rw [sameN_refl]
 simp only [Act.put, pqA, pqB, pqC]
 refine VlS (.bool true) ?_
 refine VlS (.bool true) ?_
 refine WL.nil (hK2 _ _ ?_)
 refine wp_ret ?_
 go_ret
 exact ⟨rfl, B2.out.trans (hb3.mono B2.out.size)⟩
theorem dec_go {L : List Int} (h1 : (formR L 0).1 = 0) (h2 : (auR L 1).1 = 0) (h3 : (ckR L 2).1 = 0) (h4 : (fstM (L.drop (ckR L 2).2) 64).2.2 = 0) (h5 : (((fstM (L.drop 2) 4096).1 == 1) == ((fstM (L.drop (ckR L 2).2) 64).1 == 0)) = true) (H : Int × Nat × List Hs) (hH : getH L (fstM (L.drop (ckR L 2).2) 64).1.toNat [] ((ckR L 2).2 + (fstM (L.drop (ckR L 2).2) 64).2.1.toNat) = H) :
  decR L = if H.1 ≠ 0 then (H.1, H.2.1, zeroN) else if (getL L H.2.1).1 ≠ 0 then ((getL L H.2.1).1, (getL L H.2.1).2.1, zeroN) else if (getL L H.2.1).2.1 < L.length then (23, (getL L H.2.1).2.1, zeroN) else (0, (getL L H.2.1).2.1, ⟨(L.drop 1).getD 0 0, (fstM (L.drop 2) 4096).1, H.2.2, (getL L H.2.1).2.2⟩) := by
 subst hH
 unfold decR
 rw [if_neg (by simp [h1]), if_neg (by simp [h2]), if_neg (by simp [h3]), if_neg (by simp [h4]), if_neg (by rw [h5]; decide)]
theorem rises_snoc {P : List Hs} {x : Hs} (h : Sh.risesB P = true) (hx : ¬ (0 < P.length ∧ 0 ≤ Sh.cf (P.getD (P.length - 1) default) x)) : Sh.risesB (P ++ [x]) = true := by
 rw [Sh.risesB_iff] at h ⊢
 intro i hi
 rw [List.length_append, List.length_singleton] at hi
 by_cases h1 : i + 1 < P.length
 ·have := h i h1
  rwa [show (P ++ [x]).getD i default = P.getD i default by rw [List.getD_eq_getElem?_getD, List.getD_eq_getElem?_getD, List.getElem?_append_left (by omega)], show (P ++ [x]).getD (i + 1) default = P.getD (i + 1) default by rw [List.getD_eq_getElem?_getD, List.getD_eq_getElem?_getD, List.getElem?_append_left (by omega)]]
 ·have hi2 : i = P.length - 1 := by omega
  subst hi2
  rw [show (P ++ [x]).getD (P.length - 1) default = P.getD (P.length - 1) default by rw [List.getD_eq_getElem?_getD, List.getD_eq_getElem?_getD, List.getElem?_append_left (by omega)], show (P ++ [x]).getD (P.length - 1 + 1) default = x by rw [show P.length - 1 + 1 = P.length by omega, List.getD_eq_getElem?_getD, List.getElem?_append_right (Nat.le_refl _)]; simp]
  apply Classical.byContradiction
  intro hn
  exact hx ⟨by omega, by omega⟩
theorem getH_back {L : List Int} (hB : Byts L) : ∀ (n : Nat) (P : List Hs) (a : Nat), Sh.risesB P = true → (getH L n P a).1 = 0 → ∃ (Q : List Hs) (r : List Int), Q.length = n ∧ Sh.risesB (P ++ Q) = true ∧ L.drop a = Q.flatMap Go.Proofs.YtdeiicldfgkidaaGreat.hB ++ r ∧ getH L n P a = (0, a + (Q.flatMap Go.Proofs.YtdeiicldfgkidaaGreat.hB).length, P ++ Q)
 | 0, P, a, hP, _ => ⟨[], L.drop a, rfl, by simpa using hP, by simp, by simp [getH]⟩
 | n + 1, P, a, hP, h => by
  rw [getH] at h ⊢
  by_cases h0 : nextW (L.drop a) 32 = 0
  ·rw [if_neg (by simp [h0])] at h ⊢
   by_cases h1 : 0 < P.length ∧ 0 ≤ Sh.cf (P.getD (P.length - 1) default) (hs ((L.drop a).take 32))
   ·rw [if_pos h1] at h; cases h
   ·rw [if_neg h1] at h ⊢
    have hN := nextN_0 _ _ h0
    have hlen : ((L.drop a).take 32).length = 32 := by rw [List.length_take]; have := hN.2.2; omega
    obtain ⟨Q, r, h2, h3, h4, h5⟩ := getH_back hB n _ (a + 32) (rises_snoc hP h1) h
    have hb := hB_hs _ hlen ((hB.drop a).take 32)
    refine ⟨hs ((L.drop a).take 32) :: Q, r, by simp [h2], by simpa using h3, ?_, ?_⟩
    ·rw [List.flatMap_cons, hb, List.append_assoc, ← h4, ← List.drop_drop, List.take_append_drop]
    ·rw [h5, List.flatMap_cons, List.length_append, hB_len]; simp only [List.append_assoc, List.cons_append, List.nil_append, Prod.mk.injEq, true_and, and_true]; omega
  ·rw [if_pos h0] at h; exact absurd h h0
theorem one_back {L : List Int} {a : Nat} (h : nextW (L.drop a) 1 = 0) : L.drop a = (L.drop a).getD 0 0 :: L.drop (a + 1) := by
 cases hd : L.drop a with
 | nil => rw [hd] at h; exact absurd h (by decide)
 | cons c D => rw [← List.drop_drop, hd]; rfl
theorem formR_back {L : List Int} {a : Nat} (h : (formR L a).1 = 0) : L.drop a = 1 :: L.drop (a + 1) := by
 unfold formR at h
 by_cases h0 : nextW (L.drop a) 1 = 0
 ·rw [if_neg (by simp [h0])] at h
  by_cases h1 : (L.drop a).getD 0 0 = 1
  ·have := one_back h0; rwa [h1] at this
  ·rw [if_neg h1] at h; cases h
 ·rw [if_pos h0] at h; exact absurd h h0
theorem auR_back {L : List Int} {a : Nat} (h : (auR L a).1 = 0) : L.drop a = (L.drop a).getD 0 0 :: L.drop (a + 1) ∧ 1 ≤ (L.drop a).getD 0 0 ∧ (L.drop a).getD 0 0 ≤ 8 := by
 unfold auR at h
 by_cases h0 : nextW (L.drop a) 1 = 0
 ·rw [if_neg (by simp [h0])] at h
  by_cases h1 : 1 ≤ (L.drop a).getD 0 0 ∧ (L.drop a).getD 0 0 ≤ 8
  ·exact ⟨one_back h0, h1⟩
  ·rw [if_neg h1] at h; cases h
 ·rw [if_pos h0] at h; exact absurd h h0
theorem ckR_back {L : List Int} {a : Nat} (hB : Byts L) (h : (ckR L a).1 = 0) : ∃ (n : Nat) (r : List Int), 1 ≤ n ∧ n ≤ 4096 ∧ L.drop a = numL n ++ r ∧ (fstM (L.drop a) 4096).1 = n ∧ (ckR L a).2 = a + (numL n).length := by
 unfold ckR at h ⊢
 by_cases h0 : (fstM (L.drop a) 4096).2.2 = 0
 ·obtain ⟨n, h1, h2, h3, h4, r, h5⟩ := fst_form _ _ (hB.drop a) h0
  rw [if_neg (by simp [h0])] at h ⊢
  by_cases hz : (fstM (L.drop a) 4096).1 = 0
  ·rw [if_pos hz] at h; cases h
  ·rw [if_neg hz] at h ⊢
   exact ⟨n, r, by rw [h3] at hz; omega, by omega, h5, h3, by rw [h4, Int.toNat_natCast]⟩
 ·rw [if_pos h0] at h; exact absurd h h0
theorem decR_back {L : List Int} (hB : Byts L) (h : (decR L).1 = 0) : chkN (decR L).2.2 = 0 ∧ blkL (decR L).2.2 = L ∧ (∀ x ∈ (decR L).2.2.ops, OpOk x) := by
 have h1 : (formR L 0).1 = 0 := Classical.byContradiction fun hn => by unfold decR at h; rw [if_pos hn] at h; exact hn h
 have h2 : (auR L 1).1 = 0 := Classical.byContradiction fun hn => by unfold decR at h; rw [if_neg (by simp [h1]), if_pos hn] at h; exact hn h
 have h3 : (ckR L 2).1 = 0 := Classical.byContradiction fun hn => by unfold decR at h; rw [if_neg (by simp [h1]), if_neg (by simp [h2]), if_pos hn] at h; exact hn h
 have h4 : (fstM (L.drop (ckR L 2).2) 64).2.2 = 0 := Classical.byContradiction fun hn => by unfold decR at h; rw [if_neg (by simp [h1]), if_neg (by simp [h2]), if_neg (by simp [h3]), if_pos hn] at h; exact hn h
 have h5 : (((fstM (L.drop 2) 4096).1 == 1) == ((fstM (L.drop (ckR L 2).2) 64).1 == 0)) = true := by
  cases hf : (((fstM (L.drop 2) 4096).1 == 1) == ((fstM (L.drop (ckR L 2).2) 64).1 == 0)) with
  | true => rfl
  | false => unfold decR at h; rw [if_neg (by simp [h1]), if_neg (by simp [h2]), if_neg (by simp [h3]), if_neg (by simp [h4]), if_pos hf] at h; cases h
 have b1 := formR_back h1
 have b2 := auR_back h2
 obtain ⟨n, r, n1, n2, b3, b4, b5⟩ := ckR_back hB h3
 obtain ⟨k, _, k2, k3, k4, r2, k5⟩ := fst_form _ _ (hB.drop _) h4
 have hg := dec_go h1 h2 h3 h4 h5 _ rfl
 rw [hg] at h ⊢
 rw [k3, k4, Int.toNat_natCast, Int.toNat_natCast] at h ⊢
 rw [k3, b4] at h5
 rw [b5] at k5 h ⊢
 generalize hH : getH L k [] (2 + (numL n).length + (numL k).length) = H at h ⊢
 by_cases hh : H.1 = 0
 ·obtain ⟨Q, r3, q1, q2, q3, q4⟩ := getH_back hB k [] _ (by decide) (by rw [hH]; exact hh)
  rw [hH] at q4
  rw [if_neg (by simp [hh])] at h ⊢
  rw [q4] at h ⊢
  simp only [List.nil_append] at h q2 ⊢
  by_cases hG : (getL L (2 + (numL n).length + (numL k).length + (Q.flatMap Go.Proofs.YtdeiicldfgkidaaGreat.hB).length)).1 = 0
  ·obtain ⟨l, r4, g1, g2, g3, g4⟩ := getL_back hB hG
   rw [if_neg (fun e => e hG)] at h ⊢
   rw [g4] at h ⊢
   simp only at h ⊢
   by_cases hr : 2 + (numL n).length + (numL k).length + (Q.flatMap Go.Proofs.YtdeiicldfgkidaaGreat.hB).length + (formL l).length < L.length
   ·rw [if_pos hr] at h; cases h
   ·rw [if_neg hr]
    have c2 := drop_next b3
    rw [k5] at c2
    have c3 := drop_next (L := L) (a := 2 + (numL n).length) k5
    have c4 := drop_next q3
    rw [g3] at c4
    have hr4 : r4 = [] := by
     have := drop_next g3
     rw [List.drop_of_length_le (by omega)] at this
     exact this.symm
    have hc : headE ⟨(L.drop 1).getD 0 0, (fstM (L.drop 2) 4096).1, Q, l⟩ = 0 := by
     unfold headE
     simp only
     rw [if_neg (by simpa using b2.2), b4, if_neg (by
      rintro (e | e | e)
      ·omega
      ·omega
      ·rw [q1, h5] at e; cases e), if_neg (by
      rintro (e | e)
      ·omega
      ·rw [q2] at e; cases e)]
    refine ⟨by rw [chkN_is hc]; exact g2, ?_, g1⟩
    have hL : L = 1 :: (L.drop 1).getD 0 0 :: L.drop 2 := by
     have := b1
     rw [b2.1] at this
     simpa using this
    conv => rhs; rw [hL, b3, ← c2, ← c3, q3, ← c4, hr4]
    simp [blkL, headL, b4, q1]
  ·rw [if_pos hG] at h; exact absurd h hG
 ·rw [if_pos hh] at h; exact absurd h hh
end Go.Proofs.YtdeiicldfgkidaaGreat
namespace Go.Proofs.YtdeiicldfgkidaaGreat
open Go.ChangeShapes Go.WideShapes Go.ChangeAt Go.RowKit Go.Deep

theorem Tryz.cellsOf24 : Tryz.prog.cellsOf 24 = 1 := by kernel_rfl
theorem Tryz.cellsOf5 : Tryz.prog.cellsOf 5 = 1 := by kernel_rfl
theorem Tryz.bytesOf5 : Tryz.prog.bytesOf 5 = 1 := by kernel_rfl
theorem reach_is : reachBytes = 140737488351232 := by decide
theorem add_none' (b o i : Nat) : (⟨b, o, none⟩ : Addr).add i = ⟨b, o + i, none⟩ := by
 cases i with
 | zero => rfl
 | succ i => rfl
theorem mem_weightsAll {H : Type} {P : Program} {e : TypeId} {d : DataW H} : ∀ {ds : List (DataW H)}, d ∈ ds → ∀ n ∈ d.weights P e, n ∈ DataW.weightsAll P e ds
 | d0 :: ds, h, n, hn => by
  simp only [DataW.weightsAll, List.mem_append]
  rcases List.mem_cons.1 h with rfl | h
  ·exact .inl hn
  ·exact .inr (mem_weightsAll h n hn)
theorem wf_u8 {n : Int} (h : (Lit.int .u8 n).wf = true) : 0 ≤ n ∧ n < 256 := by
 have h1 : IntKind.u8.min = 0 := by decide
 have h2 : IntKind.u8.max = 255 := by decide
 simp only [Lit.wf, h1, h2, Bool.and_eq_true, decide_eq_true_eq] at h
 omega

theorem row_of_trod {H : Type} {enc : TypeId × Value → H} {W : World} {sp : Nat → Bool} {held : Bool} {n base : Nat} {v : Value} {x : DataW H × List MemPlace} (hf : DataW.trod enc Tryz.prog W base sp held n 24 [v] = some x) (hw : ∀ n ∈ x.1.weights Tryz.prog 24, n ≤ reachBytes) :
  ∃ l : List Int, RowAt W v l ∧ Byts l ∧ l.length ≤ 140737488351232 := by
 rcases open_ints Tryz.underlying24 Tryz.underlying5 Tryz.cellsOf5 hf with ⟨hcs, _⟩ | ⟨a, len, cap, zs, hcs, _, hl, hm, hz, hx, hcell, hwz⟩
 ·simp at hcs
  subst hcs
  exact ⟨[], .inl ⟨rfl, rfl⟩, Byts.nil, by simp⟩
 ·simp at hcs
  subst hcs
  unfold maxLen at hm
  have hlz : len ≤ zs.length := by rw [hz]; split <;> omega
  have hbz : Byts zs := fun c hc => wf_u8 (hwz c hc)
  have hb : len ≤ 140737488351232 := by
   have h1 := hw ((zs.take len).length + (zs.drop len).length) (by
    rw [hx]
    simp only [DataW.weights, Tryz.underlying24]
    simp [lits, Tryz.bytesOf5])
   rw [List.length_take, reach_is] at h1
   omega
  by_cases h0 : len = 0
  ·subst h0
   exact ⟨[], .inr (.inl ⟨a, cap, rfl, rfl⟩), Byts.nil, by simp⟩
  ·have hs : a.spot = none := by
    have := hcell 0 (by omega)
    rw [show a.add 0 = a from rfl] at this
    exact World.cell?_spot this
   obtain ⟨b, off, sp⟩ := a
   obtain rfl : sp = none := hs
   have hlen : (zs.take len).length = len := by rw [List.length_take]; omega
   refine ⟨zs.take len, .inr (.inr ⟨b, off, cap, by rw [hlen], by omega, fun i hi => ?_⟩), hbz.take len, by omega⟩
   rw [hlen] at hi
   have := hcell i (by omega)
   rw [add_none'] at this
   rw [this]
   simp [List.getD, hi]

end Go.Proofs.YtdeiicldfgkidaaGreat
namespace Go.Proofs.YtdeiicldfgkidaaGreat
open Go.ChangeShapes Go.WideShapes Go.ChangeAt Go.RowKit Go.Deep
set_option linter.unusedSimpArgs false
set_option linter.unusedVariables false

def RwsAt (w : World) (v : Value) (ls : List (List Int)) : Prop :=
 ∃ V : Nat → Value, ((∃ a c, v = .slice a 0 c ∧ ls = []) ∨ ∃ q o cap, v = .slice (some ⟨q, o, none⟩) ls.length cap ∧ ls.length ≤ cap ∧ ∀ i, i < ls.length → w.cell? ⟨q, o + i, none⟩ = some (V i)) ∧ ∀ i, i < ls.length → RowAt w (V i) (ls.getD i [])
theorem RwsAt.form {w : World} {v : Value} {ls : List (List Int)} (h : RwsAt w v ls) : ∃ a c, v = .slice a ls.length c := by
 obtain ⟨V, ⟨a, c, rfl, rfl⟩ | ⟨q, o, cap, rfl, _⟩, _⟩ := h
 ·exact ⟨_, _, rfl⟩
 ·exact ⟨_, _, rfl⟩
theorem RwsAt.nil (w : World) : RwsAt w noS [] := ⟨fun _ => noS, .inl ⟨_, _, rfl, rfl⟩, fun i hi => by simp at hi⟩
theorem RwsAt.below {w w' : World} {v : Value} {ls : List (List Int)} (h : RwsAt w v ls) (hb : Below w.heap.size w w') : RwsAt w' v ls := by
 obtain ⟨V, h1, h2⟩ := h
 refine ⟨V, ?_, fun i hi => (h2 i hi).below hb⟩
 rcases h1 with h1 | ⟨q, o, cap, h1, h3, h4⟩
 ·exact .inl h1
 ·exact .inr ⟨q, o, cap, h1, h3, fun i hi => by rw [hb.cell (p := ⟨q, o + i, none⟩) (cell_lt (h4 i hi))]; exact h4 i hi⟩
theorem RwsAt.at {w : World} {a : Option Addr} {n c : Nat} {ls : List (List Int)} (h : RwsAt w (.slice a n c) ls) (t : Nat) (ht : t < ls.length) : ∃ q o pa pc, a = some ⟨q, o, none⟩ ∧ n = ls.length ∧ w.cell? ⟨q, o + t, none⟩ = some (.slice pa (ls.getD t []).length pc) ∧ RowAt w (.slice pa (ls.getD t []).length pc) (ls.getD t []) := by
 obtain ⟨V, ⟨a', c', h1, rfl⟩ | ⟨q, o, cap, h1, _, h4⟩, h2⟩ := h
 ·simp at ht
 ·injection h1 with h1 h3 h5
  subst h1 h3
  obtain ⟨pa, pc, hv⟩ := row_form (h2 t ht)
  exact ⟨q, o, pa, pc, rfl, rfl, by rw [h4 t ht, hv], by rw [← hv]; exact h2 t ht⟩
set_option linter.unusedSimpArgs false
set_option linter.unusedVariables false

theorem Tryz.bytesOf24 : Tryz.prog.bytesOf 24 = 24 := by kernel_rfl
theorem rws_of_trod {H : Type} {enc : TypeId × Value → H} {W : World} {sp : Nat → Bool} {held : Bool} {fuel base : Nat} {v : Value} {x : DataW H × List MemPlace} (hf : DataW.trod enc Tryz.prog W base sp held fuel 22 [v] = some x) (hw : ∀ n ∈ x.1.weights Tryz.prog 22, n ≤ reachBytes) :
  ∃ ls : List (List Int), RwsAt W v ls ∧ ls.length ≤ 140737488355328 ∧ (∀ i, i < ls.length → (ls.getD i []).length ≤ 140737488355328) ∧ ∀ r ∈ ls, Byts r := by
 rcases open_slice1 Tryz.underlying22 Tryz.cellsOf24 hf with ⟨hcs, _⟩ | ⟨a, len, cap, m, n, V, D, Pl, hcs, _, hl, hm, hz, hx, hcell⟩
 ·simp at hcs
  subst hcs
  exact ⟨[], RwsAt.nil W, by simp, fun i hi => by simp at hi, fun r hr => by simp at hr⟩
 ·simp at hcs
  subst hcs
  have hlz : len ≤ m := by rw [hz]; split <;> omega
  have hb : len ≤ 140737488355328 := by
   have h1 := hw ((((List.range len).map D).length + ((List.range (m - len)).map fun j => D (len + j)).length) * 24) (by
    rw [hx]
    simp only [DataW.weights, Tryz.underlying22]
    simp [Tryz.bytesOf24])
   rw [reach_is] at h1
   simp only [List.length_map, List.length_range] at h1
   omega
  have hwD : ∀ i, i < len → ∀ n ∈ (D i).weights Tryz.prog 24, n ≤ reachBytes := fun i hi n hn => hw n (by
   rw [hx]
   simp only [DataW.weights, Tryz.underlying22]
   refine List.mem_cons_of_mem _ (List.mem_append_left _ (mem_weightsAll (d := D i) ?_ n hn))
   exact List.mem_map.2 ⟨i, List.mem_range.2 hi, rfl⟩)
  obtain ⟨rows, hrows⟩ := Go.Deep.choose_lt (n := len) (p := fun i l => RowAt W (V i) l ∧ Byts l ∧ l.length ≤ 140737488351232) fun i hi => row_of_trod (hcell i (by omega)).2 (hwD i hi)
  have hg : ∀ i, i < len → ((List.range len).map rows).getD i [] = rows i := fun i hi => by rw [List.getD_eq_getElem?_getD]; simp [hi]
  refine ⟨(List.range len).map rows, ⟨V, ?_, fun i hi => ?_⟩, by simpa using hb, fun i hi => ?_, fun r hr => ?_⟩
  ·by_cases h0 : len = 0
   ·subst h0
    exact .inl ⟨_, _, rfl, rfl⟩
   ·have hs : a.spot = none := by
     have := (hcell 0 (by omega)).1
     rw [show a.add 0 = a from rfl] at this
     exact World.cell?_spot this
    obtain ⟨b, off, sp⟩ := a
    obtain rfl : sp = none := hs
    refine .inr ⟨b, off, cap, by simp, by simpa using hl, fun i hi => ?_⟩
    have := (hcell i (by simp at hi; omega)).1
    rw [add_none'] at this
    exact this
  ·have hi' : i < len := by simpa using hi
   rw [hg i hi']; exact (hrows i hi').1
  ·have hi' : i < len := by simpa using hi
   rw [hg i hi']; have := (hrows i hi').2.2; omega
  ·obtain ⟨i, hi, rfl⟩ := List.mem_map.1 hr
   exact (hrows i (List.mem_range.1 hi)).2.1
end Go.Proofs.YtdeiicldfgkidaaGreat
