import Derived.Test.YthlohkgdmfkpeaaGreatB11
import Derived.Test.YthlohkgdmfkpeaaGreatB08
namespace Go.Proofs.YthlohkgdmfkpeaaGreat
open Go.RowKit
set_option linter.unusedSimpArgs false
set_option linter.unusedVariables false

theorem Tryz.in60 (w : World) (vs : Array Value) : (callFunc 60 vs).run Tryz.prog w = .ok (.enter 60 vs) w := by kernel_rfl
theorem Tryz.in75 (w : World) (vs : Array Value) : (callFunc 75 vs).run Tryz.prog w = .ok (.enter 75 vs) w := by kernel_rfl
theorem Tryz.in78 (w : World) (vs : Array Value) : (callFunc 78 vs).run Tryz.prog w = .ok (.enter 78 vs) w := by kernel_rfl
theorem Tryz.in79 (w : World) (vs : Array Value) : (callFunc 79 vs).run Tryz.prog w = .ok (.enter 79 vs) w := by kernel_rfl
theorem Tryz.in81 (w : World) (vs : Array Value) : (callFunc 81 vs).run Tryz.prog w = .ok (.enter 81 vs) w := by kernel_rfl
theorem Ste.ds {B : Nat} {w w' : World} {d : Nat} {g g' : DG} (h : Ste w w' (DgS d g) d g g') (hI : DI g') (hs : DS B w d g) (hB : B ≤ w.heap.size) : DS B w' d g' ∧ Below B w w' :=
 ⟨⟨h.at'.avInto (fun k hk => .inr hk) (fun k hk => hk), hI, fun k hk => (h.sub k hk).elim (hs.lo k) fun h => Nat.le_trans hB h⟩, h.grown.to_below (fun k hk hd => by have := hs.lo k hd; omega) hB⟩
theorem encE_one {w : World} {L : List EP} (h : EIn w L) : ∀ u ∈ L.flatMap encE, u.oneCell' = true := fun u hu => by
 obtain ⟨q, hq, hu⟩ := List.mem_flatMap.1 hu
 have hn := h q hq
 obtain ⟨a, c, e1⟩ := hn.ps.form
 obtain ⟨b, d, e2⟩ := hn.ops.form
 have h1 := entA_one q.1.id.f q.1.N.au q.1.N.ck q.2.1 q.2.2 (by rw [e1]; rfl) (by rw [e2]; rfl)
 rw [← Array.all_toList, List.all_eq_true] at h1
 exact h1 u hu
theorem esl_sl {w : World} {v : Value} {L : List EP} (h : ESl w v L) : SlG w 36 v L.length (L.flatMap encE) := by
 refine ⟨flat_len encE_len L, ?_⟩
 rcases h with ⟨a, c, rfl, rfl⟩ | ⟨b, off, c, rfl, h1, h2⟩
 ·exact .inl ⟨a, c, rfl, rfl⟩
 ·exact .inr ⟨b, off, c, rfl, h1, h2⟩
theorem range_below {w w' : World} {B b o : Nat} {cs : List Value} (h : w.rangeAt b o cs) (hb : Below B w w') (hB : b < B) : w'.rangeAt b o cs := fun j v hv => by
 have := h j v hv
 rw [← this]
 exact hb.cell (p := ⟨b, o + j, none⟩) hB
structure SrtAt (w0 w w' : World) (v : Value) (L R : List EP) : Prop where
 perm : R.Perm L
 srt : R.Pairwise fun a b => a.1.N.ck ≤ b.1.N.ck
 sl : (v = .slice none 0 0 ∧ R = []) ∨ ∃ g c, v = .slice (some ⟨g, 0, none⟩) R.length c ∧ w0.heap.size ≤ g ∧ g < w.heap.size ∧ w'.rangeAt g 0 (R.flatMap encE)
 bel : Below w0.heap.size w0 w'
 bel2 : w.heap.size ≤ w'.heap.size
theorem sort_ents (w0 w : World) (v : Value) (L : List EP) (hi : EIn w L) (hL : L.length ≤ 1000000) (hb : Below w0.heap.size w0 w) (ho : w.ownsRow w0.heap.size 52 36 v L.length (L.flatMap encE)) : Calls Tryz.prog 75 #[v, .func (.func 76) #[] #[]] w fun e w' => e = .returned (.tuple #[]) ∧ ∃ R, SrtAt w0 w w' v L R := by
 rcases ho.2 with ⟨rfl, h0⟩ | ⟨g, cap, cur, rfl, h1, h2, h3, h4, h5, h6⟩
 ·refine (sortE_none none 0 w).mono ?_
  rintro e w' ⟨rfl, rfl⟩
  have : L = [] := List.eq_nil_of_length_eq_zero h0
  subst this
  exact ⟨rfl, [], ⟨List.Perm.refl _, List.Pairwise.nil, .inl ⟨rfl, rfl⟩, hb, Nat.le_refl _⟩⟩
 ·have h2' : Blk w g 52 cur := h2
  have hc : cur.toList.take ((L.map crE).length * 36) = (L.map crE).flatMap encC := by rw [List.length_map, flat_cr hi]; exact h6
  have hs := sortE_any g cap (L.map crE) w cur h2' hc (by rw [List.length_map]; exact hL)
  rw [List.length_map] at hs
  refine hs.mono ?_
  rintro e w' ⟨rfl, E, hE, hP, hR, hB⟩
  obtain ⟨R, hRL, rfl⟩ := perm_map crE E L hE
  have hiR : EIn w R := fun q hq => hi q (hRL.subset hq)
  refine ⟨rfl, R, ⟨hRL, ?_, .inr ⟨g, cap, by rw [hRL.length_eq], h1, h2'.lt, by rw [← flat_cr hiR]; exact hR⟩, hb.trans (hB _ h1 hb.size), (hB w0.heap.size h1 hb.size).size⟩⟩
  rw [List.pairwise_map] at hP
  exact hP
theorem parH_perm {l m : List VX} (hn : (l.map (·.id)).Nodup) (hp : m.Perm l) (x : Hs) : parH m x = parH l x := by
 have hn' : (m.map (·.id)).Nodup := (hp.map (fun v : VX => v.id)).nodup_iff.2 hn
 by_cases h : hasB l x = true
 ·obtain ⟨v, hv, rfl⟩ := hasB_iff.1 h
  rw [parH_mem hn hv, parH_mem hn' (hp.symm.subset hv)]
 ·have h1 : hasB l x = false := by simpa using h
  have h2 : hasB m x = false := hasB_no.2 fun v hv => hasB_no.1 h1 v (hp.subset hv)
  unfold parH
  rw [find_none h1, find_none h2]
structure OrdPost (L : List EX) (w w' : World) (v : Value) (ol : List Hs) : Prop where
 own : OwnH w' v ol
 new : ∀ k, v.ownBlock = some k → w.heap.size ≤ k
 bel : Below w.heap.size w w'
 one : OneO (parH (L.map vxE)) ol
 mem : ∀ x, x ∈ ol ↔ x ∈ idsE L
 len : ol.length = L.length
set_option maxRecDepth 8000 in
set_option maxHeartbeats 4000000 in
theorem order_past (v : Value) (L : List EP) (w : World) (hs : ESl w v L) (hi : EIn w L) (hG : Good (exs L)) : Calls Tryz.prog 60 #[v] w fun e w' => ∃ v' ol, e = .returned v' ∧ OrdPost (exs L) w w' v' ol := by
 obtain ⟨sa, sc, rfl⟩ := hs.form
 have HS := Keep.mk hs
 have HI := Keep.mk hi
 have HG := Keep.mk hG
 clear hs hi hG
 go_enter Tryz.func60, Tryz.ntmps60
 refine wp_seq_k fun K1 hK1 => rgn ?_
 refine VlS (.slice none 0 0) ?_
 refine WL.nil (hK1 _ _ ?_)
 refine wp_seq_k fun K2 hK2 => rgn ?_
 refine VlS (.slice sa L.length sc) ?_
 refine WL.callF (by kernel_rfl) 74 _ _ rfl Tryz.in74 #[.slice sa L.length sc] (by simp [Act.eval]) ?_
 refine (cloneE _ _ _ w (esl_sl HS.out) (encE_one HI.out) (by have := HG.out.len; rw [exs_len] at this; omega)).mono ?_
 rintro e w1 ⟨v1, rfl, hf, hfb⟩
 refine ⟨_, rfl, ?_⟩
 have HO1 := Keep.mk hf
 have B1 := Keep.mk hfb
 clear hf hfb
 simp only [Act.put, pqA, pqB, pqC]
 refine VlS (v1) ?_
 refine WL.nil (hK2 _ _ ?_)
 refine wp_seq_k fun K3 hK3 => rgn ?_
 refine VlS (v1) ?_
 refine WL.callF (by kernel_rfl) 75 _ _ rfl Tryz.in75 #[v1, .func (.func 76) #[] #[]] (by simp [Act.eval]) ?_
 refine (sort_ents w w1 v1 L (HI.out.below B1.out) (by have := HG.out.len; rw [exs_len] at this; omega) B1.out HO1.out).mono ?_
 rintro e w2 ⟨rfl, R, hR⟩
 refine ⟨_, rfl, ?_⟩
 have HR := Keep.mk hR
 obtain ⟨ra, rc, hv1⟩ : ∃ a c, v1 = .slice a R.length c := by
  rcases hR.sl with ⟨e1, e2⟩ | ⟨g, c, e1, _⟩
  ·subst e2; exact ⟨none, 0, e1⟩
  ·exact ⟨_, _, e1⟩
 subst hv1
 clear hR HO1
 simp only [Act.put, pqA, pqB, pqC]
 refine WL.nil (hK3 _ _ ?_)
 refine wp_seq_k fun K4 hK4 => rgn ?_
 refine WL.callF (by kernel_rfl) 78 _ _ rfl Tryz.in78 #[.int .i64 0] (by simp [Act.eval]) ?_
 refine (new_ds 0 w2).mono ?_
 rintro e w3 (⟨h1, -, -⟩ | ⟨-, -, d, g0, rfl, hD, hB3, hr0, hh0, hw0, -, -⟩)
 ·exact absurd h1 (by decide)
 refine ⟨_, rfl, ?_⟩
 have HD0 := Keep.mk hD
 have B3 := Keep.mk hB3
 have HG0 : Keep (g0.room = 0 ∧ g0.held = [] ∧ g0.wait = []) := ⟨hr0, hh0, hw0⟩
 clear hD hB3 hr0 hh0 hw0
 simp only [Act.put, pqA, pqB, pqC]
 refine VlS (.tuple #[.pointer (some ⟨d, 0, none⟩), .int .i64 0]) ?_
 refine VlS (.pointer (some ⟨d, 0, none⟩)) ?_
 refine VlS (.int .i64 0) ?_
 refine VlS (.pointer (some ⟨d, 0, none⟩)) ?_
 refine VlS (.int .i64 0) ?_
 refine WL.nil (hK4 _ _ ?_)
 refine wp_seq_k fun K5 hK5 => ?_
 refine wp_seq_k fun K6 hK6 => rgn ?_
 refine VlS (.slice ra R.length rc) ?_
 refine VlS (.int .i64 (R.length : Int)) ?_
 refine VlS (.int .i64 0) ?_
 refine WL.nil (hK6 _ _ ?_)
 refine wp_block ?_
 refine wp_loop (fun ac wr => ∃ (t : Nat) (u7 u19 u20 u21 u22 u23 u24 u25 u26 : Value), ac = { tmps := #[.slice sa L.length sc, undef, .slice none 0 0, .slice ra R.length rc, .pointer (some ⟨d, 0, none⟩), .int .i64 0, undef, u7, .slice sa L.length sc, .slice ra R.length rc, .slice ra R.length rc, .tuple #[], .tuple #[.pointer (some ⟨d, 0, none⟩), .int .i64 0], .tuple #[.pointer (some ⟨d, 0, none⟩), .int .i64 0], .pointer (some ⟨d, 0, none⟩), .int .i64 0, .slice ra R.length rc, .int .i64 (R.length : Int), .int .i64 (t : Int), u19, u20, u21, u22, u23, u24, u25, u26, undef, undef], defers := [] } ∧ t ≤ R.length ∧ Below w2.heap.size w2 wr ∧ ∃ g, DS w2.heap.size wr d g ∧ g.room = 0 ∧ g.held = (((exs R).take t).map vxE) ∧ g.wait = []) (fun a _ => R.length - (intOf (a.tmps.getD 18 undef)).toNat) ⟨0, undef, undef, undef, undef, undef, undef, undef, undef, undef, rfl, by omega, B3.out, g0, HD0.out, HG0.out.1, by rw [HG0.out.2.1, List.take_zero]; rfl, HG0.out.2.2⟩ ?_
 rintro ac wr ⟨t, u7, u19, u20, u21, u22, u23, u24, u25, u26, rfl, ht, hB, hX⟩
 obtain ⟨g, hD, hr, hh, hw⟩ := hX
 have JD := Keep.mk hD
 have JB := Keep.mk hB
 have JG : Keep (g.room = 0 ∧ g.held = (((exs R).take t).map vxE) ∧ g.wait = []) := ⟨hr, hh, hw⟩
 clear hD hB hr hh hw
 have JW : Keep (Below w.heap.size w wr) := ⟨HR.out.bel.trans (JB.out.mono (Nat.le_trans B1.out.size HR.out.bel2))⟩
 have hrl : R.length ≤ 4096 := by have := HG.out.len; rw [exs_len] at this; rw [HR.out.perm.length_eq]; exact this
 by_cases htl : t < R.length
 ·have htl' : (t : Int) < (R.length : Int) := by omega
  have ht0 : (0 : Int) ≤ (t : Int) := by omega
  have hwt : IntKind.i64.wrap ((t : Int) + 1) = ((t + 1 : Nat) : Int) := by rw [IntKind.wrap_i64]; omega
  obtain ⟨sb, hra, hsb, hrg⟩ : ∃ sb, ra = some ⟨sb, 0, none⟩ ∧ sb < w2.heap.size ∧ wr.rangeAt sb (0 + t * 36) (encE R[t]) := by
   rcases HR.out.sl with ⟨_, e2⟩ | ⟨sb, c, e1, e2, e3, e4⟩
   ·rw [e2] at htl; simp at htl
   ·injection e1 with e1
    exact ⟨sb, e1, by have := HR.out.bel2; omega, flat_elem encE_len (range_below e4 JB.out (by have := HR.out.bel2; omega)) t htl⟩
  subst hra
  rw [Nat.zero_add] at hrg
  obtain ⟨x, hx⟩ : ∃ x, Keep (x = R[t]) := ⟨_, ⟨rfl⟩⟩
  rw [← hx.out] at hrg
  obtain ⟨ee, hee⟩ : ∃ a : Array Value, Keep (a = entA x.1.id.f x.1.N.au x.1.N.ck x.2.1 x.2.2) := ⟨_, ⟨rfl⟩⟩
  have HRg : Keep (wr.rangeAt sb (t * 36) ee.toList) := ⟨by rw [hee.out]; exact hrg⟩
  clear hrg
  have hxL : Keep (x ∈ L) := ⟨HR.out.perm.subset (by rw [hx.out]; exact List.getElem_mem htl)⟩
  have HN : Keep (Nd.NdAt wr x.1.N x.2.1 x.2.2) := ⟨(HI.out x hxL.out).below JW.out⟩
  have hck := ck_ok (HG.out.chk (List.mem_map.2 ⟨x, hxL.out, rfl⟩ : x.1 ∈ exs L))
  have Hck := Keep.mk hck
  clear hck
  refine wp_seq_k fun K7 hK7 => rgn ?_
  refine VbT ?_
  refine WL.nil (hK7 _ _ ?_)
  refine wp_seq_k fun K8 hK8 => ?_
  refine wp_cond_true rfl ?_
  refine wp_skip ?_
  refine hK8 _ _ ?_
  refine wp_seq_k fun K9 hK9 => ?_
  refine wp_block ?_
  refine wp_seq_k fun K10 hK10 => rgn ?_
  refine VlS (.pointer (some ⟨sb, t * 36, none⟩)) ?_
  refine WL.midA (by kernel_rfl) 52 (.tmp 20) rfl sb (t * 36) rfl ee _ HRg.out Tryz.underlying52 rfl (by rw [hee.out]; exact sizeE _ _ _ _ _) ?_
  simp only [Act.put, pqA, pqB, pqC]
  refine WL.new (by kernel_rfl) 52 rfl (entA (fun _ => 0) 0 0 (.slice none 0 0) (.slice none 0 0)) Tryz.new52 ?_
  obtain ⟨wb, hwn⟩ : ∃ wx, Keep (wx = wr.alloc (.cells (entA (fun _ => 0) 0 0 (.slice none 0 0) (.slice none 0 0)) 52)) := ⟨_, ⟨rfl⟩⟩
  rw [← hwn.out]
  have HZ : Keep (Blk wb wr.heap.size 52 (entA (fun _ => 0) 0 0 (.slice none 0 0) (.slice none 0 0))) := ⟨by rw [hwn.out]; exact Blk.new _ _ _⟩
  have LB : Keep (Below wr.heap.size wr wb) := ⟨by rw [hwn.out]; exact below_new _ _⟩
  clear hwn
  simp only [Act.put, pqA, pqB, pqC]
  refine WL.storeR (by kernel_rfl) 52 (.tmp 7) (.tmp 21) rfl wr.heap.size ee rfl rfl 52 _ HZ.out (by rw [hee.out]; exact sizeE _ _ _ _ _) (by rw [hee.out, entA_size, entA_size]) (by rw [hee.out]; exact entA_one _ _ _ _ _ (by obtain ⟨a, c, e⟩ := HN.out.ps.form; rw [e]; rfl) (by obtain ⟨a, c, e⟩ := HN.out.ops.form; rw [e]; rfl)) ?_
  have HX := Keep.mk (HZ.out.setRow ee)
  have LX : Keep (Below wr.heap.size wr (wb.setRow wr.heap.size ee)) := ⟨below_setRow LB.out (Nat.le_refl _) _⟩
  generalize wb.setRow wr.heap.size ee = wx at *
  clear HZ LB
  have HNx := Keep.mk (HN.out.below LX.out)
  have JDx := Keep.mk (JD.out.below LX.out)
  have JBx : Keep (Below w2.heap.size w2 wx) := ⟨JB.out.trans (LX.out.mono JB.out.size)⟩
  generalize wr.heap.size = gx at *
  simp only [Act.put]
  refine WL.nil (hK10 _ _ ?_)
  refine rgn ?_
  refine VlS (.pointer (some ⟨d, 0, none⟩)) ?_
  refine WL.row (by kernel_rfl) 52 (.tmp 7) rfl gx rfl 52 ee _ HX.out Tryz.underlying52 rfl (by rw [hee.out]; exact sizeE _ _ _ _ _) ?_
  simp only [Act.put, pqA, pqB, pqC]
  refine WL.callF (by kernel_rfl) 80 _ _ rfl Tryz.in80 #[.agg ee] (by simp [Act.eval]) ?_
  refine (show Calls Tryz.prog 80 #[.agg ee] wx _ from (by have h := vertex_any x.1 x.2.1 x.2.2 wx HNx.out.ps (by have := Hck.out.2.2; omega); rw [← hee.out] at h; exact h)).mono ?_
  rintro e wy ⟨p1, rfl, hf⟩
  refine ⟨_, rfl, ?_⟩
  have HF := Keep.mk hf
  have JDy := Keep.mk (JDx.out.below hf.bel)
  have JBy : Keep (Below w2.heap.size w2 wy) := ⟨JBx.out.trans (hf.bel.mono JBx.out.size)⟩
  clear hf
  simp only [Act.put, pqA, pqB, pqC]
  refine WL.callF (by kernel_rfl) 79 _ _ rfl Tryz.in79 #[.pointer (some ⟨d, 0, none⟩), .agg (vtx x.1.id.f x.1.N.ck p1)] (by simp [Act.eval]) ?_
  refine (add_any d (vxE x.1) p1 (DgS d g) g wy JDy.out.at' JDy.out.di HF.out.own.row (by have := Hck.out.2.2; show (x.1.N.ps.length : Int) ≤ _; omega)).mono ?_
  rintro e wz ⟨u1, g1, ol1, rfl, hS, hI, hA, -, -⟩
  refine ⟨_, rfl, ?_⟩
  have hfit : fitV g.held g.wait (vxE x.1) = (2, 0) := by
   have h := feed_fit (L := exs L) (R := exs R) HG.out (HR.out.perm.map _) (by rw [exs, List.pairwise_map]; exact HR.out.srt) (t := t) (by rw [exs_len]; exact htl) JG.out.2.1 JG.out.2.2
   rw [exs_get R t htl, ← hx.out] at h
   exact h
  have htk : tookG g (vxE x.1) g1 := by
   rcases hA with ⟨_, h, _⟩ | ⟨h, _⟩ | ⟨h, _⟩ | ⟨h, _⟩
   ·exact h
   ·rw [hfit] at h; cases h
   ·rw [hfit] at h; cases h
   ·rw [hfit] at h; exact absurd rfl h
  have hds := hS.ds hI JDy.out JBy.out.size
  have JDz := Keep.mk hds.1
  have JBz : Keep (Below w2.heap.size w2 wz) := ⟨JBy.out.trans hds.2⟩
  have Htk := Keep.mk htk
  clear hds hS hI hA htk hfit
  simp only [Act.put, pqA, pqB, pqC]
  refine WL.nil (hK9 _ _ ?_)
  refine rgn ?_
  refine VlS (.int .i64 ((t + 1 : Nat) : Int)) ?_
  refine VlS (.int .i64 ((t + 1 : Nat) : Int)) ?_
  refine WL.nil ?_
  refine ⟨⟨t + 1, .pointer (some ⟨gx, 0, none⟩), .bool true, .pointer (some ⟨sb, t * 36, none⟩), .agg ee, .pointer (some ⟨d, 0, none⟩), .agg ee, .agg (vtx x.1.id.f x.1.N.ck p1), .tuple #[.int .i64 (fitV g.held g.wait (vxE x.1)).1, u1, .int .i64 (fitV g.held g.wait (vxE x.1)).2], .int .i64 ((t + 1 : Nat) : Int), rfl, by omega, JBz.out, g1, JDz.out, Htk.out.1.trans JG.out.1, ?_, Htk.out.2.2.1.trans JG.out.2.2⟩, by simp [intOf]; omega⟩
  rw [Htk.out.2.1, JG.out.2.1, List.take_succ_eq_append_getElem (by rw [exs_len]; exact htl), exs_get R t htl, ← hx.out, List.map_append]
  rfl
 ·have hte : t = R.length := by omega
  subst hte
  refine wp_seq_k fun K11 hK11 => rgn ?_
  refine VbF ?_
  refine WL.nil (hK11 _ _ ?_)
  refine wp_seq_k fun K12 hK12 => ?_
  refine wp_cond_false rfl ?_
  refine wp_exit ?_
  refine hK5 _ _ ?_
  refine wp_seq_k fun K13 hK13 => rgn ?_
  refine VlS (.pointer (some ⟨d, 0, none⟩)) ?_
  refine WL.callF (by kernel_rfl) 81 _ _ rfl Tryz.in81 #[.pointer (some ⟨d, 0, none⟩)] (by simp [Act.eval]) ?_
  refine (order_any d (DgS d g) g wr JD.out.at' (by have := JD.out.di.ol; have := JD.out.di.hl; omega)).mono ?_
  rintro e w5 ⟨v5, rfl, hf⟩
  refine ⟨_, rfl, ?_⟩
  have HF := Keep.mk hf
  clear hf
  simp only [Act.put, pqA, pqB, pqC]
  refine VlS (v5) ?_
  refine WL.nil (hK13 _ _ ?_)
  refine wp_ret ?_
  go_ret
  have hheld : g.held = (exs R).map vxE := by rw [JG.out.2.1, List.take_of_length_le (by rw [exs_len]; exact Nat.le_refl _)]
  have hpv : ((exs R).map vxE).Perm ((exs L).map vxE) := (HR.out.perm.map _).map _
  have hnv : (((exs L).map vxE).map (·.id)).Nodup := by rw [idsE_vx]; exact HG.out.nd
  refine ⟨_, g.order, rfl, HF.out.own, fun k hk => Nat.le_trans JW.out.size (HF.out.new k hk), belowC JW.out HF.out.bel, ?_, fun x => ?_, by rw [JD.out.di.ol, hheld, List.length_map, exs_len, exs_len]; exact HR.out.perm.length_eq⟩
  ·have h := JD.out.di.oo
   rw [hheld, funext fun x => parH_perm hnv hpv x] at h
   exact h
  ·rw [JD.out.di.om, hheld, mem_has, hasB_iff, hasB_iff]
   constructor
   ·rintro ⟨v, hv, e⟩; exact ⟨v, hpv.subset hv, e⟩
   ·rintro ⟨v, hv, e⟩; exact ⟨v, hpv.symm.subset hv, e⟩
theorem Tryz.in34 (w : World) (vs : Array Value) : (callFunc 34 vs).run Tryz.prog w = .ok (.enter 34 vs) w := by kernel_rfl
theorem NdAt.grownM {w w' : World} {N : Nd.NodeV} {p q : Value} {S : Nat → Prop} (h : Nd.NdAt w N p q) (hg : Grown w w' S) (hp : ∀ k, p.ownBlock = some k → ¬ S k) (hq : ∀ k, q.ownBlock = some k → ¬ S k) : Nd.NdAt w' N p q :=
 { h with ps := (show HRow w p N.ps from h.ps).grown hg (fun b o n c e => hp b (by rw [e]; rfl)), ops := h.ops.grown (S := S) ⟨hg.os, hg.tape, hg.output, hg.size, hg.block⟩ (fun k hk _ => hq k hk), bo := fun hn k hk => Nat.lt_of_lt_of_le (h.bo hn k hk) hg.size }
theorem FreshE.grown {w wr wr' : World} {x : EX} {p q : Value} {S : Nat → Prop} (h : FreshE w wr x p q) (hg : Grown wr wr' S) (hp : ∀ k, p.ownBlock = some k → ¬ S k) (hq : ∀ k, q.ownBlock = some k → ¬ S k) (hb : Below w.heap.size w wr') : FreshE w wr' x p q where
 ps := h.ps.grown hg hp
 ops := owns_grown h.ops hg hq
 nd := NdAt.grownM h.nd hg hp hq
 newp := h.newp
 newq := h.newq
 ne := h.ne
 bel := hb
theorem FreshE.below {w wr wr' : World} {x : EX} {p q : Value} (h : FreshE w wr x p q) (hb : Below wr.heap.size wr wr') : FreshE w wr' x p q := h.grown (Grown.below (S := fun _ => False) hb) (fun _ _ h => h) (fun _ _ h => h) (belowC h.bel hb)
theorem FreshE.early {w wr wr' : World} {x : EX} {p q : Value} (h : FreshE wr wr' x p q) (hb : Below w.heap.size w wr) : FreshE w wr' x p q where
 ps := h.ps
 ops := ⟨h.ops.1, h.ops.2.imp id fun ⟨g, cap, cur, h1, h2, h3⟩ => ⟨g, cap, cur, h1, Nat.le_trans hb.size h2, h3⟩⟩
 nd := h.nd
 newp := fun k hk => Nat.le_trans hb.size (h.newp k hk)
 newq := fun k hk => Nat.le_trans hb.size (h.newq k hk)
 ne := h.ne
 bel := belowC hb h.bel
theorem run_makeE (n : Nat) (hn : n ≤ 1000000) (w : World) : (Instr.makeSlice 23 (.int .i64 0) (.int .i64 (n : Int))).run Tryz.prog w = .ok (.slice (some ⟨w.heap.size, 0, none⟩) 0 n) (w.alloc (.cells (madeCells (entA (fun _ => 0) 0 0 (.slice none 0 0) (.slice none 0 0)) (n * 36)) 52)) := by
 obtain ⟨bt, hbt, hI⟩ := infoC52
 obtain ⟨i, hi, hzz⟩ := Option.map_eq_some_iff.1 hI
 simp only [Prod.mk.injEq] at hzz
 obtain ⟨hz, hs, hb⟩ := hzz
 have hmul : (bt : Int) * (n : Int) ≤ 281474976710656 := by
  have h1 : bt * n ≤ 1000000000000 := Nat.le_trans (Nat.mul_le_mul hbt hn) (by decide)
  have h2 : ((bt * n : Nat) : Int) ≤ 1000000000000 := by omega
  rw [Int.natCast_mul] at h2
  omega
 have hr := run_make (P := Tryz.prog) w 23 52 i _ Tryz.underlying23 hi hz .i64 .i64 (0 : Int) (n : Int) (by omega) (by omega) (by rw [hb]; exact hmul) (by omega)
 simp only [Int.toNat_natCast, hs, Value.cells] at hr
 exact hr
theorem owns_made (w : World) (n : Nat) (hn : n ≤ 1000000) : (w.alloc (.cells (madeCells (entA (fun _ => 0) 0 0 (.slice none 0 0) (.slice none 0 0)) (n * 36)) 52)).ownsRow w.heap.size 52 36 (.slice (some ⟨w.heap.size, 0, none⟩) 0 n) 0 [] :=
 ⟨by simp, .inr ⟨w.heap.size, n, _, rfl, Nat.le_refl _, Blk.new w 52 _, Nat.zero_le _, by unfold maxLen; omega, by rw [size_madeCells], by simp⟩⟩
theorem bsE1 (c : Nat → Int) (au ck : Int) (a b : Option Addr) (n m k l : Nat) (w : World) : (Instr.buildSlice 23 1 #[(0, .agg (entA c au ck (.slice a n k) (.slice b m l)))]).run Tryz.prog w = .ok (.slice (some ⟨w.heap.size, 0, none⟩) 1 1) (w.alloc (.cells (entA c au ck (.slice a n k) (.slice b m l)) 52)) := by kernel_rfl
def dEX : EX := ⟨default, ⟨0, 0, [], []⟩⟩
def entOf (l : List EX) (h : Hs) : EX := (l[ixH (idsE l) h]?).getD dEX
theorem entOf_id {l : List EX} {h : Hs} (hm : h ∈ idsE l) : (entOf l h).id = h ∧ entOf l h ∈ l := by
 have h1 := ixH_lt.2 hm
 have h2 := ixH_get h1
 have h3 : ixH (idsE l) h < l.length := by rwa [idsE_len] at h1
 unfold entOf
 rw [List.getElem?_eq_getElem h3, Option.getD_some]
 refine ⟨?_, List.getElem_mem h3⟩
 have e : (idsE l)[ixH (idsE l) h] = l[ixH (idsE l) h].id := by simp [idsE]
 rw [← e]; exact h2
structure OwnL (w w' : World) (v : Value) (H : List EP) : Prop where
 own : w'.ownsRow w.heap.size 52 36 v H.length (H.flatMap encE)
 ents : ∀ q ∈ H, FreshE w w' q.1 q.2.1 q.2.2
 bel : Below w.heap.size w w'
theorem OwnL.below {w wr wr' : World} {v : Value} {H : List EP} (h : OwnL w wr v H) (hb : Below wr.heap.size wr wr') : OwnL w wr' v H where
 own := owns_grown h.own (Grown.below (S := fun _ => False) hb) fun _ _ h => h
 ents := fun q hq => (h.ents q hq).below hb
 bel := belowC h.bel hb
theorem OwnL.snoc {w wr wr' : World} {v v' : Value} {H : List EP} {q : EP} (h : OwnL w wr v H) (hq : FreshE w wr q.1 q.2.1 q.2.2) (ho : wr'.ownsRow w.heap.size 52 36 v' (H.length + 1) (H.flatMap encE ++ encE q)) (hg : wr.grownBy wr' v.ownBlock) : OwnL w wr' v' (H ++ [q]) := by
 have hG : Grown wr wr' fun k => v.ownBlock = some k := Grown.of hg fun k _ e => e
 have hb : Below w.heap.size w wr' := h.bel.trans (hG.to_below (fun k hk e => by have := owns_block h.own k e; omega) h.bel.size)
 have hno : ∀ r : EP, FreshE w wr r.1 r.2.1 r.2.2 → FreshE w wr' r.1 r.2.1 r.2.2 := fun r hr => hr.grown hG
  (fun k hk e => absurd ((hr.ps.typ hk).one (owns_typ h.own k e)) (by decide))
  (fun k hk e => absurd ((owns_typ hr.ops k hk).one (owns_typ h.own k e)) (by decide)) hb
 refine ⟨by rw [List.length_append, List.length_singleton, List.flatMap_append]; simpa using ho, fun r hr => ?_, hb⟩
 rcases List.mem_append.1 hr with hr | hr
 ·exact hno r (h.ents r hr)
 ·rw [List.mem_singleton.1 hr]; exact hno q hq
structure InPost (L : List EX) (w w' : World) (v : Value) (H : List EP) : Prop where
 own : OwnL w w' v H
 one : OneO (parH (L.map vxE)) (idsE (exs H))
 mem : ∀ x, x ∈ idsE (exs H) ↔ x ∈ idsE L
 sub : ∀ x ∈ exs H, x ∈ L
 len : H.length = L.length
theorem ops_ok {N : Nd.NodeV} (h : Nd.chkN N = 0) : N.ops.length ≤ 1000000 := by
 rcases Nat.lt_or_ge 1000000 N.ops.length with h1 | h1
 ·exfalso
  unfold Nd.chkN at h
  split at h
  ·rename_i h2; exact h2 h
  ·unfold Nd.chk at h
   rw [if_pos (by omega)] at h
   cases h
 ·exact h1
set_option maxRecDepth 8000 in
set_option maxHeartbeats 4000000 in
theorem inOrder_any (v : Value) (mb : Nat) (L : List EP) (w : World) (hs : ESl w v L) (hi : EIn w L) (hM : IxAt w mb (idsE (exs L))) (hG : Good (exs L)) : Calls Tryz.prog 34 #[v, .map (some mb)] w fun e w' => ∃ v' H, e = .returned v' ∧ InPost (exs L) w w' v' H := by
 obtain ⟨sa, sc, rfl⟩ := hs.form
 have HS := Keep.mk hs
 have HI := Keep.mk hi
 have HM := Keep.mk hM
 have HG := Keep.mk hG
 clear hs hi hM hG
 go_enter Tryz.func34, Tryz.ntmps34
 refine wp_seq_k fun K1 hK1 => rgn ?_
 refine VlS (.slice none 0 0) ?_
 refine WL.nil (hK1 _ _ ?_)
 refine wp_seq_k fun K2 hK2 => rgn ?_
 refine VlS (.slice sa L.length sc) ?_
 refine VlS (.int .i64 (L.length : Int)) ?_
 refine WL.mkS (by kernel_rfl) 23 (.const (.int .i64 0)) (.tmp 9) rfl _ _ rfl rfl _ _ (run_makeE L.length (by have := HG.out.len; rw [exs_len] at this; omega) w) ?_
 have HO0 := Keep.mk (owns_made w L.length (by have := HG.out.len; rw [exs_len] at this; omega))
 have B0 := Keep.mk (below_new w (.cells (madeCells (entA (fun _ => 0) 0 0 (.slice none 0 0) (.slice none 0 0)) (L.length * 36)) 52))
 generalize w.alloc (.cells (madeCells (entA (fun _ => 0) 0 0 (.slice none 0 0) (.slice none 0 0)) (L.length * 36)) 52) = w1 at *
 simp only [Act.put, pqA, pqB, pqC]
 refine VlS (.slice (some ⟨w.heap.size, 0, none⟩) 0 L.length) ?_
 refine WL.nil (hK2 _ _ ?_)
 refine wp_seq_k fun K3 hK3 => ?_
 refine wp_seq_k fun K4 hK4 => rgn ?_
 refine VlS (.slice sa L.length sc) ?_
 refine WL.callF (by kernel_rfl) 60 _ _ rfl Tryz.in60 #[.slice sa L.length sc] (by simp [Act.eval]) ?_
 refine (order_past _ L w1 (HS.out.below B0.out) (HI.out.below B0.out) HG.out).mono ?_
 rintro e w2 ⟨v2, ol, rfl, hO⟩
 refine ⟨_, rfl, ?_⟩
 have HP := Keep.mk hO
 obtain ⟨oa, oc, rfl⟩ := hO.own.sl
 clear hO
 have hol : Keep (ol.length ≤ 4096) := ⟨by rw [HP.out.len]; exact HG.out.len⟩
 simp only [Act.put, pqA, pqB, pqC]
 refine VlS (.int .i64 (ol.length : Int)) ?_
 refine VlS (.int .i64 0) ?_
 refine WL.nil (hK4 _ _ ?_)
 refine wp_block ?_
 refine wp_loop (fun ac wr => ∃ (t : Nat) (u5 u7 u15 u16 u17 u18 u19 u20 u21 u22 u23 u24 u25 u26 u27 u28 : Value), ac = { tmps := #[.slice sa L.length sc, .map (some mb), undef, undef, .slice none 0 0, u5, undef, u7, .slice sa L.length sc, .int .i64 (L.length : Int), .slice (some ⟨w.heap.size, 0, none⟩) 0 L.length, .slice sa L.length sc, .slice oa ol.length oc, .int .i64 (ol.length : Int), .int .i64 (t : Int), u15, u16, u17, u18, u19, u20, u21, u22, u23, u24, u25, u26, u27, u28, undef], defers := [] } ∧ t ≤ ol.length ∧ OwnH wr (.slice oa ol.length oc) ol ∧ ∃ H, OwnL w wr u5 H ∧ exs H = (ol.take t).map (entOf (exs L))) (fun a _ => ol.length - (intOf (a.tmps.getD 14 undef)).toNat) ⟨0, .slice (some ⟨w.heap.size, 0, none⟩) 0 L.length, undef, undef, undef, undef, undef, undef, undef, undef, undef, undef, undef, undef, undef, undef, undef, rfl, by omega, HP.out.own, [], ⟨owns_grown HO0.out (Grown.below (S := fun _ => False) HP.out.bel) (fun _ _ h => h), fun q hq => by simp at hq, belowC B0.out HP.out.bel⟩, by simp [exs]⟩ ?_
 rintro ac wr ⟨t, u5, u7, u15, u16, u17, u18, u19, u20, u21, u22, u23, u24, u25, u26, u27, u28, rfl, ht, hV, hX⟩
 obtain ⟨H, hO, hE⟩ := hX
 have JO := Keep.mk hO
 have JE := Keep.mk hE
 have JV := Keep.mk hV
 have JB : Keep (Below w.heap.size w wr) := ⟨hO.bel⟩
 clear hO hE hV
 have hHl : Keep (H.length = t) := ⟨by have := congrArg List.length JE.out; rw [exs_len, List.length_map, List.length_take] at this; omega⟩
 by_cases htl : t < ol.length
 ·have htl' : (t : Int) < (ol.length : Int) := by omega
  have ht0 : (0 : Int) ≤ (t : Int) := by omega
  have hwt : IntKind.i64.wrap ((t : Int) + 1) = ((t + 1 : Nat) : Int) := by rw [IntKind.wrap_i64]; have := hol.out; omega
  obtain ⟨pb, po, hoa, hpr⟩ := hrow_at JV.out.row htl
  subst hoa
  obtain ⟨h, hh⟩ : ∃ h : Hs, Keep (h = ol[t]) := ⟨_, ⟨rfl⟩⟩
  rw [← hh.out] at hpr
  have HPr := Keep.mk hpr
  clear hpr
  have hmem : Keep (h ∈ idsE (exs L)) := ⟨(HP.out.mem h).1 (by rw [hh.out]; exact List.getElem_mem htl)⟩
  refine wp_seq_k fun K5 hK5 => rgn ?_
  refine VbT ?_
  refine WL.nil (hK5 _ _ ?_)
  refine wp_seq_k fun K6 hK6 => ?_
  refine wp_cond_true rfl ?_
  refine wp_skip ?_
  refine hK6 _ _ ?_
  refine wp_seq_k fun K7 hK7 => ?_
  refine wp_block ?_
  refine wp_seq_k fun K8 hK8 => rgn ?_
  refine VlS (.pointer (some ⟨pb, po + t * 32, none⟩)) ?_
  refine WL.midA (by kernel_rfl) 36 (.tmp 16) rfl pb (po + t * 32) rfl (bytesA 32 h.f) _ HPr.out Tryz.underlying36 rfl (size36E _) ?_
  simp only [Act.put, pqA, pqB, pqC]
  refine WL.new (by kernel_rfl) 36 rfl (bytesA 32 fun _ => 0) Tryz.new36 ?_
  obtain ⟨wc, hwn⟩ : ∃ wx, Keep (wx = wr.alloc (.cells (bytesA 32 fun _ => 0) 36)) := ⟨_, ⟨rfl⟩⟩
  rw [← hwn.out]
  have HZ2 : Keep (Blk wc wr.heap.size 36 (bytesA 32 fun _ => 0)) := ⟨by rw [hwn.out]; exact Blk.new _ _ _⟩
  have LB2 : Keep (Below wr.heap.size wr wc) := ⟨by rw [hwn.out]; exact below_new _ _⟩
  clear hwn
  simp only [Act.put, pqA, pqB, pqC]
  refine WL.storeR (by kernel_rfl) 36 (.tmp 7) (.tmp 17) rfl wr.heap.size (bytesA 32 h.f) rfl rfl 36 _ HZ2.out (size36E _) (by rw [bytesA_size, bytesA_size]) (bytesA_one _ _) ?_
  have HH := Keep.mk (HZ2.out.setRow (bytesA 32 h.f))
  have LH : Keep (Below wr.heap.size wr (wc.setRow wr.heap.size (bytesA 32 h.f))) := ⟨below_setRow LB2.out (Nat.le_refl _) _⟩
  generalize wc.setRow wr.heap.size (bytesA 32 h.f) = wd at *
  clear HZ2 LB2
  have JOd := Keep.mk (JO.out.below LH.out)
  have JVd := Keep.mk (JV.out.below LH.out)
  have JBd := Keep.mk (belowC JB.out LH.out)
  have JMd := Keep.mk (HM.out.below JBd.out)
  generalize wr.heap.size = g2 at *
  clear LH HPr
  obtain ⟨ix, hix⟩ : ∃ ix, Keep (ixH (idsE (exs L)) h = ix) := ⟨_, ⟨rfl⟩⟩
  have hixl : ix < L.length := by have := ixH_lt.2 hmem.out; rw [hix.out, idsE_len, exs_len] at this; exact this
  have hlk := (lookI JMd.out h).2
  rw [ixV, if_pos (ixH_lt.2 hmem.out), hix.out] at hlk
  have hixl' : (ix : Int) < (L.length : Int) := by omega
  have hix0 : (0 : Int) ≤ (ix : Int) := by omega
  obtain ⟨sb, so, hsa, hr2⟩ := esl_range (HS.out.below JBd.out) hixl
  subst hsa
  obtain ⟨x, hx⟩ : ∃ x, Keep (x = L[ix]) := ⟨_, ⟨rfl⟩⟩
  rw [← hx.out] at hr2
  obtain ⟨ee, hee⟩ : ∃ a : Array Value, Keep (a = entA x.1.id.f x.1.N.au x.1.N.ck x.2.1 x.2.2) := ⟨_, ⟨rfl⟩⟩
  have HR2 : Keep (wd.rangeAt sb (so + ix * 36) ee.toList) := ⟨by rw [hee.out]; exact hr2⟩
  clear hr2
  have hxL : Keep (x ∈ L) := ⟨by rw [hx.out]; exact List.getElem_mem hixl⟩
  have HN : Keep (Nd.NdAt wd x.1.N x.2.1 x.2.2) := ⟨(HI.out x hxL.out).below JBd.out⟩
  have Hck := Keep.mk (ck_ok (HG.out.chk (List.mem_map.2 ⟨x, hxL.out, rfl⟩ : x.1 ∈ exs L)))
  have Hops := Keep.mk (ops_ok (HG.out.chk (List.mem_map.2 ⟨x, hxL.out, rfl⟩ : x.1 ∈ exs L)))
  simp only [Act.put]
  refine WL.nil (hK8 _ _ ?_)
  refine rgn ?_
  refine VlS (u5) ?_
  refine VlS (.slice (some ⟨sb, so, none⟩) L.length sc) ?_
  refine VlS (.map (some mb)) ?_
  refine WL.row (by kernel_rfl) 36 (.tmp 7) rfl g2 rfl 36 (bytesA 32 h.f) _ HH.out Tryz.underlying36 rfl (size36E _) ?_
  simp only [Act.put, pqA, pqB, pqC]
  refine WL.lookI (by kernel_rfl) (.tmp 20) (.tmp 21) false rfl _ _ _ rfl rfl hlk ?_
  simp only [Act.put, pqA, pqB, pqC]
  refine VlS (.pointer (some ⟨sb, so + ix * 36, none⟩)) ?_
  refine WL.midA (by kernel_rfl) 52 (.tmp 23) rfl sb (so + ix * 36) rfl ee _ HR2.out Tryz.underlying52 rfl (by rw [hee.out]; exact sizeE _ _ _ _ _) ?_
  simp only [Act.put, pqA, pqB, pqC]
  refine WL.callF (by kernel_rfl) 36 _ _ rfl Tryz.in36 #[.agg ee] (by simp [Act.eval]) ?_
  refine (show Calls Tryz.prog 36 #[.agg ee] wd _ from (by have h := own_ent x.1 x.2.1 x.2.2 wd HN.out (by have := Hck.out.2.2; omega) Hops.out; rw [← hee.out] at h; exact h)).mono ?_
  rintro e we ⟨p1, q1, rfl, hF⟩
  refine ⟨_, rfl, ?_⟩
  have HF := Keep.mk hF
  have JOe := Keep.mk (JOd.out.below hF.bel)
  have JVe := Keep.mk (JVd.out.below hF.bel)
  have JBe := Keep.mk (belowC JBd.out hF.bel)
  clear hF
  obtain ⟨pa, pc, hp1⟩ : ∃ a c, Keep (p1 = .slice a x.1.N.ps.length c) := by obtain ⟨a, c, e⟩ := HF.out.nd.ps.form; exact ⟨a, c, ⟨e⟩⟩
  obtain ⟨qa, qc, hq1⟩ : ∃ a c, Keep (q1 = .slice a x.1.N.ops.length c) := by obtain ⟨a, c, e⟩ := HF.out.nd.ops.form; exact ⟨a, c, ⟨e⟩⟩
  obtain ⟨e1, he1⟩ : ∃ a : Array Value, Keep (a = entA x.1.id.f x.1.N.au x.1.N.ck p1 q1) := ⟨_, ⟨rfl⟩⟩
  rw [← he1.out]
  simp only [Act.put, pqA, pqB, pqC]
  have hbs := bsE1 x.1.id.f x.1.N.au x.1.N.ck pa qa x.1.N.ps.length x.1.N.ops.length pc qc we
  rw [← hp1.out, ← hq1.out] at hbs
  rw [← he1.out] at hbs
  refine WL.bs (by kernel_rfl) 23 1 _ rfl #[(0, .agg e1)] (by simp [Act.eval]) _ _ hbs ?_
  clear hbs
  obtain ⟨wf, hwf⟩ : ∃ wx, Keep (wx = we.alloc (.cells e1 52)) := ⟨_, ⟨rfl⟩⟩
  rw [← hwf.out]
  have HB1 : Keep (Blk wf we.heap.size 52 e1) := ⟨by rw [hwf.out]; exact Blk.new _ _ _⟩
  have LBf : Keep (Below we.heap.size we wf) := ⟨by rw [hwf.out]; exact below_new _ _⟩
  clear hwf
  have JOf := Keep.mk (JOe.out.below LBf.out)
  have JVf := Keep.mk (JVe.out.below LBf.out)
  have HFf := Keep.mk ((HF.out.early JBd.out).below LBf.out)
  simp only [Act.put, pqA, pqB, pqC]
  obtain ⟨bt, hbt, hIb⟩ := infoC52
  refine WL.appG (by kernel_rfl) 23 52 36 bt _ Tryz.underlying23 hIb (by kernel_rfl) (by decide) (.tmp 18) (.tmp 26) rfl w.heap.size _ ⟨we.heap.size, 0, none⟩ H.length 1 1 _ (encE (x.1, p1, q1)) rfl rfl JOf.out.own (by rw [encE_len]) (fun j u hu => by rw [Addr.add_mid]; have h := blk_range HB1.out; rw [he1.out] at h; exact h j u hu) (fun u hu => by have h := entA_one x.1.id.f x.1.N.au x.1.N.ck p1 q1 (by obtain ⟨a, c, e⟩ := HF.out.nd.ps.form; rw [e]; rfl) (by obtain ⟨a, c, e⟩ := HF.out.nd.ops.form; rw [e]; rfl); rw [← Array.all_toList, List.all_eq_true] at h; exact h u hu) (by have := hHl.out; have := hol.out; omega) hbt JOf.out.bel.size fun v3 wg h1 h2 => ?_
  have JOg := Keep.mk (JOf.out.snoc HFf.out h1 h2)
  have JVg : Keep (OwnH wg (.slice (some ⟨pb, po, none⟩) ol.length oc) ol) := ⟨JVf.out.grown (Grown.of h2 fun k _ e => e) fun k hk e => absurd ((JVf.out.typ hk).one (owns_typ JOf.out.own k e)) (by decide)⟩
  clear h1 h2 hIb hbt
  simp only [Act.put, pqA, pqB, pqC]
  refine VlS (v3) ?_
  refine WL.nil (hK7 _ _ ?_)
  refine rgn ?_
  refine VlS (.int .i64 ((t + 1 : Nat) : Int)) ?_
  refine VlS (.int .i64 ((t + 1 : Nat) : Int)) ?_
  refine WL.nil ?_
  refine ⟨⟨t + 1, v3, .pointer (some ⟨g2, 0, none⟩), .bool true, .pointer (some ⟨pb, po + t * 32, none⟩), .agg (bytesA 32 h.f), u5, .slice (some ⟨sb, so, none⟩) L.length sc, .map (some mb), .agg (bytesA 32 h.f), .int .i64 (ix : Int), .pointer (some ⟨sb, so + ix * 36, none⟩), .agg ee, .agg e1, .slice (some ⟨we.heap.size, 0, none⟩) 1 1, v3, .int .i64 ((t + 1 : Nat) : Int), rfl, by omega, JVg.out, H ++ [(x.1, p1, q1)], JOg.out, ?_⟩, by simp [intOf]; omega⟩
  rw [List.take_succ_eq_append_getElem htl, List.map_append, ← JE.out, ← hh.out]
  have hen : entOf (exs L) h = x.1 := by
   unfold entOf
   rw [hix.out, exs_get? L ix hixl, Option.getD_some, ← hx.out]
  rw [List.map_cons, List.map_nil, hen]
  simp only [exs, List.map_append, List.map_cons, List.map_nil]
 ·have hte : t = ol.length := by omega
  subst hte
  refine wp_seq_k fun K9 hK9 => rgn ?_
  refine VbF ?_
  refine WL.nil (hK9 _ _ ?_)
  refine wp_seq_k fun K10 hK10 => ?_
  refine wp_cond_false rfl ?_
  refine wp_exit ?_
  refine hK3 _ _ ?_
  refine wp_seq_k fun K11 hK11 => rgn ?_
  refine VlS (u5) ?_
  refine VlS (u5) ?_
  refine WL.nil (hK11 _ _ ?_)
  refine wp_ret ?_
  go_ret
  have hE : exs H = ol.map (entOf (exs L)) := by have := JE.out; rwa [List.take_length] at this
  have hid : idsE (exs H) = ol := by
   rw [hE, idsE, List.map_map]
   conv => rhs; rw [← List.map_id ol]
   exact List.map_congr_left fun h hh => (entOf_id ((HP.out.mem h).1 hh)).1
  refine ⟨_, H, rfl, JO.out, by rw [hid]; exact HP.out.one, by rw [hid]; exact HP.out.mem, fun x hx => ?_, by rw [← exs_len H, hE, List.length_map]; exact HP.out.len⟩
  rw [hE] at hx
  obtain ⟨h, hh, rfl⟩ := List.mem_map.1 hx
  exact (entOf_id ((HP.out.mem h).1 hh)).2
def sc (e : Nat × List Nat) : Value := .slice (some ⟨e.1, 0, none⟩) e.2.length e.2.length
def nilS : Value := .slice none 0 0
def undF (U : List (List Nat)) (i : Nat) (ks : List Nat) : List Nat := ks.foldl (fun W k => joinW W (U.getD k [])) (addW (List.replicate ((i + 1 + 63) / 64) 0) i)
theorem undF_len (U : List (List Nat)) (i : Nat) (ks : List Nat) : (undF U i ks).length = (i + 1 + 63) / 64 := by
 unfold undF
 generalize hW : addW (List.replicate ((i + 1 + 63) / 64) 0) i = W
 have h0 : W.length = (i + 1 + 63) / 64 := by rw [← hW, addW_len, List.length_replicate]
 clear hW
 induction ks generalizing W with
 | nil => exact h0
 | cons k ks ih => exact ih _ (by rw [joinW_len]; exact h0)
theorem undF_wds {U : List (List Nat)} (hU : ∀ k, Wds (U.getD k [])) (i : Nat) (ks : List Nat) : Wds (undF U i ks) := by
 unfold undF
 generalize hW : addW (List.replicate ((i + 1 + 63) / 64) 0) i = W
 have h0 : Wds W := by rw [← hW]; exact (Wds.room _).add i
 clear hW
 induction ks generalizing W with
 | nil => exact h0
 | cons k ks ih => exact ih _ (h0.join (hU k))
theorem undF_snoc (U : List (List Nat)) (i : Nat) (ks : List Nat) (k : Nat) : undF U i (ks ++ [k]) = joinW (undF U i ks) (U.getD k []) := by
 unfold undF; rw [List.foldl_append]; rfl
theorem undF_congr {U V : List (List Nat)} {i : Nat} {ks : List Nat} (h : ∀ k ∈ ks, U.getD k [] = V.getD k []) : undF U i ks = undF V i ks := by
 unfold undF
 generalize addW (List.replicate ((i + 1 + 63) / 64) 0) i = W
 induction ks generalizing W with
 | nil => rfl
 | cons k ks ih =>
  rw [List.foldl_cons, List.foldl_cons, h k List.mem_cons_self]
  exact ih (fun q hq => h q (List.mem_cons_of_mem _ hq)) _
def Topo (H : List EX) : Prop := ∀ i (hi : i < H.length), ∀ h ∈ H[i].N.ps, ixH (idsE H) h < i
def pA (v : Value) (mb ub n : Nat) : Array Value := #[v, .map (some mb), .slice (some ⟨ub, 0, none⟩) n n]
structure LaySt (w : World) (v : Value) (H : List EP) (pb mb ub t : Nat) (S : List (Nat × List Nat)) (wr : World) : Prop where
 p : Blk wr pb 83 (pA v mb ub H.length)
 m : IxAt wr mb (idsE (exs (H.take t)))
 u : Blk wr ub 100 (S.map sc ++ List.replicate (H.length - S.length) nilS).toArray
 s : ∀ e ∈ S, Blk wr e.1 93 (wdV e.2).toArray ∧ w.heap.size ≤ e.1
 nd : (S.map (·.1)).Nodup
 bel : Below w.heap.size w wr
 lp : w.heap.size ≤ pb
 lm : w.heap.size ≤ mb
 lu : w.heap.size ≤ ub
theorem LaySt.below {w : World} {v : Value} {H : List EP} {pb mb ub t : Nat} {S : List (Nat × List Nat)} {wr wr' : World} (h : LaySt w v H pb mb ub t S wr) (hb : Below wr.heap.size wr wr') : LaySt w v H pb mb ub t S wr' :=
 { h with p := h.p.below hb h.p.lt, m := h.m.below hb, u := h.u.below hb h.u.lt, s := fun e he => ⟨(h.s e he).1.below hb (h.s e he).1.lt, (h.s e he).2⟩, bel := belowC h.bel hb }
theorem sets_set (S : List (Nat × List Nat)) (n : Nat) (e : Nat × List Nat) (h : S.length < n) : (S.map sc ++ List.replicate (n - S.length) nilS).toArray.setIfInBounds S.length (sc e) = ((S ++ [e]).map sc ++ List.replicate (n - (S ++ [e]).length) nilS).toArray := by
 rw [List.setIfInBounds_toArray]
 congr 1
 obtain ⟨k, hk⟩ : ∃ k, n - S.length = k + 1 := ⟨n - S.length - 1, by omega⟩
 have hk2 : n - (S ++ [e]).length = k := by simp; omega
 rw [hk, hk2, List.set_append_right _ _ (by simp), List.length_map, Nat.sub_self, List.replicate_succ, List.set_cons_zero, List.map_append, List.append_assoc]
 rfl
theorem sets_get (S : List (Nat × List Nat)) (n i : Nat) (h : i < S.length) : (S.map sc ++ List.replicate n nilS).toArray[i]? = some (sc S[i]) := by
 rw [List.getElem?_toArray, List.getElem?_append_left (by simpa using h), List.getElem?_map, List.getElem?_eq_getElem h]; rfl
theorem sets_get0 (S : List (Nat × List Nat)) (n : Nat) (h : S.length < n) : (S.map sc ++ List.replicate (n - S.length) nilS).toArray[S.length]? = some nilS := by
 rw [List.getElem?_toArray, List.getElem?_append_right (by simp), List.length_map, Nat.sub_self, List.getElem?_replicate, if_pos (by omega)]
theorem LaySt.push {w : World} {v : Value} {H : List EP} {pb mb ub t g : Nat} {S : List (Nat × List Nat)} {W : List Nat} {wr : World} (h : LaySt w v H pb mb ub t S wr) (hg : Blk wr g 93 (wdV W).toArray) (hgl : w.heap.size ≤ g) (hgn : ∀ e ∈ S, e.1 ≠ g) (hl : S.length < H.length) : LaySt w v H pb mb ub t (S ++ [(g, W)]) (wr.setCell ⟨ub, S.length, none⟩ (sc (g, W))) := by
 have hG : Grown wr (wr.setCell ⟨ub, S.length, none⟩ (sc (g, W))) fun k => k = ub := Grown.setCell wr ub _ _ fun _ => rfl
 have hn : ∀ {k : Nat} {T : TypeId} {cs : Array Value}, Blk wr k T cs → T ≠ 100 → ¬ k = ub := fun hb hT e => by subst e; exact hT (blk_type hb h.u)
 refine { h with p := hG.blk h.p (hn h.p (by decide)), m := h.m.grown hG fun e => h.m.ne h.u e.symm, u := ?_, s := fun e he => ?_, nd := ?_, bel := h.bel.trans (hG.to_below (fun k hk e => by have := h.lu; omega) h.bel.size) }
 ·have := h.u.set S.length (sc (g, W))
  rw [sets_set S H.length (g, W) hl] at this
  exact this
 ·rcases List.mem_append.1 he with he | he
  ·exact ⟨hG.blk (h.s e he).1 (hn (h.s e he).1 (by decide)), (h.s e he).2⟩
  ·rw [List.mem_singleton.1 he]; exact ⟨hG.blk hg (hn hg (by decide)), hgl⟩
 ·rw [List.map_append, List.nodup_append]
  refine ⟨h.nd, by simp, fun a ha b hb => ?_⟩
  obtain ⟨e, he, rfl⟩ := List.mem_map.1 ha
  simp only [List.map_cons, List.map_nil, List.mem_singleton] at hb
  rw [hb]; exact hgn e he
theorem LaySt.last {w : World} {v : Value} {H : List EP} {pb mb ub t g : Nat} {S : List (Nat × List Nat)} {W W' : List Nat} {wr wr' : World} (h : LaySt w v H pb mb ub t (S ++ [(g, W)]) wr) (hg : Blk wr' g 93 (wdV W').toArray) (hG : Grown wr wr' fun k => k = g) (hl : W'.length = W.length) : LaySt w v H pb mb ub t (S ++ [(g, W')]) wr' := by
 have hs0 := h.s (g, W) (List.mem_append_right _ (List.mem_singleton.2 rfl))
 have hn : ∀ {k : Nat} {T : TypeId} {cs : Array Value}, Blk wr k T cs → T ≠ 93 → ¬ k = g := fun hb hT e => by subst e; exact hT (blk_type hb hs0.1)
 have hsc : (S ++ [(g, W')]).map sc = (S ++ [(g, W)]).map sc := by simp [sc, hl]
 have hnd := h.nd
 rw [List.map_append, List.nodup_append] at hnd
 refine { h with p := hG.blk h.p (hn h.p (by decide)), m := h.m.grown hG fun e => h.m.ne hs0.1 e.symm, u := ?_, s := fun e he => ?_, nd := by simpa using h.nd, bel := h.bel.trans (hG.to_below (fun k hk e => by have := hs0.2; simp only at this; omega) h.bel.size) }
 ·have := hG.blk h.u (hn h.u (by decide))
  rw [hsc]
  simpa using this
 ·rcases List.mem_append.1 he with he | he
  ·refine ⟨hG.blk (h.s e (List.mem_append_left _ he)).1 ?_, (h.s e (List.mem_append_left _ he)).2⟩
   exact hnd.2.2 e.1 (List.mem_map.2 ⟨e, he, rfl⟩) g (by simp)
  ·rw [List.mem_singleton.1 he]; exact ⟨hg, hs0.2⟩
theorem LaySt.put {w : World} {v : Value} {H : List EP} {pb mb ub t t' : Nat} {S : List (Nat × List Nat)} {wr wr' : World} (h : LaySt w v H pb mb ub t S wr) (hm : IxAt wr' mb (idsE (exs (H.take t')))) (hG : Grown wr wr' fun k => k = mb) : LaySt w v H pb mb ub t' S wr' :=
 { h with p := hG.blk h.p (h.m.ne h.p), m := hm, u := hG.blk h.u (h.m.ne h.u), s := fun e he => ⟨hG.blk (h.s e he).1 (h.m.ne (h.s e he).1), (h.s e he).2⟩, bel := h.bel.trans (hG.to_below (fun k hk e => by have := h.lm; omega) h.bel.size) }
theorem wp_mkS {o : Oper} {a : Act} {w : World} {K : Act → World → Prop} {Q : Exit → Act → World → Prop} (t : TypeId) (x y : Operand) (ho : o.op = .makeSlice t x y) (vx vy : Value) (hx : a.eval x = vx) (hy : a.eval y = vy) (v : Value) (w' : World)
  (hr : (Instr.makeSlice t vx vy).run Tryz.prog w = .ok v w') (h : K (a.put o.dst v) w') : o.wp Tryz.prog a w K Q := by
 unfold Oper.wp
 simp only [execOp, ho, hx, hy, Sem.run_bind, hr, Result.andThen_ok]
 exact h
theorem wp_mkM {o : Oper} {a : Act} {w : World} {K : Act → World → Prop} {Q : Exit → Act → World → Prop} (t : TypeId) (x : Operand) (ho : o.op = .makeMap t (some x)) (vx : Value) (hx : a.eval x = vx) (v : Value) (w' : World)
  (hr : (Instr.makeMap t (some vx)).run Tryz.prog w = .ok v w') (h : K (a.put o.dst v) w') : o.wp Tryz.prog a w K Q := by
 unfold Oper.wp
 simp only [execOp, ho, hx, Option.map_some, Sem.run_bind, hr, Result.andThen_ok]
 exact h
theorem wp_boxG {o : Oper} {a : Act} {w : World} {K : Act → World → Prop} {Q : Exit → Act → World → Prop} (t : TypeId) (x : Operand) (ho : o.op = .box t x) (cs : Array Value) (hx : a.eval x = .agg cs)
  (h : K (a.put o.dst (.pointer (some ⟨w.heap.size, 0, none⟩))) (w.alloc (.cells cs t))) : o.wp Tryz.prog a w K Q := by
 unfold Oper.wp execOp
 simp only [ho, hx, Sem.run_bind, run_box_agg, Result.andThen_ok]
 exact h
theorem wp_updI {o : Oper} {a : Act} {w : World} {K : Act → World → Prop} {Q : Exit → Act → World → Prop} (m k x : Operand) (ho : o.op = .mapUpdate 73 m k x) (vm vk vx : Value) (hm : a.eval m = vm) (hk : a.eval k = vk) (hx : a.eval x = vx) (w' : World)
  (hr : (Instr.mapUpdate 73 vm vk vx).run Tryz.prog w = .ok () w') (h : K (a.put o.dst undef) w') : o.wp Tryz.prog a w K Q := by
 unfold Oper.wp execOp
 simp only [ho, hm, hk, hx, Sem.run_bind, hr, Result.andThen_ok]
 exact h
theorem yieldsIf_lookI {ops : Array Oper} {S : World → Prop} {op : Oper} {a : Act} (hw : Region.wanted op (yielded ops a.tmps) = true) (m k : Operand) (c : Bool) (ho : op.op = .lookup 73 m k c) (vm vk : Value) (hm : a.eval m = vm) (hk : a.eval k = vk) (v : Value)
  (hS : ∀ w, S w → (Instr.lookup 73 vm vk c).run Tryz.prog w = .ok v w) : YieldsIf Tryz.prog ops S op v a :=
 .inl ⟨hw, fun w h => by simp only [execOp, ho, hm, hk, Sem.run_bind, hS w h, Result.andThen_ok]; rfl⟩
theorem Tryz.mkmapN (n : Nat) (hn : n ≤ 1000000) (w : World) : (Instr.makeMap 73 (some (.int .i64 (n : Int)))).run Tryz.prog w = .ok (.map (some w.heap.size)) (w.alloc (.map #[] 0)) := by kernel_rfl
theorem Tryz.info100z : (Tryz.prog.info? 100).map (fun i => (i.zero, i.size, i.bytes)) = some (some (.slice none 0 0), 1, 24) := by kernel_rfl
set_option maxRecDepth 8000 in
theorem run_makeSs (n : Nat) (hn : n ≤ 1000000) (w : World) : (Instr.makeSlice 81 (.int .i64 (n : Int)) (.int .i64 (n : Int))).run Tryz.prog w = .ok (.slice (some ⟨w.heap.size, 0, none⟩) n n) (w.alloc (.cells (List.replicate n nilS).toArray 100)) := by
 obtain ⟨i, hi, hzz⟩ := Option.map_eq_some_iff.1 Tryz.info100z
 simp only [Prod.mk.injEq] at hzz
 obtain ⟨hz, hs, hb⟩ := hzz
 have hr := run_make (P := Tryz.prog) w 81 100 i _ Tryz.underlying81 hi hz .i64 .i64 (n : Int) (n : Int) (by omega) (by omega) (by rw [hb]; omega) (by omega)
 simp only [Int.toNat_natCast, hs, Value.cells, Nat.mul_one] at hr
 rw [hr]
 congr 3
 apply Array.ext
 ·simp [size_madeCells]
 ·intro i h1 h2
  simp [madeCells, nilS, Nat.mod_one]
def LayPost (H : List EP) (v : Value) (w : World) (e : Ending) (w' : World) : Prop :=
 ∃ pb mb ub S, e = .returned (.pointer (some ⟨pb, 0, none⟩)) ∧ LaySt w v H pb mb ub H.length S w' ∧ S.length = H.length ∧ ∀ i (hi : i < S.length), S[i].2 = undF (S.map (·.2)) i ((((exs H)[i]?).getD dEX).N.ps.map (ixH (idsE (exs H)))) ∧ i < H.length ∧ Wds S[i].2
set_option maxRecDepth 8000 in
set_option maxHeartbeats 8000000 in
theorem lay_any (v : Value) (H : List EP) (w : World) (hs : ESl w v H) (hi : EIn w H) (hnd : (idsE (exs H)).Nodup) (hT : Topo (exs H)) (hn : H.length ≤ 4096) (hps : ∀ q ∈ H, q.1.N.ps.length ≤ 64) : Calls Tryz.prog 33 #[v] w (LayPost H v w) := by
 obtain ⟨sa, sc0, rfl⟩ := hs.form
 have HS := Keep.mk hs
 have HI := Keep.mk hi
 have Hnd := Keep.mk hnd
 have HT := Keep.mk hT
 have Hn := Keep.mk hn
 have Hps := Keep.mk hps
 clear hs hi hnd hT hn hps
 go_enter Tryz.func33, Tryz.ntmps33
 refine wp_seq_k fun K1 hK1 => rgn ?_
 refine VlS (.pointer none) ?_
 refine WL.nil (hK1 _ _ ?_)
 refine wp_seq_k fun K2 hK2 => ?_
 have hD0 : Keep (Below w.heap.size w w.drew) := ⟨(Below.refl _ _).drew⟩
 refine wp_region_held_drew (S := fun _ => True) (by kernel_rfl) (trivial) (fun hHeld => ?_)
 refine TkG (i := 0) (oi := ⟨some 8, Op.move (Operand.tmp 0), 23, _, _, none⟩) (v := .slice sa H.length sc0) rfl hHeld ?_
 refine TkG (i := 1) (oi := ⟨some 9, Op.move (Operand.tmp 0), 23, _, _, none⟩) (v := .slice sa H.length sc0) rfl hHeld ?_
 refine TkG (i := 2) (oi := ⟨some 10, Op.call { callee := Callee.builtin Builtin.len, args := #[Operand.tmp 9], argTypes := #[23] }, 3, _, _, none⟩) (v := .int .i64 (H.length : Int)) rfl hHeld ?_
 refine TkG (i := 4) (oi := ⟨some 12, Op.move (Operand.tmp 0), 23, _, _, none⟩) (v := .slice sa H.length sc0) rfl hHeld ?_
 refine TkG (i := 5) (oi := ⟨some 13, Op.call { callee := Callee.builtin Builtin.len, args := #[Operand.tmp 12], argTypes := #[23] }, 3, _, _, none⟩) (v := .int .i64 (H.length : Int)) rfl hHeld ?_
 refine wpAnyH_ready (rs := [3, 6]) (by kernel_rfl) (by simp) ?_
 refine AllReadyH.cons (o := ⟨some 11, Op.makeMap 73 (some (Operand.tmp 10)), 73, _, _, none⟩) rfl (fun K hK => ?_) (AllReadyH.cons (o := ⟨some 14, Op.makeSlice 81 (Operand.tmp 13) (Operand.tmp 13), 81, _, _, none⟩) rfl (fun K hK => ?_) AllReadyH.nil)
 rw [if_pos (by rfl)]
 refine wp_mkM 73 (.tmp 10) rfl _ rfl _ _ (Tryz.mkmapN H.length (by have := Hn.out; omega) w.drew) ?_
 obtain ⟨mb, hmb⟩ : ∃ b, Keep (b = w.drew.heap.size) := ⟨_, ⟨rfl⟩⟩
 obtain ⟨wA, hwb1⟩ : ∃ wx, Keep (wx = w.drew.alloc (.map #[] 0)) := ⟨_, ⟨rfl⟩⟩
 rw [← hmb.out, ← hwb1.out]
 have HM1 : Keep (IxAt wA mb []) := ⟨by rw [hmb.out, hwb1.out]; exact IxAt.new _⟩
 have BB1 : Keep (Below w.drew.heap.size w.drew wA) := ⟨by rw [hwb1.out]; exact below_new _ _⟩
 refine hK _ _ trivial fun hH1 => ?_
 clear hK hwb1
 simp only [Act.put, pqA, pqB, pqC]
 refine wpAnyH_ready (rs := [6]) (by kernel_rfl) (by simp) ?_
 refine AllReadyH.cons (o := ⟨some 14, Op.makeSlice 81 (Operand.tmp 13) (Operand.tmp 13), 81, _, _, none⟩) rfl (fun K hK => ?_) AllReadyH.nil
 rw [if_pos (by rfl)]
 refine wp_mkS 81 (.tmp 13) (.tmp 13) rfl _ _ rfl rfl _ _ (run_makeSs H.length (by have := Hn.out; omega) wA) ?_
 obtain ⟨ub, hub⟩ : ∃ b, Keep (b = wA.heap.size) := ⟨_, ⟨rfl⟩⟩
 obtain ⟨wB, hwb2⟩ : ∃ wx, Keep (wx = wA.alloc (.cells (List.replicate H.length nilS).toArray 100)) := ⟨_, ⟨rfl⟩⟩
 rw [← hub.out, ← hwb2.out]
 have HU2 : Keep (Blk wB ub 100 (List.replicate H.length nilS).toArray) := ⟨by rw [hub.out, hwb2.out]; exact Blk.new _ _ _⟩
 have BB2 : Keep (Below wA.heap.size wA wB) := ⟨by rw [hwb2.out]; exact below_new _ _⟩
 refine hK _ _ trivial fun hH2 => ?_
 clear hK hwb2
 have HM : Keep (IxAt wB mb []) := ⟨HM1.out.below BB2.out⟩
 have HU := HU2
 clear HM1 HU2
 have LB : Keep (Below w.heap.size w wB) := ⟨belowC (belowC hD0.out BB1.out) BB2.out⟩
 have lmu : Keep (w.heap.size ≤ mb ∧ w.heap.size ≤ ub) := ⟨by have h1 : w.heap.size ≤ w.drew.heap.size := Nat.le_refl _; have h2 := BB1.out.size; rw [hmb.out, hub.out]; omega⟩
 clear hmb hub BB1 BB2
 simp only [Act.put, pqA, pqB, pqC]
 refine wpAnyH_ready (rs := [7]) (by kernel_rfl) (by simp) ?_
 refine AllReadyH.cons (o := ⟨some 15, Op.build 83 #[(0, Operand.tmp 8), (1, Operand.tmp 11), (2, Operand.tmp 14)], 83, _, _, none⟩) rfl (fun K hK => ?_) AllReadyH.nil
 rw [if_pos (by rfl)]
 refine wp_bldG 83 _ rfl (pA (.slice sa H.length sc0) mb ub H.length) (by simp [Act.eval]; kernel_rfl) ?_
 refine hK _ _ trivial fun hH3 => ?_
 clear hK
 simp only [Act.put, pqA, pqB, pqC]
 refine wpAnyH_ready (rs := [8]) (by kernel_rfl) (by simp) ?_
 refine AllReadyH.cons (o := ⟨some 16, Op.box 83 (Operand.tmp 15), 25, _, _, none⟩) rfl (fun K hK => ?_) AllReadyH.nil
 rw [if_pos (by rfl)]
 refine wp_boxG 83 (.tmp 15) rfl (pA (.slice sa H.length sc0) mb ub H.length) rfl ?_
 obtain ⟨pb, hpb⟩ : ∃ b, Keep (b = wB.heap.size) := ⟨_, ⟨rfl⟩⟩
 obtain ⟨wC, hwC⟩ : ∃ wx, Keep (wx = wB.alloc (.cells (pA (.slice sa H.length sc0) mb ub H.length) 83)) := ⟨_, ⟨rfl⟩⟩
 rw [← hpb.out, ← hwC.out]
 have HPb : Keep (Blk wC pb 83 (pA (.slice sa H.length sc0) mb ub H.length)) := ⟨by rw [hpb.out, hwC.out]; exact Blk.new _ _ _⟩
 have BB3 : Keep (Below wB.heap.size wB wC) := ⟨by rw [hwC.out]; exact below_new _ _⟩
 have HS0 : Keep (LaySt w (.slice sa H.length sc0) H pb mb ub 0 [] wC) := ⟨⟨HPb.out, by rw [List.take_zero]; exact HM.out.below BB3.out, HU.out.below BB3.out HU.out.lt, fun e he => by simp at he, by simp, belowC LB.out BB3.out, by rw [hpb.out]; exact LB.out.size, lmu.out.1, lmu.out.2⟩⟩
 refine hK _ _ trivial fun hH4 => ?_
 clear hK hwC hpb HPb BB3 HM HU LB lmu hD0
 simp only [Act.put, pqA, pqB, pqC]
 refine TkG (i := 9) (oi := ⟨some 3, Op.assign (Operand.tmp 16), 25, _, _, none⟩) (v := .pointer (some ⟨pb, 0, none⟩)) rfl hH4 ?_
 refine wpAnyH_done (by kernel_rfl) ?_ _
 rotate_left
 rw [if_pos (by rfl)]
 refine wp_mkS 81 (.tmp 13) (.tmp 13) rfl _ _ rfl rfl _ _ (run_makeSs H.length (by have := Hn.out; omega) w.drew) ?_
 obtain ⟨ub, hub⟩ : ∃ b, Keep (b = w.drew.heap.size) := ⟨_, ⟨rfl⟩⟩
 obtain ⟨wA, hwb1⟩ : ∃ wx, Keep (wx = w.drew.alloc (.cells (List.replicate H.length nilS).toArray 100)) := ⟨_, ⟨rfl⟩⟩
 rw [← hub.out, ← hwb1.out]
 have HU1 : Keep (Blk wA ub 100 (List.replicate H.length nilS).toArray) := ⟨by rw [hub.out, hwb1.out]; exact Blk.new _ _ _⟩
 have BB1 : Keep (Below w.drew.heap.size w.drew wA) := ⟨by rw [hwb1.out]; exact below_new _ _⟩
 refine hK _ _ trivial fun hH1 => ?_
 clear hK hwb1
 simp only [Act.put, pqA, pqB, pqC]
 refine wpAnyH_ready (rs := [3]) (by kernel_rfl) (by simp) ?_
 refine AllReadyH.cons (o := ⟨some 11, Op.makeMap 73 (some (Operand.tmp 10)), 73, _, _, none⟩) rfl (fun K hK => ?_) AllReadyH.nil
 rw [if_pos (by rfl)]
 refine wp_mkM 73 (.tmp 10) rfl _ rfl _ _ (Tryz.mkmapN H.length (by have := Hn.out; omega) wA) ?_
 obtain ⟨mb, hmb⟩ : ∃ b, Keep (b = wA.heap.size) := ⟨_, ⟨rfl⟩⟩
 obtain ⟨wB, hwb2⟩ : ∃ wx, Keep (wx = wA.alloc (.map #[] 0)) := ⟨_, ⟨rfl⟩⟩
 rw [← hmb.out, ← hwb2.out]
 have HM2 : Keep (IxAt wB mb []) := ⟨by rw [hmb.out, hwb2.out]; exact IxAt.new _⟩
 have BB2 : Keep (Below wA.heap.size wA wB) := ⟨by rw [hwb2.out]; exact below_new _ _⟩
 refine hK _ _ trivial fun hH2 => ?_
 clear hK hwb2
 have HM := HM2
 have HU : Keep (Blk wB ub 100 (List.replicate H.length nilS).toArray) := ⟨HU1.out.below BB2.out HU1.out.lt⟩
 clear HU1 HM2
 have LB : Keep (Below w.heap.size w wB) := ⟨belowC (belowC hD0.out BB1.out) BB2.out⟩
 have lmu : Keep (w.heap.size ≤ mb ∧ w.heap.size ≤ ub) := ⟨by have h1 : w.heap.size ≤ w.drew.heap.size := Nat.le_refl _; have h2 := BB1.out.size; rw [hmb.out, hub.out]; omega⟩
 clear hmb hub BB1 BB2
 simp only [Act.put, pqA, pqB, pqC]
 refine wpAnyH_ready (rs := [7]) (by kernel_rfl) (by simp) ?_
 refine AllReadyH.cons (o := ⟨some 15, Op.build 83 #[(0, Operand.tmp 8), (1, Operand.tmp 11), (2, Operand.tmp 14)], 83, _, _, none⟩) rfl (fun K hK => ?_) AllReadyH.nil
 rw [if_pos (by rfl)]
 refine wp_bldG 83 _ rfl (pA (.slice sa H.length sc0) mb ub H.length) (by simp [Act.eval]; kernel_rfl) ?_
 refine hK _ _ trivial fun hH3 => ?_
 clear hK
 simp only [Act.put, pqA, pqB, pqC]
 refine wpAnyH_ready (rs := [8]) (by kernel_rfl) (by simp) ?_
 refine AllReadyH.cons (o := ⟨some 16, Op.box 83 (Operand.tmp 15), 25, _, _, none⟩) rfl (fun K hK => ?_) AllReadyH.nil
 rw [if_pos (by rfl)]
 refine wp_boxG 83 (.tmp 15) rfl (pA (.slice sa H.length sc0) mb ub H.length) rfl ?_
 obtain ⟨pb, hpb⟩ : ∃ b, Keep (b = wB.heap.size) := ⟨_, ⟨rfl⟩⟩
 obtain ⟨wC, hwC⟩ : ∃ wx, Keep (wx = wB.alloc (.cells (pA (.slice sa H.length sc0) mb ub H.length) 83)) := ⟨_, ⟨rfl⟩⟩
 rw [← hpb.out, ← hwC.out]
 have HPb : Keep (Blk wC pb 83 (pA (.slice sa H.length sc0) mb ub H.length)) := ⟨by rw [hpb.out, hwC.out]; exact Blk.new _ _ _⟩
 have BB3 : Keep (Below wB.heap.size wB wC) := ⟨by rw [hwC.out]; exact below_new _ _⟩
 have HS0 : Keep (LaySt w (.slice sa H.length sc0) H pb mb ub 0 [] wC) := ⟨⟨HPb.out, by rw [List.take_zero]; exact HM.out.below BB3.out, HU.out.below BB3.out HU.out.lt, fun e he => by simp at he, by simp, belowC LB.out BB3.out, by rw [hpb.out]; exact LB.out.size, lmu.out.1, lmu.out.2⟩⟩
 refine hK _ _ trivial fun hH4 => ?_
 clear hK hwC hpb HPb BB3 HM HU LB lmu hD0
 simp only [Act.put, pqA, pqB, pqC]
 refine TkG (i := 9) (oi := ⟨some 3, Op.assign (Operand.tmp 16), 25, _, _, none⟩) (v := .pointer (some ⟨pb, 0, none⟩)) rfl hH4 ?_
 refine wpAnyH_done (by kernel_rfl) ?_ _
 rotate_left
 all_goals
  refine hK2 _ _ ?_
  refine wp_seq_k fun K4 hK4 => ?_
  refine wp_seq_k fun K5 hK5 => rgn ?_
  refine VlS (.slice sa H.length sc0) ?_
  refine VlS (.int .i64 (H.length : Int)) ?_
  refine VlS (.int .i64 0) ?_
  refine WL.nil (hK5 _ _ ?_)
  refine wp_block ?_
  refine wp_loop (fun ac wr => ∃ (t : Nat) (f : Nat → Value), ac = { tmps := #[.slice sa H.length sc0, undef, .pointer none, .pointer (some ⟨pb, 0, none⟩), f 4, f 5, undef, f 7, .slice sa H.length sc0, .slice sa H.length sc0, .int .i64 (H.length : Int), .map (some mb), .slice sa H.length sc0, .int .i64 (H.length : Int), .slice (some ⟨ub, 0, none⟩) H.length H.length, .agg (pA (.slice sa H.length sc0) mb ub H.length), .pointer (some ⟨pb, 0, none⟩), .slice sa H.length sc0, .int .i64 (H.length : Int), .int .i64 (t : Int), f 20, f 21, f 22, f 23, f 24, f 25, f 26, f 27, f 28, f 29, f 30, f 31, f 32, f 33, f 34, f 35, f 36, f 37, f 38, f 39, f 40, f 41, f 42, f 43, f 44, f 45, f 46, f 47, f 48, f 49, f 50, f 51, f 52, f 53, f 54, f 55, f 56, f 57, f 58, f 59, f 60, f 61, f 62, f 63, f 64, f 65, f 66, f 67, f 68, f 69, f 70, f 71, f 72, f 73, f 74, f 75, f 76, f 77, f 78, undef], defers := [] } ∧ t ≤ H.length ∧ ∃ S, LaySt w (.slice sa H.length sc0) H pb mb ub t S wr ∧ S.length = t ∧ ∀ i (hi : i < S.length), S[i].2 = undF (S.map (·.2)) i ((((exs H)[i]?).getD dEX).N.ps.map (ixH (idsE (exs H)))) ∧ i < H.length ∧ Wds S[i].2) (fun a _ => H.length - (intOf (a.tmps.getD 19 undef)).toNat) ⟨0, fun i => [.slice sa H.length sc0, undef, .pointer none, .pointer (some ⟨pb, 0, none⟩), undef, undef, undef, undef, .slice sa H.length sc0, .slice sa H.length sc0, .int .i64 (H.length : Int), .map (some mb), .slice sa H.length sc0, .int .i64 (H.length : Int), .slice (some ⟨ub, 0, none⟩) H.length H.length, .agg (pA (.slice sa H.length sc0) mb ub H.length), .pointer (some ⟨pb, 0, none⟩), .slice sa H.length sc0, .int .i64 (H.length : Int), .int .i64 0, undef, undef, undef, undef, undef, undef, undef, undef, undef, undef, undef, undef, undef, undef, undef, undef, undef, undef, undef, undef, undef, undef, undef, undef, undef, undef, undef, undef, undef, undef, undef, undef, undef, undef, undef, undef, undef, undef, undef, undef, undef, undef, undef, undef, undef, undef, undef, undef, undef, undef, undef, undef, undef, undef, undef, undef, undef, undef, undef, undef].getD i undef, rfl, by omega, [], HS0.out, rfl, fun i hi => by simp at hi⟩ ?_
  rintro ac wr ⟨t, f, rfl, ht, hX⟩
  obtain ⟨S, hS, hl, hU⟩ := hX
  have JS := Keep.mk hS
  have JL := Keep.mk hl
  have JU := Keep.mk hU
  clear hS hl hU
  by_cases htl : t < H.length
  ·have htl' : (t : Int) < (H.length : Int) := by omega
   have ht0 : (0 : Int) ≤ (t : Int) := by omega
   have hwt : IntKind.i64.wrap ((t : Int) + 1) = ((t + 1 : Nat) : Int) := by rw [IntKind.wrap_i64]; have := Hn.out; omega
   obtain ⟨sb, so, rfl, hrg⟩ := esl_range (HS.out.below JS.out.bel) htl
   obtain ⟨x, hx⟩ : ∃ x, Keep (x = H[t]) := ⟨_, ⟨rfl⟩⟩
   rw [← hx.out] at hrg
   have hxH : Keep (x ∈ H) := ⟨by rw [hx.out]; exact List.getElem_mem htl⟩
   obtain ⟨pa, pc, hpv⟩ := (HI.out x hxH.out).ps.form
   obtain ⟨ee, hee⟩ : ∃ a : Array Value, Keep (a = entA x.1.id.f x.1.N.au x.1.N.ck (.slice pa x.1.N.ps.length pc) x.2.2) := ⟨_, ⟨rfl⟩⟩
   have HR : Keep (wr.rangeAt sb (so + t * 36) ee.toList) := ⟨by rw [hee.out, ← hpv]; exact hrg⟩
   clear hrg
   have HP : Keep (HRow w (.slice pa x.1.N.ps.length pc) x.1.N.ps) := ⟨by rw [← hpv]; exact (HI.out x hxH.out).ps⟩
   clear hpv
   have hpl : x.1.N.ps.length ≤ 64 := Hps.out x hxH.out
   have hid : Keep (x.1.id ∉ idsE (exs (H.take t))) := ⟨by
    have h1 : (idsE (exs H))[t]'(by rw [idsE_len, exs_len]; exact htl) = x.1.id := by rw [hx.out]; simp [idsE, exs]
    have h2 : idsE (exs (H.take t)) = (idsE (exs H)).take t := by simp [idsE, exs, List.map_take]
    rw [h2, ← h1]
    intro hm
    obtain ⟨j, hj, e⟩ := List.mem_take_iff_getElem.1 hm
    have := (List.getElem_inj Hnd.out).1 e
    omega⟩
   have HWd : Keep (∀ k, Wds ((S.map (·.2)).getD k [])) := ⟨fun k => by
    rw [List.getD_eq_getElem?_getD, List.getElem?_map]
    by_cases hk : k < S.length
    ·rw [List.getElem?_eq_getElem hk]; exact (JU.out k hk).2.2
    ·rw [List.getElem?_eq_none (by omega)]; intro i; simp⟩
   have Hlen : Keep (∀ k (hk : k < S.length), S[k].2.length = (k + 1 + 63) / 64 ∧ Wds S[k].2) := ⟨fun k hk => ⟨by rw [(JU.out k hk).1, undF_len], (JU.out k hk).2.2⟩⟩
   refine wp_seq_k fun K6 hK6 => rgn ?_
   refine VbT ?_
   refine WL.nil (hK6 _ _ ?_)
   refine wp_seq_k fun K7 hK7 => ?_
   refine wp_cond_true rfl ?_
   refine wp_skip ?_
   refine hK7 _ _ ?_
   refine wp_seq_k fun K8 hK8 => ?_
   refine wp_block ?_
   refine wp_seq_k fun K9 hK9 => rgn ?_
   refine VlS (.int .i64 (t : Int)) ?_
   refine VlS (.pointer (some ⟨sb, so + t * 36, none⟩)) ?_
   refine WL.midA (by kernel_rfl) 52 (.tmp 22) rfl sb (so + t * 36) rfl ee _ HR.out Tryz.underlying52 rfl (by rw [hee.out]; exact sizeE _ _ _ _ _) ?_
   simp only [Act.put, pqA, pqB, pqC]
   refine WL.new (by kernel_rfl) 52 rfl (entA (fun _ => 0) 0 0 (.slice none 0 0) (.slice none 0 0)) Tryz.new52 ?_
   obtain ⟨wb, hwn⟩ : ∃ wx, Keep (wx = wr.alloc (.cells (entA (fun _ => 0) 0 0 (.slice none 0 0) (.slice none 0 0)) 52)) := ⟨_, ⟨rfl⟩⟩
   rw [← hwn.out]
   have HZ : Keep (Blk wb wr.heap.size 52 (entA (fun _ => 0) 0 0 (.slice none 0 0) (.slice none 0 0))) := ⟨by rw [hwn.out]; exact Blk.new _ _ _⟩
   have LB : Keep (Below wr.heap.size wr wb) := ⟨by rw [hwn.out]; exact below_new _ _⟩
   clear hwn
   simp only [Act.put, pqA, pqB, pqC]
   refine VlS (.int .i64 (t : Int)) ?_
   refine WL.storeR (by kernel_rfl) 52 (.tmp 5) (.tmp 23) rfl wr.heap.size ee rfl rfl 52 _ HZ.out (by rw [hee.out]; exact sizeE _ _ _ _ _) (by rw [hee.out, entA_size, entA_size]) (by rw [hee.out]; exact entA_one _ _ _ _ _ rfl (by obtain ⟨a, c, e⟩ := (HI.out x hxH.out).ops.form; rw [e]; rfl)) ?_
   have HX := Keep.mk (HZ.out.setRow ee)
   have LX : Keep (Below wr.heap.size wr (wb.setRow wr.heap.size ee)) := ⟨below_setRow LB.out (Nat.le_refl _) _⟩
   generalize wb.setRow wr.heap.size ee = wx at *
   clear HZ LB
   have JSx := Keep.mk (JS.out.below LX.out)
   have hgx : Keep (∀ k T cs, Blk wr k T cs → k ≠ wr.heap.size) := ⟨fun k T cs h e => by have := h.lt; omega⟩
   have hgm : Keep (mb ≠ wr.heap.size) := ⟨by have := JS.out.m.lt; omega⟩
   generalize wr.heap.size = gx at *
   clear HR LX JS
   simp only [Act.put]
   refine WL.nil (hK9 _ _ ?_)
   refine wp_seq_k fun K10 hK10 => ?_
   have hS0 : Keep ((fun wz => wz.cell? ⟨pb, 1, none⟩ = some (.map (some mb)) ∧ wz.rangeAt gx 0 (bytesA 32 x.1.id.f).toList) wx.drew) := ⟨⟨JSx.out.p.drew.c 1 rfl, ent_range_id (hee.out ▸ blk_range HX.out.drew)⟩⟩
   obtain ⟨wy, hu, hmy, hgy⟩ := updI (JSx.out.m.below (Below.refl _ _).drew) x.1.id hid.out t (by rw [idsE_len, exs_len, List.length_take]; omega)
   have HXy := Keep.mk (hgy.blk HX.out.drew fun e => hgm.out e.symm)
   have JSy := Keep.mk ((JSx.out.below (Below.refl _ _).drew).put (t' := t + 1) (by rw [ids_snoc H t htl, ← hx.out]; exact hmy) hgy)
   refine wp_region_held_drew (S := fun wz => wz.cell? ⟨pb, 1, none⟩ = some (.map (some mb)) ∧ wz.rangeAt gx 0 (bytesA 32 x.1.id.f).toList) (by kernel_rfl) (hS0.out) (fun hHeld => ?_)
   refine tkS (i := 0) (oi := ⟨some 24, Op.move (Operand.tmp 3), 25, _, _, none⟩) (v := .pointer (some ⟨pb, 0, none⟩)) rfl (Or.inl ⟨by rfl, fun w hS => by obtain ⟨hS1, hS2⟩ := hS; go_simp⟩) hHeld ?_
   refine tkS (i := 1) (oi := ⟨some 25, Op.nilCheck (Operand.tmp 24), 0, _, _, none⟩) (v := .pointer (some ⟨pb, 0, none⟩)) rfl (Or.inl ⟨by rfl, fun w hS => by obtain ⟨hS1, hS2⟩ := hS; go_simp⟩) hHeld ?_
   refine tkS (i := 2) (oi := ⟨some 26, Op.fieldAddr 83 (Operand.tmp 25) 1, 0, _, _, none⟩) (v := .pointer (some ⟨pb, 1, none⟩)) rfl (Or.inl ⟨by rfl, fun w hS => by obtain ⟨hS1, hS2⟩ := hS; go_simp⟩) hHeld ?_
   refine tkS (i := 3) (oi := ⟨some 27, Op.load 73 (Operand.tmp 26), 73, _, _, none⟩) (v := .map (some mb)) rfl (Or.inl ⟨by rfl, fun w hS => by obtain ⟨hS1, hS2⟩ := hS; go_simp⟩) hHeld ?_
   refine tkS (i := 4) (oi := ⟨some 28, Op.fieldAddr 52 (Operand.tmp 5) 0, 0, _, _, none⟩) (v := .pointer (some ⟨gx, 0, none⟩)) rfl (Or.inl ⟨by rfl, fun w hS => by obtain ⟨hS1, hS2⟩ := hS; go_simp⟩) hHeld ?_
   refine tkS (i := 5) (oi := ⟨some 29, Op.load 36 (Operand.tmp 28), 36, _, _, none⟩) (v := .agg (bytesA 32 x.1.id.f)) rfl (yieldsIf_ld (by rfl) (Operand.tmp 28) 36 rfl gx 0 rfl (bytesA 32 x.1.id.f) _ Tryz.underlying36 rfl (size36E _) fun w hS => hS.2) hHeld ?_
   refine tkS (i := 6) (oi := ⟨some 30, Op.move (Operand.tmp 4), 3, _, _, none⟩) (v := .int .i64 (t : Int)) rfl (Or.inl ⟨by rfl, fun w hS => by obtain ⟨hS1, hS2⟩ := hS; go_simp⟩) hHeld ?_
   refine wpAnyH_ready (rs := [7]) (by kernel_rfl) (by simp) ?_
   refine AllReadyH.cons (o := ⟨none, Op.mapUpdate 73 (Operand.tmp 27) (Operand.tmp 29) (Operand.tmp 30), 0, _, _, none⟩) rfl (fun K hK => ?_) AllReadyH.nil
   rw [if_pos (by rfl)]
   refine wp_updI (.tmp 27) (.tmp 29) (.tmp 30) rfl _ _ _ rfl rfl rfl wy hu ?_
   refine hK _ _ ⟨JSy.out.p.c 1 rfl, ent_range_id (hee.out ▸ blk_range HXy.out)⟩ fun hH5 => ?_
   clear hK hu hmy hgy hS0 HX JSx
   simp only [Act.put, pqA, pqB, pqC]
   refine wpAnyH_done (by kernel_rfl) ?_ _
   refine hK10 _ _ ?_
   refine wp_seq_k fun K11 hK11 => ?_
   have hS0 : Keep ((fun wz => wz.cell? ⟨pb, 2, none⟩ = some (.slice (some ⟨ub, 0, none⟩) H.length H.length)) wy.drew) := ⟨JSy.out.p.drew.c 2 rfl⟩
   refine wp_region_held_drew (S := fun wz => wz.cell? ⟨pb, 2, none⟩ = some (.slice (some ⟨ub, 0, none⟩) H.length H.length)) (by kernel_rfl) (hS0.out) (fun hHeld => ?_)
   refine TkG (i := 0) (oi := ⟨some 31, Op.move (Operand.tmp 3), 25, _, _, none⟩) (v := .pointer (some ⟨pb, 0, none⟩)) rfl hHeld ?_
   refine TkG (i := 1) (oi := ⟨some 32, Op.nilCheck (Operand.tmp 31), 0, _, _, none⟩) (v := .pointer (some ⟨pb, 0, none⟩)) rfl hHeld ?_
   refine TkG (i := 2) (oi := ⟨some 33, Op.fieldAddr 83 (Operand.tmp 32) 2, 0, _, _, none⟩) (v := .pointer (some ⟨pb, 2, none⟩)) rfl hHeld ?_
   refine TkG (i := 3) (oi := ⟨some 34, Op.load 81 (Operand.tmp 33), 81, _, _, none⟩) (v := .slice (some ⟨ub, 0, none⟩) H.length H.length) rfl hHeld ?_
   refine TkG (i := 4) (oi := ⟨some 35, Op.move (Operand.tmp 4), 3, _, _, none⟩) (v := .int .i64 (t : Int)) rfl hHeld ?_
   refine TkG (i := 5) (oi := ⟨some 36, Op.move (Operand.tmp 4), 3, _, _, none⟩) (v := .int .i64 (t : Int)) rfl hHeld ?_
   refine TkG (i := 6) (oi := ⟨some 37, Op.binOp BinOp.add 3 (Operand.tmp 36) (Operand.const (Value.int IntKind.i64 1)) 3, 3, _, _, none⟩) (v := .int .i64 ((t + 1 : Nat) : Int)) rfl hHeld ?_
   refine wpAnyH_ready (rs := [7]) (by kernel_rfl) (by simp) ?_
   refine AllReadyH.cons (o := ⟨some 38, Op.call { callee := Callee.value (Operand.func 57), args := #[Operand.tmp 37], argTypes := #[3] }, 100, _, _, none⟩) rfl (fun K hK => ?_) AllReadyH.nil
   rw [if_pos (by rfl)]
   refine wp_callF 57 _ _ rfl Tryz.in57 #[.int .i64 ((t + 1 : Nat) : Int)] (by simp [Act.eval]) (fun u w' => u = sc (wy.drew.heap.size, List.replicate ((t + 1 + 63) / 64) 0) ∧ Blk w' wy.drew.heap.size 93 (wdV (List.replicate ((t + 1 + 63) / 64) 0)).toArray ∧ Below wy.drew.heap.size wy.drew w') ((room_set (t + 1) wy.drew (by have := Hn.out; omega)).mono fun e w' h => ⟨_, h.1, by simp [sc], h.2⟩) ?_
   rintro _ wz ⟨rfl, hbz, hbl⟩
   have HGz := Keep.mk hbz
   have JSz := Keep.mk ((JSy.out.below (Below.refl _ _).drew).below hbl)
   have HXz := Keep.mk (HXy.out.drew.below hbl HXy.out.drew.lt)
   have hgs : Keep (∀ e ∈ S, e.1 ≠ wy.drew.heap.size) := ⟨fun e he hc => by have := (JSy.out.s e he).1.lt; rw [hc] at this; exact Nat.lt_irrefl _ this⟩
   have hgw : Keep (w.heap.size ≤ wy.drew.heap.size) := ⟨JSy.out.bel.size⟩
   have hgxn : Keep (gx ≠ wy.drew.heap.size) := ⟨fun hc => by have := HXy.out.lt; rw [hc] at this; exact Nat.lt_irrefl _ this⟩
   obtain ⟨gs, hgse⟩ : ∃ g, Keep (g = wy.drew.heap.size) := ⟨_, ⟨rfl⟩⟩
   rw [← hgse.out] at HGz hgs hgw hgxn ⊢
   obtain ⟨W0, hW0⟩ : ∃ W, Keep (W = List.replicate ((t + 1 + 63) / 64) 0) := ⟨_, ⟨rfl⟩⟩
   rw [← hW0.out] at HGz ⊢
   refine hK _ _ (JSz.out.p.c 2 rfl) fun hH6 => ?_
   clear hK hbz hbl hS0 HXy JSy hgse
   simp only [Act.put, pqA, pqB, pqC]
   refine TkG (i := 8) (oi := ⟨some 39, Op.indexAddr 81 (Operand.tmp 34) (Operand.tmp 35), 0, _, _, none⟩) (v := .pointer (some ⟨ub, t, none⟩)) rfl hH6 ?_
   refine wpAnyH_ready (rs := [9]) (by kernel_rfl) (by simp) ?_
   refine AllReadyH.cons (o := ⟨none, Op.store 100 (Operand.tmp 39) (Operand.tmp 38), 0, _, _, none⟩) rfl (fun K hK => ?_) AllReadyH.nil
   rw [if_pos (by rfl)]
   have f_o := JSz.out.u.frozen t
   have c_o : wz.cell? ⟨ub, t, none⟩ = some nilS := by have h := JSz.out.u.c S.length (sets_get0 S H.length (by rw [JL.out]; exact htl)); rw [JL.out] at h; exact h
   refine wp_cellS (wz.setCell ⟨ub, t, none⟩ (sc (gs, W0))) (by unfold nilS at c_o; unfold sc; go_simp) ?_
   clear f_o c_o
   have JSp : Keep (LaySt w (.slice (some ⟨sb, so, none⟩) H.length sc0) H pb mb ub (t + 1) (S ++ [(gs, W0)]) (wz.setCell ⟨ub, t, none⟩ (sc (gs, W0)))) := ⟨by have h := JSz.out.push HGz.out hgw.out hgs.out (by rw [JL.out]; exact htl); rw [JL.out] at h; exact h⟩
   have HXp := Keep.mk (HXz.out.set_ne (b' := ub) (j := t) (fun e => by subst e; exact absurd (blk_type HXz.out JSz.out.u) (by decide)) (sc (gs, W0)))
   generalize wz.setCell ⟨ub, t, none⟩ (sc (gs, W0)) = wp at *
   refine hK _ _ (JSp.out.p.c 2 rfl) fun hH7 => ?_
   clear hK JSz HXz HGz hgs hgw
   simp only [Act.put, pqA, pqB, pqC]
   refine wpAnyH_done (by kernel_rfl) ?_ _
   refine hK11 _ _ ?_
   refine wp_seq_k fun K12 hK12 => ?_
   have c2 : wp.cell? ⟨pb, 2, none⟩ = some (.slice (some ⟨ub, 0, none⟩) H.length H.length) := JSp.out.p.c 2 rfl
   have cu : wp.cell? ⟨ub, t, none⟩ = some (.slice (some ⟨gs, 0, none⟩) W0.length W0.length) := JSp.out.u.c t (by have h := sets_get (S ++ [(gs, W0)]) (H.length - (S ++ [(gs, W0)]).length) t (by simp; have := JL.out; omega); rw [h, List.getElem_append_right (by have := JL.out; omega)]; simp [JL.out, sc])
   refine rgn ?_
   refine VlS (.pointer (some ⟨pb, 0, none⟩)) ?_
   refine VlS (.pointer (some ⟨pb, 0, none⟩)) ?_
   refine VlS (.pointer (some ⟨pb, 2, none⟩)) ?_
   refine VlS (.slice (some ⟨ub, 0, none⟩) H.length H.length) ?_
   refine VlS (.int .i64 (t : Int)) ?_
   refine VlS (.pointer (some ⟨ub, t, none⟩)) ?_
   refine VlS (.slice (some ⟨gs, 0, none⟩) W0.length W0.length) ?_
   refine VlS (.int .i64 (t : Int)) ?_
   refine WL.callF (by kernel_rfl) 58 _ _ rfl Tryz.in58 #[.slice (some ⟨gs, 0, none⟩) W0.length W0.length, .int .i64 (t : Int)] (by simp [Act.eval]) ?_
   refine (add_set gs t W0 wp (JSp.out.s (gs, W0) (List.mem_append_right _ (List.mem_singleton.2 rfl))).1 (by rw [hW0.out, List.length_replicate]; omega) (by rw [hW0.out, List.length_replicate]; have := Hn.out; omega) (by rw [hW0.out]; exact Wds.room _)).mono ?_
   rintro e wq ⟨rfl, hbq, hgq⟩
   refine ⟨_, rfl, ?_⟩
   clear c2 cu
   obtain ⟨W1, hW1⟩ : ∃ W, Keep (W = addW W0 t) := ⟨_, ⟨rfl⟩⟩
   have hWl : Keep (W1.length = W0.length) := ⟨by rw [hW1.out, addW_len]⟩
   rw [← hW1.out] at hbq
   have JSq := Keep.mk (JSp.out.last hbq hgq hWl.out)
   have HXq := Keep.mk (hgq.blk HXp.out hgxn.out)
   clear hbq hgq JSp HXp
   have c34 : wq.cell? ⟨gx, 34, none⟩ = some (.slice pa x.1.N.ps.length pc) := HXq.out.c 34 (by rw [hee.out]; exact ent_ps _ _ _ _ _)
   simp only [Act.put, pqA, pqB, pqC]
   refine WL.nil (hK12 _ _ ?_)
   refine wp_seq_k fun K13 hK13 => rgn ?_
   refine VlS (.pointer (some ⟨gx, 32, none⟩)) ?_
   refine VlS (.pointer (some ⟨gx, 34, none⟩)) ?_
   refine VlS (.slice pa x.1.N.ps.length pc) ?_
   refine VlS (.int .i64 (x.1.N.ps.length : Int)) ?_
   refine VlS (.int .i64 0) ?_
   refine WL.nil (hK13 _ _ ?_)
   refine wp_block ?_
   refine wp_loop (fun ac ws => ∃ (u : Nat) (fy : Nat → Value), ac = { tmps := #[.slice (some ⟨sb, so, none⟩) H.length sc0, undef, .pointer none, .pointer (some ⟨pb, 0, none⟩), .int .i64 (t : Int), .pointer (some ⟨gx, 0, none⟩), undef, fy 7, .slice (some ⟨sb, so, none⟩) H.length sc0, .slice (some ⟨sb, so, none⟩) H.length sc0, .int .i64 (H.length : Int), .map (some mb), .slice (some ⟨sb, so, none⟩) H.length sc0, .int .i64 (H.length : Int), .slice (some ⟨ub, 0, none⟩) H.length H.length, .agg (pA (.slice (some ⟨sb, so, none⟩) H.length sc0) mb ub H.length), .pointer (some ⟨pb, 0, none⟩), .slice (some ⟨sb, so, none⟩) H.length sc0, .int .i64 (H.length : Int), .int .i64 (t : Int), .bool true, .int .i64 (t : Int), .pointer (some ⟨sb, so + t * 36, none⟩), .agg ee, .pointer (some ⟨pb, 0, none⟩), .pointer (some ⟨pb, 0, none⟩), .pointer (some ⟨pb, 1, none⟩), .map (some mb), .pointer (some ⟨gx, 0, none⟩), .agg (bytesA 32 x.1.id.f), .int .i64 (t : Int), .pointer (some ⟨pb, 0, none⟩), .pointer (some ⟨pb, 0, none⟩), .pointer (some ⟨pb, 2, none⟩), .slice (some ⟨ub, 0, none⟩) H.length H.length, .int .i64 (t : Int), .int .i64 (t : Int), .int .i64 ((t + 1 : Nat) : Int), sc (gs, W0), .pointer (some ⟨ub, t, none⟩), .pointer (some ⟨pb, 0, none⟩), .pointer (some ⟨pb, 0, none⟩), .pointer (some ⟨pb, 2, none⟩), .slice (some ⟨ub, 0, none⟩) H.length H.length, .int .i64 (t : Int), .pointer (some ⟨ub, t, none⟩), .slice (some ⟨gs, 0, none⟩) W0.length W0.length, .int .i64 (t : Int), .tuple #[], .pointer (some ⟨gx, 32, none⟩), .pointer (some ⟨gx, 34, none⟩), .slice pa x.1.N.ps.length pc, .int .i64 (x.1.N.ps.length : Int), .int .i64 (u : Int), fy 54, fy 55, fy 56, fy 57, fy 58, fy 59, fy 60, fy 61, fy 62, fy 63, fy 64, fy 65, fy 66, fy 67, fy 68, fy 69, fy 70, fy 71, fy 72, fy 73, fy 74, fy 75, fy 76, fy 77, f 78, undef], defers := [] } ∧ u ≤ x.1.N.ps.length ∧ Blk ws gx 52 ee ∧ ∃ W, W = undF (S.map (·.2)) t ((x.1.N.ps.take u).map (ixH (idsE (exs H)))) ∧ LaySt w (.slice (some ⟨sb, so, none⟩) H.length sc0) H pb mb ub (t + 1) (S ++ [(gs, W)]) ws) (fun a _ => x.1.N.ps.length - (intOf (a.tmps.getD 53 undef)).toNat) ⟨0, fun i => [.slice (some ⟨sb, so, none⟩) H.length sc0, undef, .pointer none, .pointer (some ⟨pb, 0, none⟩), .int .i64 (t : Int), .pointer (some ⟨gx, 0, none⟩), undef, f 7, .slice (some ⟨sb, so, none⟩) H.length sc0, .slice (some ⟨sb, so, none⟩) H.length sc0, .int .i64 (H.length : Int), .map (some mb), .slice (some ⟨sb, so, none⟩) H.length sc0, .int .i64 (H.length : Int), .slice (some ⟨ub, 0, none⟩) H.length H.length, .agg (pA (.slice (some ⟨sb, so, none⟩) H.length sc0) mb ub H.length), .pointer (some ⟨pb, 0, none⟩), .slice (some ⟨sb, so, none⟩) H.length sc0, .int .i64 (H.length : Int), .int .i64 (t : Int), .bool true, .int .i64 (t : Int), .pointer (some ⟨sb, so + t * 36, none⟩), .agg ee, .pointer (some ⟨pb, 0, none⟩), .pointer (some ⟨pb, 0, none⟩), .pointer (some ⟨pb, 1, none⟩), .map (some mb), .pointer (some ⟨gx, 0, none⟩), .agg (bytesA 32 x.1.id.f), .int .i64 (t : Int), .pointer (some ⟨pb, 0, none⟩), .pointer (some ⟨pb, 0, none⟩), .pointer (some ⟨pb, 2, none⟩), .slice (some ⟨ub, 0, none⟩) H.length H.length, .int .i64 (t : Int), .int .i64 (t : Int), .int .i64 ((t + 1 : Nat) : Int), sc (gs, W0), .pointer (some ⟨ub, t, none⟩), .pointer (some ⟨pb, 0, none⟩), .pointer (some ⟨pb, 0, none⟩), .pointer (some ⟨pb, 2, none⟩), .slice (some ⟨ub, 0, none⟩) H.length H.length, .int .i64 (t : Int), .pointer (some ⟨ub, t, none⟩), .slice (some ⟨gs, 0, none⟩) W0.length W0.length, .int .i64 (t : Int), .tuple #[], .pointer (some ⟨gx, 32, none⟩), .pointer (some ⟨gx, 34, none⟩), .slice pa x.1.N.ps.length pc, .int .i64 (x.1.N.ps.length : Int), .int .i64 0, f 54, f 55, f 56, f 57, f 58, f 59, f 60, f 61, f 62, f 63, f 64, f 65, f 66, f 67, f 68, f 69, f 70, f 71, f 72, f 73, f 74, f 75, f 76, f 77, f 78, undef].getD i undef, rfl, by omega, HXq.out, W1, by rw [List.take_zero, hW1.out, hW0.out]; rfl, JSq.out⟩ ?_
   rintro ac ws ⟨u, fy, rfl, hu, hX2, hY⟩
   obtain ⟨W, hWW, hIS⟩ := hY
   have IS := Keep.mk hIS
   have IX := Keep.mk hX2
   have IW := Keep.mk hWW
   clear hIS hX2 hWW
   have hWn : Keep (W.length = (t + 1 + 63) / 64) := ⟨by rw [IW.out, undF_len]⟩
   by_cases hul : u < x.1.N.ps.length
   ·have hul' : (u : Int) < (x.1.N.ps.length : Int) := by omega
    have hu0 : (0 : Int) ≤ (u : Int) := by omega
    have hwu : IntKind.i64.wrap ((u : Int) + 1) = ((u + 1 : Nat) : Int) := by rw [IntKind.wrap_i64]; omega
    obtain ⟨pb2, po, rfl, hpr⟩ := hrow_at (HP.out.below IS.out.bel) hul
    obtain ⟨h, hh⟩ : ∃ h : Hs, Keep (h = x.1.N.ps[u]) := ⟨_, ⟨rfl⟩⟩
    rw [← hh.out] at hpr
    have HPr := Keep.mk hpr
    clear hpr
    obtain ⟨ix, hix⟩ : ∃ ix, Keep (ixH (idsE (exs H)) h = ix) := ⟨_, ⟨rfl⟩⟩
    have hixt : ix < t := by
     have h1 := HT.out t (by rw [exs_len]; exact htl) h (by rw [exs_get H t htl, ← hx.out, hh.out]; exact List.getElem_mem hul)
     rw [hix.out] at h1; exact h1
    have hixS : ix < S.length := by rw [JL.out]; exact hixt
    have hixn : (ix : Int) < (H.length : Int) := by omega
    have hix0 : (0 : Int) ≤ (ix : Int) := by omega
    obtain ⟨e, he⟩ : ∃ e, Keep (e = S[ix]) := ⟨_, ⟨rfl⟩⟩
    have heS : Keep (e ∈ S) := ⟨by rw [he.out]; exact List.getElem_mem hixS⟩
    have hix2 : Keep (ixH (idsE (exs (H.take (t + 1)))) h = ix ∧ h ∈ idsE (exs (H.take (t + 1)))) := ⟨by
     have h2 : idsE (exs (H.take (t + 1))) = (idsE (exs H)).take (t + 1) := by simp [idsE, exs, List.map_take]
     have hl1 : ixH (idsE (exs H)) h < (idsE (exs H)).length := by rw [hix.out, idsE_len, exs_len]; omega
     have hm : h ∈ (idsE (exs H)).take (t + 1) := List.mem_take_iff_getElem.2 ⟨ix, by rw [idsE_len, exs_len]; omega, by have := ixH_get hl1; simp only [hix.out] at this; exact this⟩
     rw [h2]
     refine ⟨?_, hm⟩
     have h3 := ixH_app hm ((idsE (exs H)).drop (t + 1))
     rw [List.take_append_drop, hix.out] at h3
     exact h3.symm⟩
    refine wp_seq_k fun K14 hK14 => rgn ?_
    refine VbT ?_
    refine WL.nil (hK14 _ _ ?_)
    refine wp_seq_k fun K15 hK15 => ?_
    refine wp_cond_true rfl ?_
    refine wp_skip ?_
    refine hK15 _ _ ?_
    refine wp_seq_k fun K16 hK16 => ?_
    refine wp_block ?_
    refine wp_seq_k fun K17 hK17 => rgn ?_
    refine VlS (.pointer (some ⟨pb2, po + u * 32, none⟩)) ?_
    refine WL.midA (by kernel_rfl) 36 (.tmp 55) rfl pb2 (po + u * 32) rfl (bytesA 32 h.f) _ HPr.out Tryz.underlying36 rfl (size36E _) ?_
    simp only [Act.put, pqA, pqB, pqC]
    refine WL.new (by kernel_rfl) 36 rfl (bytesA 32 fun _ => 0) Tryz.new36 ?_
    obtain ⟨wc, hwn⟩ : ∃ wx, Keep (wx = ws.alloc (.cells (bytesA 32 fun _ => 0) 36)) := ⟨_, ⟨rfl⟩⟩
    rw [← hwn.out]
    have HZ2 : Keep (Blk wc ws.heap.size 36 (bytesA 32 fun _ => 0)) := ⟨by rw [hwn.out]; exact Blk.new _ _ _⟩
    have LB2 : Keep (Below ws.heap.size ws wc) := ⟨by rw [hwn.out]; exact below_new _ _⟩
    clear hwn
    simp only [Act.put, pqA, pqB, pqC]
    refine WL.storeR (by kernel_rfl) 36 (.tmp 7) (.tmp 56) rfl ws.heap.size (bytesA 32 h.f) rfl rfl 36 _ HZ2.out (size36E _) (by rw [bytesA_size, bytesA_size]) (bytesA_one _ _) ?_
    have HH := Keep.mk (HZ2.out.setRow (bytesA 32 h.f))
    have LH : Keep (Below ws.heap.size ws (wc.setRow ws.heap.size (bytesA 32 h.f))) := ⟨below_setRow LB2.out (Nat.le_refl _) _⟩
    generalize wc.setRow ws.heap.size (bytesA 32 h.f) = wd at *
    clear HZ2 LB2
    have ISd := Keep.mk (IS.out.below LH.out)
    have IXd := Keep.mk (IX.out.below LH.out IX.out.lt)
    have hg2 : Keep (gs ≠ ws.heap.size) := ⟨fun hc => by have := (IS.out.s (gs, W) (List.mem_append_right _ (List.mem_singleton.2 rfl))).1.lt; rw [hc] at this; exact Nat.lt_irrefl _ this⟩
    generalize ws.heap.size = g2 at *
    clear LH HPr IS IX
    simp only [Act.put]
    refine WL.nil (hK17 _ _ ?_)
    have hS0 : Keep (∀ wz W', W'.length = W.length → LaySt w (.slice (some ⟨sb, so, none⟩) H.length sc0) H pb mb ub (t + 1) (S ++ [(gs, W')]) wz → Blk wz g2 36 (bytesA 32 h.f) → (fun wz => wz.cell? ⟨pb, 2, none⟩ = some (.slice (some ⟨ub, 0, none⟩) H.length H.length) ∧ wz.cell? ⟨pb, 1, none⟩ = some (.map (some mb)) ∧ wz.cell? ⟨ub, t, none⟩ = some (.slice (some ⟨gs, 0, none⟩) W.length W.length) ∧ wz.cell? ⟨ub, ix, none⟩ = some (.slice (some ⟨e.1, 0, none⟩) e.2.length e.2.length) ∧ wz.rangeAt g2 0 (bytesA 32 h.f).toList ∧ (Instr.lookup 73 (.map (some mb)) (.agg (bytesA 32 h.f)) false).run Tryz.prog wz = .ok (.int .i64 (ix : Int)) wz) wz) := ⟨fun wz W' hW' hz hb => by
     refine ⟨hz.p.c 2 rfl, hz.p.c 1 rfl, ?_, ?_, blk_range hb, ?_⟩
     ·refine hz.u.c t ?_
      have h := sets_get (S ++ [(gs, W')]) (H.length - (S ++ [(gs, W')]).length) t (by simp; have := JL.out; omega)
      rw [h, List.getElem_append_right (by have := JL.out; omega)]; simp [JL.out, sc, hW']
     ·refine hz.u.c ix ?_
      have h := sets_get (S ++ [(gs, W')]) (H.length - (S ++ [(gs, W')]).length) ix (by simp; omega)
      rw [h, List.getElem_append_left hixS, ← he.out]; rfl
     ·have h := (lookI hz.m h).2
      rw [ixV, if_pos (ixH_lt.2 hix2.out.2), hix2.out.1] at h
      exact h⟩
    refine wp_region_held_drew (S := fun wz => wz.cell? ⟨pb, 2, none⟩ = some (.slice (some ⟨ub, 0, none⟩) H.length H.length) ∧ wz.cell? ⟨pb, 1, none⟩ = some (.map (some mb)) ∧ wz.cell? ⟨ub, t, none⟩ = some (.slice (some ⟨gs, 0, none⟩) W.length W.length) ∧ wz.cell? ⟨ub, ix, none⟩ = some (.slice (some ⟨e.1, 0, none⟩) e.2.length e.2.length) ∧ wz.rangeAt g2 0 (bytesA 32 h.f).toList ∧ (Instr.lookup 73 (.map (some mb)) (.agg (bytesA 32 h.f)) false).run Tryz.prog wz = .ok (.int .i64 (ix : Int)) wz) (by kernel_rfl) (hS0.out _ W rfl (ISd.out.below (Below.refl _ _).drew) HH.out.drew) (fun hHeld => ?_)
    refine tkS (i := 0) (oi := ⟨some 57, Op.move (Operand.tmp 3), 25, _, _, none⟩) (v := .pointer (some ⟨pb, 0, none⟩)) rfl (Or.inl ⟨by rfl, fun w hS => by obtain ⟨hS1, hS2, hS3, hS4, hS5, hS6⟩ := hS; go_simp⟩) hHeld ?_
    refine tkS (i := 1) (oi := ⟨some 58, Op.nilCheck (Operand.tmp 57), 0, _, _, none⟩) (v := .pointer (some ⟨pb, 0, none⟩)) rfl (Or.inl ⟨by rfl, fun w hS => by obtain ⟨hS1, hS2, hS3, hS4, hS5, hS6⟩ := hS; go_simp⟩) hHeld ?_
    refine tkS (i := 2) (oi := ⟨some 59, Op.fieldAddr 83 (Operand.tmp 58) 2, 0, _, _, none⟩) (v := .pointer (some ⟨pb, 2, none⟩)) rfl (Or.inl ⟨by rfl, fun w hS => by obtain ⟨hS1, hS2, hS3, hS4, hS5, hS6⟩ := hS; go_simp⟩) hHeld ?_
    refine tkS (i := 3) (oi := ⟨some 60, Op.load 81 (Operand.tmp 59), 81, _, _, none⟩) (v := .slice (some ⟨ub, 0, none⟩) H.length H.length) rfl (Or.inl ⟨by rfl, fun w hS => by obtain ⟨hS1, hS2, hS3, hS4, hS5, hS6⟩ := hS; go_simp⟩) hHeld ?_
    refine tkS (i := 4) (oi := ⟨some 61, Op.move (Operand.tmp 4), 3, _, _, none⟩) (v := .int .i64 (t : Int)) rfl (Or.inl ⟨by rfl, fun w hS => by obtain ⟨hS1, hS2, hS3, hS4, hS5, hS6⟩ := hS; go_simp⟩) hHeld ?_
    refine tkS (i := 5) (oi := ⟨some 62, Op.indexAddr 81 (Operand.tmp 60) (Operand.tmp 61), 0, _, _, none⟩) (v := .pointer (some ⟨ub, t, none⟩)) rfl (Or.inl ⟨by rfl, fun w hS => by obtain ⟨hS1, hS2, hS3, hS4, hS5, hS6⟩ := hS; go_simp⟩) hHeld ?_
    refine tkS (i := 6) (oi := ⟨some 63, Op.load 100 (Operand.tmp 62), 100, _, _, none⟩) (v := .slice (some ⟨gs, 0, none⟩) W.length W.length) rfl (Or.inl ⟨by rfl, fun w hS => by obtain ⟨hS1, hS2, hS3, hS4, hS5, hS6⟩ := hS; go_simp⟩) hHeld ?_
    refine tkS (i := 7) (oi := ⟨some 64, Op.move (Operand.tmp 3), 25, _, _, none⟩) (v := .pointer (some ⟨pb, 0, none⟩)) rfl (Or.inl ⟨by rfl, fun w hS => by obtain ⟨hS1, hS2, hS3, hS4, hS5, hS6⟩ := hS; go_simp⟩) hHeld ?_
    refine tkS (i := 8) (oi := ⟨some 65, Op.nilCheck (Operand.tmp 64), 0, _, _, none⟩) (v := .pointer (some ⟨pb, 0, none⟩)) rfl (Or.inl ⟨by rfl, fun w hS => by obtain ⟨hS1, hS2, hS3, hS4, hS5, hS6⟩ := hS; go_simp⟩) hHeld ?_
    refine tkS (i := 9) (oi := ⟨some 66, Op.fieldAddr 83 (Operand.tmp 65) 2, 0, _, _, none⟩) (v := .pointer (some ⟨pb, 2, none⟩)) rfl (Or.inl ⟨by rfl, fun w hS => by obtain ⟨hS1, hS2, hS3, hS4, hS5, hS6⟩ := hS; go_simp⟩) hHeld ?_
    refine tkS (i := 10) (oi := ⟨some 67, Op.load 81 (Operand.tmp 66), 81, _, _, none⟩) (v := .slice (some ⟨ub, 0, none⟩) H.length H.length) rfl (Or.inl ⟨by rfl, fun w hS => by obtain ⟨hS1, hS2, hS3, hS4, hS5, hS6⟩ := hS; go_simp⟩) hHeld ?_
    refine tkS (i := 11) (oi := ⟨some 68, Op.move (Operand.tmp 3), 25, _, _, none⟩) (v := .pointer (some ⟨pb, 0, none⟩)) rfl (Or.inl ⟨by rfl, fun w hS => by obtain ⟨hS1, hS2, hS3, hS4, hS5, hS6⟩ := hS; go_simp⟩) hHeld ?_
    refine tkS (i := 12) (oi := ⟨some 69, Op.nilCheck (Operand.tmp 68), 0, _, _, none⟩) (v := .pointer (some ⟨pb, 0, none⟩)) rfl (Or.inl ⟨by rfl, fun w hS => by obtain ⟨hS1, hS2, hS3, hS4, hS5, hS6⟩ := hS; go_simp⟩) hHeld ?_
    refine tkS (i := 13) (oi := ⟨some 70, Op.fieldAddr 83 (Operand.tmp 69) 1, 0, _, _, none⟩) (v := .pointer (some ⟨pb, 1, none⟩)) rfl (Or.inl ⟨by rfl, fun w hS => by obtain ⟨hS1, hS2, hS3, hS4, hS5, hS6⟩ := hS; go_simp⟩) hHeld ?_
    refine tkS (i := 14) (oi := ⟨some 71, Op.load 73 (Operand.tmp 70), 73, _, _, none⟩) (v := .map (some mb)) rfl (Or.inl ⟨by rfl, fun w hS => by obtain ⟨hS1, hS2, hS3, hS4, hS5, hS6⟩ := hS; go_simp⟩) hHeld ?_
    refine tkS (i := 15) (oi := ⟨some 72, Op.load 36 (Operand.tmp 7), 36, _, _, none⟩) (v := .agg (bytesA 32 h.f)) rfl (yieldsIf_ld (by rfl) (Operand.tmp 7) 36 rfl g2 0 rfl (bytesA 32 h.f) _ Tryz.underlying36 rfl (size36E _) fun w hS => hS.2.2.2.2.1) hHeld ?_
    refine tkS (i := 16) (oi := ⟨some 73, Op.lookup 73 (Operand.tmp 71) (Operand.tmp 72) false, 3, _, _, none⟩) (v := .int .i64 (ix : Int)) rfl (yieldsIf_lookI (by rfl) (Operand.tmp 71) (Operand.tmp 72) false rfl _ _ rfl rfl _ fun w hS => hS.2.2.2.2.2) hHeld ?_
    refine tkS (i := 17) (oi := ⟨some 74, Op.indexAddr 81 (Operand.tmp 67) (Operand.tmp 73), 0, _, _, none⟩) (v := .pointer (some ⟨ub, ix, none⟩)) rfl (Or.inl ⟨by rfl, fun w hS => by obtain ⟨hS1, hS2, hS3, hS4, hS5, hS6⟩ := hS; go_simp⟩) hHeld ?_
    refine tkS (i := 18) (oi := ⟨some 75, Op.load 100 (Operand.tmp 74), 100, _, _, none⟩) (v := .slice (some ⟨e.1, 0, none⟩) e.2.length e.2.length) rfl (Or.inl ⟨by rfl, fun w hS => by obtain ⟨hS1, hS2, hS3, hS4, hS5, hS6⟩ := hS; go_simp⟩) hHeld ?_
    refine wpAnyH_ready (rs := [19]) (by kernel_rfl) (by simp) ?_
    refine AllReadyH.cons (o := ⟨some 76, Op.call { callee := Callee.value (Operand.func 59), args := #[Operand.tmp 63, Operand.tmp 75], argTypes := #[100, 100] }, 0, _, _, none⟩) rfl (fun K hK => ?_) AllReadyH.nil
    rw [if_pos (by rfl)]
    refine wp_callF 59 _ _ rfl Tryz.in59 #[.slice (some ⟨gs, 0, none⟩) W.length W.length, .slice (some ⟨e.1, 0, none⟩) e.2.length e.2.length] (by simp [Act.eval]) (fun u w' => u = .tuple #[] ∧ Blk w' gs 93 (wdV (joinW W e.2)).toArray ∧ Grown wd.drew w' fun k => k = gs) ((join_any gs e.1 W e.2 wd.drew (ISd.out.s (gs, W) (List.mem_append_right _ (List.mem_singleton.2 rfl))).1.drew (ISd.out.s e (List.mem_append_left _ heS.out)).1.drew (fun hc => by have hnd := ISd.out.nd; rw [List.map_append, List.nodup_append] at hnd; exact hnd.2.2 e.1 (List.mem_map.2 ⟨e, heS.out, rfl⟩) gs (by simp) hc.symm) (by rw [hWn.out, he.out, (Hlen.out ix hixS).1]; omega) (by rw [hWn.out]; have := Hn.out; omega) (by rw [IW.out]; exact undF_wds HWd.out _ _) (by have h := (Hlen.out ix hixS).2; rw [← he.out] at h; exact h)).mono fun e w' h => ⟨_, h.1, rfl, h.2⟩) ?_
    rintro _ we ⟨rfl, hbe, hge⟩
    have ISe := Keep.mk ((ISd.out.below (Below.refl _ _).drew).last hbe hge (joinW_len _ _))
    have IXe := Keep.mk (hge.blk IXd.out.drew hgxn.out)
    have HHe := Keep.mk (hge.blk HH.out.drew fun hc => hg2.out hc.symm)
    refine hK _ _ (hS0.out we _ (joinW_len _ _) ISe.out HHe.out) fun hH9 => ?_
    clear hK hbe hge
    simp only [Act.put, pqA, pqB, pqC]
    refine wpAnyH_done (by kernel_rfl) ?_ _
    refine hK16 _ _ ?_
    refine rgn ?_
    refine VlS (.int .i64 ((u + 1 : Nat) : Int)) ?_
    refine VlS (.int .i64 ((u + 1 : Nat) : Int)) ?_
    refine WL.nil ?_
    refine ⟨⟨u + 1, fun i => [.slice (some ⟨sb, so, none⟩) H.length sc0, undef, .pointer none, .pointer (some ⟨pb, 0, none⟩), .int .i64 (t : Int), .pointer (some ⟨gx, 0, none⟩), undef, .pointer (some ⟨g2, 0, none⟩), .slice (some ⟨sb, so, none⟩) H.length sc0, .slice (some ⟨sb, so, none⟩) H.length sc0, .int .i64 (H.length : Int), .map (some mb), .slice (some ⟨sb, so, none⟩) H.length sc0, .int .i64 (H.length : Int), .slice (some ⟨ub, 0, none⟩) H.length H.length, .agg (pA (.slice (some ⟨sb, so, none⟩) H.length sc0) mb ub H.length), .pointer (some ⟨pb, 0, none⟩), .slice (some ⟨sb, so, none⟩) H.length sc0, .int .i64 (H.length : Int), .int .i64 (t : Int), .bool true, .int .i64 (t : Int), .pointer (some ⟨sb, so + t * 36, none⟩), .agg ee, .pointer (some ⟨pb, 0, none⟩), .pointer (some ⟨pb, 0, none⟩), .pointer (some ⟨pb, 1, none⟩), .map (some mb), .pointer (some ⟨gx, 0, none⟩), .agg (bytesA 32 x.1.id.f), .int .i64 (t : Int), .pointer (some ⟨pb, 0, none⟩), .pointer (some ⟨pb, 0, none⟩), .pointer (some ⟨pb, 2, none⟩), .slice (some ⟨ub, 0, none⟩) H.length H.length, .int .i64 (t : Int), .int .i64 (t : Int), .int .i64 ((t + 1 : Nat) : Int), sc (gs, W0), .pointer (some ⟨ub, t, none⟩), .pointer (some ⟨pb, 0, none⟩), .pointer (some ⟨pb, 0, none⟩), .pointer (some ⟨pb, 2, none⟩), .slice (some ⟨ub, 0, none⟩) H.length H.length, .int .i64 (t : Int), .pointer (some ⟨ub, t, none⟩), .slice (some ⟨gs, 0, none⟩) W0.length W0.length, .int .i64 (t : Int), .tuple #[], .pointer (some ⟨gx, 32, none⟩), .pointer (some ⟨gx, 34, none⟩), .slice (some ⟨pb2, po, none⟩) x.1.N.ps.length pc, .int .i64 (x.1.N.ps.length : Int), .int .i64 ((u + 1 : Nat) : Int), .bool true, .pointer (some ⟨pb2, po + u * 32, none⟩), .agg (bytesA 32 h.f), .pointer (some ⟨pb, 0, none⟩), .pointer (some ⟨pb, 0, none⟩), .pointer (some ⟨pb, 2, none⟩), .slice (some ⟨ub, 0, none⟩) H.length H.length, .int .i64 (t : Int), .pointer (some ⟨ub, t, none⟩), .slice (some ⟨gs, 0, none⟩) W.length W.length, .pointer (some ⟨pb, 0, none⟩), .pointer (some ⟨pb, 0, none⟩), .pointer (some ⟨pb, 2, none⟩), .slice (some ⟨ub, 0, none⟩) H.length H.length, .pointer (some ⟨pb, 0, none⟩), .pointer (some ⟨pb, 0, none⟩), .pointer (some ⟨pb, 1, none⟩), .map (some mb), .agg (bytesA 32 h.f), .int .i64 (ix : Int), .pointer (some ⟨ub, ix, none⟩), .slice (some ⟨e.1, 0, none⟩) e.2.length e.2.length, .tuple #[], .int .i64 ((u + 1 : Nat) : Int), f 78, undef].getD i undef, rfl, by omega, IXe.out, joinW W e.2, ?_, ISe.out⟩, by simp [intOf]; omega⟩
    rw [List.take_succ_eq_append_getElem hul, List.map_append, List.map_cons, List.map_nil, undF_snoc, ← IW.out, ← hh.out, hix.out]
    congr 1
    rw [List.getD_eq_getElem?_getD, List.getElem?_map, List.getElem?_eq_getElem hixS, ← he.out]
    rfl
   ·have hue : u = x.1.N.ps.length := by omega
    subst hue
    rw [List.take_length] at IW
    refine wp_seq_k fun K18 hK18 => rgn ?_
    refine VbF ?_
    refine WL.nil (hK18 _ _ ?_)
    refine wp_seq_k fun K19 hK19 => ?_
    refine wp_cond_false rfl ?_
    refine wp_exit ?_
    refine hK8 _ _ ?_
    refine rgn ?_
    refine VlS (.int .i64 ((t + 1 : Nat) : Int)) ?_
    refine VlS (.int .i64 ((t + 1 : Nat) : Int)) ?_
    refine WL.nil ?_
    refine ⟨⟨t + 1, fun i => [.slice (some ⟨sb, so, none⟩) H.length sc0, undef, .pointer none, .pointer (some ⟨pb, 0, none⟩), .int .i64 (t : Int), .pointer (some ⟨gx, 0, none⟩), undef, fy 7, .slice (some ⟨sb, so, none⟩) H.length sc0, .slice (some ⟨sb, so, none⟩) H.length sc0, .int .i64 (H.length : Int), .map (some mb), .slice (some ⟨sb, so, none⟩) H.length sc0, .int .i64 (H.length : Int), .slice (some ⟨ub, 0, none⟩) H.length H.length, .agg (pA (.slice (some ⟨sb, so, none⟩) H.length sc0) mb ub H.length), .pointer (some ⟨pb, 0, none⟩), .slice (some ⟨sb, so, none⟩) H.length sc0, .int .i64 (H.length : Int), .int .i64 ((t + 1 : Nat) : Int), .bool true, .int .i64 (t : Int), .pointer (some ⟨sb, so + t * 36, none⟩), .agg ee, .pointer (some ⟨pb, 0, none⟩), .pointer (some ⟨pb, 0, none⟩), .pointer (some ⟨pb, 1, none⟩), .map (some mb), .pointer (some ⟨gx, 0, none⟩), .agg (bytesA 32 x.1.id.f), .int .i64 (t : Int), .pointer (some ⟨pb, 0, none⟩), .pointer (some ⟨pb, 0, none⟩), .pointer (some ⟨pb, 2, none⟩), .slice (some ⟨ub, 0, none⟩) H.length H.length, .int .i64 (t : Int), .int .i64 (t : Int), .int .i64 ((t + 1 : Nat) : Int), sc (gs, W0), .pointer (some ⟨ub, t, none⟩), .pointer (some ⟨pb, 0, none⟩), .pointer (some ⟨pb, 0, none⟩), .pointer (some ⟨pb, 2, none⟩), .slice (some ⟨ub, 0, none⟩) H.length H.length, .int .i64 (t : Int), .pointer (some ⟨ub, t, none⟩), .slice (some ⟨gs, 0, none⟩) W0.length W0.length, .int .i64 (t : Int), .tuple #[], .pointer (some ⟨gx, 32, none⟩), .pointer (some ⟨gx, 34, none⟩), .slice pa x.1.N.ps.length pc, .int .i64 (x.1.N.ps.length : Int), .int .i64 (x.1.N.ps.length : Int), .bool false, fy 55, fy 56, fy 57, fy 58, fy 59, fy 60, fy 61, fy 62, fy 63, fy 64, fy 65, fy 66, fy 67, fy 68, fy 69, fy 70, fy 71, fy 72, fy 73, fy 74, fy 75, fy 76, fy 77, .int .i64 ((t + 1 : Nat) : Int), undef].getD i undef, rfl, by omega, S ++ [(gs, W)], IS.out, by simp [JL.out], fun i hi => ?_⟩, by simp [intOf]; omega⟩
    have hgd : ∀ k, k < S.length → ((S ++ [(gs, W)]).map (·.2)).getD k [] = (S.map (·.2)).getD k [] := fun k hk => by
     simp only [List.getD_eq_getElem?_getD, List.map_append]
     rw [List.getElem?_append_left (by simpa using hk)]
    rw [List.length_append, List.length_singleton] at hi
    rcases Nat.lt_or_eq_of_le (Nat.le_of_lt_succ hi) with h | rfl
    ·rw [List.getElem_append_left h]
     refine ⟨?_, (JU.out i h).2⟩
     rw [(JU.out i h).1]
     refine undF_congr fun k hk => (hgd k ?_).symm
     obtain ⟨h', hh', rfl⟩ := List.mem_map.1 hk
     have hiH := (JU.out i h).2.1
     rw [exs_get? H i hiH, Option.getD_some] at hh'
     have := HT.out i (by rw [exs_len]; exact hiH) h' (by rw [exs_get H i hiH]; exact hh')
     omega
    ·have hte := JL.out
     subst hte
     rw [List.getElem_append_right (Nat.le_refl _)]
     simp only [Nat.sub_self, List.getElem_singleton]
     refine ⟨?_, htl, by rw [IW.out]; exact undF_wds HWd.out _ _⟩
     rw [exs_get? H _ htl, Option.getD_some, ← hx.out]
     refine IW.out.trans (undF_congr fun k hk => (hgd k ?_).symm)
     obtain ⟨h', hh', rfl⟩ := List.mem_map.1 hk
     exact HT.out _ (by rw [exs_len]; exact htl) h' (by rw [exs_get H _ htl, ← hx.out]; exact hh')
  ·have hte : t = H.length := by omega
   subst hte
   refine wp_seq_k fun K20 hK20 => rgn ?_
   refine VbF ?_
   refine WL.nil (hK20 _ _ ?_)
   refine wp_seq_k fun K21 hK21 => ?_
   refine wp_cond_false rfl ?_
   refine wp_exit ?_
   refine hK4 _ _ ?_
   refine wp_seq_k fun K22 hK22 => rgn ?_
   refine VlS (.pointer (some ⟨pb, 0, none⟩)) ?_
   refine VlS (.pointer (some ⟨pb, 0, none⟩)) ?_
   refine WL.nil (hK22 _ _ ?_)
   refine wp_ret ?_
   go_ret
   exact ⟨pb, mb, ub, S, rfl, JS.out, JL.out, JU.out⟩
theorem Tryz.in10 (w : World) (vs : Array Value) : (callFunc 10 vs).run Tryz.prog w = .ok (.enter 10 vs) w := by kernel_rfl
theorem Tryz.in33 (w : World) (vs : Array Value) : (callFunc 33 vs).run Tryz.prog w = .ok (.enter 33 vs) w := by kernel_rfl
theorem LaySt.early {w w1 : World} {v : Value} {H : List EP} {pb mb ub t : Nat} {S : List (Nat × List Nat)} {wr : World} (h : LaySt w1 v H pb mb ub t S wr) (hb : Below w.heap.size w w1) : LaySt w v H pb mb ub t S wr :=
 { h with s := fun e he => ⟨(h.s e he).1, Nat.le_trans hb.size (h.s e he).2⟩, bel := belowC hb h.bel, lp := Nat.le_trans hb.size h.lp, lm := Nat.le_trans hb.size h.lm, lu := Nat.le_trans hb.size h.lu }
theorem OwnL.early {w w1 wr : World} {v : Value} {H : List EP} (h : OwnL w1 wr v H) (hb : Below w.heap.size w w1) : OwnL w wr v H where
 own := ⟨h.own.1, h.own.2.imp id fun ⟨g, cap, cur, h1, h2, h3⟩ => ⟨g, cap, cur, h1, Nat.le_trans hb.size h2, h3⟩⟩
 ents := fun q hq => (h.ents q hq).early hb
 bel := belowC hb h.bel
theorem OwnL.sl {w w' : World} {v : Value} {H : List EP} (h : OwnL w w' v H) : ESl w' v H := by
 rcases (owns_sl h.own).2 with ⟨a, c, rfl, h0⟩ | ⟨b, off, c, rfl, h1, h2⟩
 ·exact .inl ⟨a, c, rfl, List.eq_nil_of_length_eq_zero h0⟩
 ·exact .inr ⟨b, off, c, rfl, h1, h2⟩
structure PastAt (w w' : World) (p : Nat) (L : List EX) (H : List EP) (S : List (Nat × List Nat)) : Prop where
 at' : ∃ v mb ub, LaySt w v H p mb ub H.length S w' ∧ OwnL w w' v H
 sl : S.length = H.length
 und : ∀ i (hi : i < S.length), S[i].2 = undF (S.map (·.2)) i ((((exs H)[i]?).getD dEX).N.ps.map (ixH (idsE (exs H)))) ∧ i < H.length ∧ Wds S[i].2
 good : Good L
 one : OneO (parH (L.map vxE)) (idsE (exs H))
 mem : ∀ x, x ∈ idsE (exs H) ↔ x ∈ idsE L
 sub : ∀ x ∈ exs H, x ∈ L
 len : H.length = L.length
theorem PastAt.bel {w wr : World} {p : Nat} {L : List EX} {H : List EP} {S : List (Nat × List Nat)} (h : PastAt w wr p L H S) : Below w.heap.size w wr := let ⟨_, _, _, h1, _⟩ := h.at'; h1.bel
theorem topo_of {L H : List EX} (hG : Good L) (h1 : OneO (parH (L.map vxE)) (idsE H)) (hm : ∀ x, x ∈ idsE H ↔ x ∈ idsE L) (hs : ∀ x ∈ H, x ∈ L) : Topo H := fun i hi h hh => by
 have hx : H[i] ∈ L := hs _ (List.getElem_mem hi)
 have hnv : ((L.map vxE).map (·.id)).Nodup := by rw [idsE_vx]; exact hG.nd
 have hp : parH (L.map vxE) H[i].id = H[i].N.ps := parH_mem hnv (List.mem_map.2 ⟨H[i], hx, rfl⟩ : vxE H[i] ∈ L.map vxE)
 have hmem : h ∈ idsE H := (hm h).2 (mem_has.2 ((hG.par hx).1 h hh))
 have hlt := ixH_lt.2 hmem
 refine h1.top i (ixH (idsE H) h) H[i].id h ?_ ?_ (by rw [hp]; exact hh)
 ·rw [List.getElem?_eq_getElem (by rw [idsE_len]; exact hi)]; simp [idsE]
 ·rw [List.getElem?_eq_getElem hlt, ixH_get hlt]
def OfPost (L : List EP) (w : World) (e : Ending) (w' : World) : Prop :=
 (∃ p H S, e = .returned (.tuple #[.pointer (some ⟨p, 0, none⟩), .int .i64 0, .int .i64 0]) ∧ PastAt w w' p (exs L) H S) ∨
 (Below w.heap.size w w' ∧ ∃ i, i < L.length ∧ (∀ j, j < i → al1 (exs L) j = 0) ∧ al1 (exs L) i ≠ 0 ∧ e = .returned (.tuple #[.pointer none, .int .i64 (al1 (exs L) i), .int .i64 (i : Int)])) ∨
 (Below w.heap.size w w' ∧ (∀ i, i < L.length → al1 (exs L) i = 0) ∧ ∃ i, i < L.length ∧ (∀ j, j < i → tg1 (exs L) j = 0) ∧ tg1 (exs L) i ≠ 0 ∧ e = .returned (.tuple #[.pointer none, .int .i64 (tg1 (exs L) i), .int .i64 (i : Int)]))
set_option maxRecDepth 8000 in
set_option maxHeartbeats 4000000 in
theorem of_any (v : Value) (L : List EP) (w : World) (hs : ESl w v L) (hi : EIn w L) (hL : L.length ≤ 4398046511104) : Calls Tryz.prog 10 #[v] w (OfPost L w) := by
 obtain ⟨sa, sc, rfl⟩ := hs.form
 have HS := Keep.mk hs
 have HI := Keep.mk hi
 have HL := Keep.mk hL
 clear hs hi hL
 by_cases hok : ∀ i, i < L.length → al1 (exs L) i = 0
 rotate_left
 ·have hbad := hok
  go_enter Tryz.func10, Tryz.ntmps10
  refine wp_seq_k fun K1 hK1 => rgn ?_
  refine VlS (.pointer none) ?_
  refine VlS (.int .i64 0) ?_
  refine VlS (.int .i64 0) ?_
  refine WL.nil (hK1 _ _ ?_)
  refine wp_seq_k fun K2 hK2 => rgn ?_
  refine VlS (.slice sa L.length sc) ?_
  refine WL.callF (by kernel_rfl) 31 _ _ rfl Tryz.in31 #[.slice sa L.length sc] (by simp [Act.eval]) ?_
  refine (alone_any _ L w HS.out HI.out HL.out).mono ?_
  rintro e w1 (⟨b, -, -, -, -, h⟩ | ⟨i, hi, hj, hne, rfl, hb⟩)
  ·exact absurd h hbad
  refine ⟨_, rfl, ?_⟩
  obtain ⟨c, hc⟩ : ∃ c, Keep (al1 (exs L) i = c) := ⟨_, ⟨rfl⟩⟩
  rw [hc.out]
  have hc0 : ¬ c = 0 := by rw [← hc.out]; exact hne
  simp only [Act.put, pqA, pqB, pqC]
  refine VlS (.tuple #[.map none, .int .i64 c, .int .i64 (i : Int)]) ?_
  refine VlS (.map none) ?_
  refine VlS (.int .i64 c) ?_
  refine VlS (.int .i64 (i : Int)) ?_
  refine VlS (.map none) ?_
  refine VlS (.int .i64 c) ?_
  refine VlS (.int .i64 (i : Int)) ?_
  refine WL.nil (hK2 _ _ ?_)
  refine wp_seq_k fun K3 hK3 => ?_
  refine wp_seq_k fun K4 hK4 => rgn ?_
  refine VlS (.int .i64 c) ?_
  refine VbF ?_
  refine WL.nil (hK4 _ _ ?_)
  refine wp_cond_false rfl ?_
  refine wp_skip ?_
  refine hK3 _ _ ?_
  refine wp_seq_k fun K5 hK5 => ?_
  refine wp_seq_k fun K6 hK6 => rgn ?_
  refine VlS (.int .i64 c) ?_
  refine VbT ?_
  refine WL.nil (hK6 _ _ ?_)
  refine wp_cond_true rfl ?_
  refine wp_seq_k fun K7 hK7 => rgn ?_
  refine VlS (.int .i64 c) ?_
  refine VlS (.int .i64 (i : Int)) ?_
  refine VlS (.pointer none) ?_
  refine VlS (.int .i64 c) ?_
  refine VlS (.int .i64 (i : Int)) ?_
  refine WL.nil (hK7 _ _ ?_)
  refine wp_ret ?_
  go_ret3
  exact .inr (.inl ⟨hb, i, hi, hj, hne, by rw [hc.out]; rfl⟩)
 by_cases hok2 : ∀ i, i < L.length → tg1 (exs L) i = 0
 rotate_left
 ·have hbad := hok2
  go_enter Tryz.func10, Tryz.ntmps10
  refine wp_seq_k fun K1 hK1 => rgn ?_
  refine VlS (.pointer none) ?_
  refine VlS (.int .i64 0) ?_
  refine VlS (.int .i64 0) ?_
  refine WL.nil (hK1 _ _ ?_)
  refine wp_seq_k fun K2 hK2 => rgn ?_
  refine VlS (.slice sa L.length sc) ?_
  refine WL.callF (by kernel_rfl) 31 _ _ rfl Tryz.in31 #[.slice sa L.length sc] (by simp [Act.eval]) ?_
  refine (alone_any _ L w HS.out HI.out HL.out).mono ?_
  rintro e w1 (⟨b, rfl, hM, hlb, hb1, -⟩ | ⟨i, hi, -, hne, -, -⟩)
  rotate_left
  ·exact absurd (hok i hi) hne
  refine ⟨_, rfl, ?_⟩
  have HM := Keep.mk hM
  have B1 := Keep.mk hb1
  clear hM hb1
  simp only [Act.put, pqA, pqB, pqC]
  refine VlS (.tuple #[.map (some b), .int .i64 0, .int .i64 0]) ?_
  refine VlS (.map (some b)) ?_
  refine VlS (.int .i64 0) ?_
  refine VlS (.int .i64 0) ?_
  refine VlS (.map (some b)) ?_
  refine VlS (.int .i64 0) ?_
  refine VlS (.int .i64 0) ?_
  refine WL.nil (hK2 _ _ ?_)
  refine wp_seq_k fun K3 hK3 => ?_
  refine wp_seq_k fun K4 hK4 => rgn ?_
  refine VlS (.int .i64 0) ?_
  refine VbT ?_
  refine WL.nil (hK4 _ _ ?_)
  refine wp_cond_true rfl ?_
  refine rgn ?_
  refine VlS (.slice sa L.length sc) ?_
  refine VlS (.map (some b)) ?_
  refine WL.callF (by kernel_rfl) 32 _ _ rfl Tryz.in32 #[.slice sa L.length sc, .map (some b)] (by simp [Act.eval]) ?_
  refine (tog_any _ b L w1 (HS.out.below B1.out) (HI.out.below B1.out) HM.out hok HL.out).mono ?_
  rintro e w2 ⟨hb2, ⟨-, h⟩ | ⟨i, hi, hj, hne, rfl⟩⟩
  ·exact absurd h hbad
  refine ⟨_, rfl, ?_⟩
  obtain ⟨c, hc⟩ : ∃ c, Keep (tg1 (exs L) i = c) := ⟨_, ⟨rfl⟩⟩
  rw [hc.out]
  have hc0 : ¬ c = 0 := by rw [← hc.out]; exact hne
  simp only [Act.put, pqA, pqB, pqC]
  refine VlS (.tuple #[.int .i64 c, .int .i64 (i : Int)]) ?_
  refine VlS (.int .i64 c) ?_
  refine VlS (.int .i64 (i : Int)) ?_
  refine VlS (.int .i64 c) ?_
  refine VlS (.int .i64 (i : Int)) ?_
  refine WL.nil (hK3 _ _ ?_)
  refine wp_seq_k fun K5 hK5 => ?_
  refine wp_seq_k fun K6 hK6 => rgn ?_
  refine VlS (.int .i64 c) ?_
  refine VbT ?_
  refine WL.nil (hK6 _ _ ?_)
  refine wp_cond_true rfl ?_
  refine wp_seq_k fun K7 hK7 => rgn ?_
  refine VlS (.int .i64 c) ?_
  refine VlS (.int .i64 (i : Int)) ?_
  refine VlS (.pointer none) ?_
  refine VlS (.int .i64 c) ?_
  refine VlS (.int .i64 (i : Int)) ?_
  refine WL.nil (hK7 _ _ ?_)
  refine wp_ret ?_
  go_ret3
  exact .inr (.inr ⟨belowC B1.out hb2, hok, i, hi, hj, hne, by rw [hc.out]; rfl⟩)
 ·have HG : Keep (Good (exs L)) := ⟨⟨fun i hi => hok i (by rwa [exs_len] at hi), fun i hi => hok2 i (by rwa [exs_len] at hi)⟩⟩
  go_enter Tryz.func10, Tryz.ntmps10
  refine wp_seq_k fun K1 hK1 => rgn ?_
  refine VlS (.pointer none) ?_
  refine VlS (.int .i64 0) ?_
  refine VlS (.int .i64 0) ?_
  refine WL.nil (hK1 _ _ ?_)
  refine wp_seq_k fun K2 hK2 => rgn ?_
  refine VlS (.slice sa L.length sc) ?_
  refine WL.callF (by kernel_rfl) 31 _ _ rfl Tryz.in31 #[.slice sa L.length sc] (by simp [Act.eval]) ?_
  refine (alone_any _ L w HS.out HI.out HL.out).mono ?_
  rintro e w1 (⟨b, rfl, hM, hlb, hb1, -⟩ | ⟨i, hi, -, hne, -, -⟩)
  rotate_left
  ·exact absurd (hok i hi) hne
  refine ⟨_, rfl, ?_⟩
  have HM := Keep.mk hM
  have B1 := Keep.mk hb1
  clear hM hb1
  simp only [Act.put, pqA, pqB, pqC]
  refine VlS (.tuple #[.map (some b), .int .i64 0, .int .i64 0]) ?_
  refine VlS (.map (some b)) ?_
  refine VlS (.int .i64 0) ?_
  refine VlS (.int .i64 0) ?_
  refine VlS (.map (some b)) ?_
  refine VlS (.int .i64 0) ?_
  refine VlS (.int .i64 0) ?_
  refine WL.nil (hK2 _ _ ?_)
  refine wp_seq_k fun K3 hK3 => ?_
  refine wp_seq_k fun K4 hK4 => rgn ?_
  refine VlS (.int .i64 0) ?_
  refine VbT ?_
  refine WL.nil (hK4 _ _ ?_)
  refine wp_cond_true rfl ?_
  refine rgn ?_
  refine VlS (.slice sa L.length sc) ?_
  refine VlS (.map (some b)) ?_
  refine WL.callF (by kernel_rfl) 32 _ _ rfl Tryz.in32 #[.slice sa L.length sc, .map (some b)] (by simp [Act.eval]) ?_
  refine (tog_any _ b L w1 (HS.out.below B1.out) (HI.out.below B1.out) HM.out hok HL.out).mono ?_
  rintro e w2 ⟨hb2, ⟨rfl, -⟩ | ⟨i, hi, -, hne, -⟩⟩
  rotate_left
  ·exact absurd (hok2 i hi) hne
  refine ⟨_, rfl, ?_⟩
  have B2 := Keep.mk (belowC B1.out hb2)
  have HM2 := Keep.mk (HM.out.below hb2)
  clear hb2
  simp only [Act.put, pqA, pqB, pqC]
  refine VlS (.tuple #[.int .i64 0, .int .i64 0]) ?_
  refine VlS (.int .i64 0) ?_
  refine VlS (.int .i64 0) ?_
  refine VlS (.int .i64 0) ?_
  refine VlS (.int .i64 0) ?_
  refine WL.nil (hK3 _ _ ?_)
  refine wp_seq_k fun K5 hK5 => ?_
  refine wp_seq_k fun K6 hK6 => rgn ?_
  refine VlS (.int .i64 0) ?_
  refine VbF ?_
  refine WL.nil (hK6 _ _ ?_)
  refine wp_cond_false rfl ?_
  refine wp_skip ?_
  refine hK5 _ _ ?_
  refine wp_seq_k fun K7 hK7 => rgn ?_
  refine VlS (.slice sa L.length sc) ?_
  refine VlS (.map (some b)) ?_
  refine WL.callF (by kernel_rfl) 34 _ _ rfl Tryz.in34 #[.slice sa L.length sc, .map (some b)] (by simp [Act.eval]) ?_
  refine (inOrder_any _ b L w2 (HS.out.below B2.out) (HI.out.below B2.out) HM2.out HG.out).mono ?_
  rintro e w3 ⟨v3, H, rfl, hIn⟩
  refine ⟨_, rfl, ?_⟩
  have HIn := Keep.mk hIn
  clear hIn
  simp only [Act.put, pqA, pqB, pqC]
  refine WL.callF (by kernel_rfl) 33 _ _ rfl Tryz.in33 #[v3] (by simp [Act.eval]) ?_
  refine (lay_any v3 H w3 HIn.out.own.sl (fun q hq => (HIn.out.own.ents q hq).nd) HIn.out.one.nd (topo_of HG.out HIn.out.one HIn.out.mem HIn.out.sub) (by rw [HIn.out.len]; exact HG.out.len) (fun q hq => (ck_ok (HG.out.chk (HIn.out.sub _ (List.mem_map.2 ⟨q, hq, rfl⟩)))).2.2)).mono ?_
  rintro e w4 ⟨pb, mb, ub, S, rfl, hSt, hSl, hU⟩
  refine ⟨_, rfl, ?_⟩
  simp only [Act.put, pqA, pqB, pqC]
  refine VlS (.pointer (some ⟨pb, 0, none⟩)) ?_
  refine VlS (.int .i64 0) ?_
  refine VlS (.int .i64 0) ?_
  refine WL.nil (hK7 _ _ ?_)
  refine wp_ret ?_
  go_ret3
  exact .inl ⟨pb, H, S, rfl, ⟨⟨v3, mb, ub, (hSt.early HIn.out.own.bel).early B2.out, (HIn.out.own.below hSt.bel).early B2.out⟩, hSl, hU, HG.out, HIn.out.one, HIn.out.mem, HIn.out.sub, HIn.out.len⟩⟩
end Go.Proofs.YthlohkgdmfkpeaaGreat
